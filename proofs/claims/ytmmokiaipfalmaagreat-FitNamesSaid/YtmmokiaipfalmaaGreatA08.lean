/- The pods near a pod that are of terms, by the program's words: near. A contract. Condition: the cluster and the numbers lie in memory, the placement may be, the pod does not wait. The program's rules for ClauseWith and ClauseApart: alone and notApart. Contracts. Condition: the cluster and the numbers lie in memory, the placement may be, the pod does not wait. The program's rule for ClauseSpread: overSkew. A contract. Condition: the cluster and the numbers lie in memory, the owner is there. The program's rule for ClauseDouble: isSingle and double. Contracts. Condition: the cluster and the numbers lie in memory, and the placement may be. The program's rule for ClauseDouble: double. A contract. Condition: the cluster and the numbers lie in memory, the placement may be, the pod does not wait. The clause of a kind about a subject, whichever they are: by. A contract. Condition: the cluster and the numbers lie in memory, the placement may be, the subject is one of it. The clauses that are asked for, by the program's words: look. A contract. Condition: the cluster and the numbers lie in memory; what it is handed answers of each clause. The clauses that are asked for, by the program's words: look. Contracts. Condition: the cluster and the numbers lie in memory; what it is handed answers of each clause. All, Of and Pod, by the program's words. Contracts. Condition: the cluster and the numbers lie in memory. By how much the clauses of a placement are broken, as a map: the program's brokenBy, whichOf, weight. Contracts. Condition: the cluster and the numbers lie in memory. -/
import Derived.Test.YtmmokiaipfalmaaGreatA07
import Derived.StillTailTactics
import Derived.Deep.RegionHeld3
import Derived.Test.YtmmokiaipfalmaaGreatShelf
import Derived.Handy
import Derived.Lib.Slices

namespace Go.Proofs.YtmmokiaipfalmaaGreat
open Go.RowKit

theorem int_info8 : (Tryz.prog.info? 3).map (fun i => (i.zero, i.size, i.bytes)) = some (some (.int .i64 0), 1, 8) := by kernel_rfl
abbrev nearV (AT : Option Addr) (ct : Nat) (topo : List UInt8) (terms : List T3) : Value := .agg #[strV topo, .slice AT terms.length ct]

set_option maxRecDepth 100000 in
set_option maxHeartbeats 8000000 in
theorem near8_any (A B C P AT : Option Addr) (ca cb cc cp ct : Nat) (ns : List NodeD) (ps : List PodD) (os : List OwnD) (p : List Int) (i q : Nat) (topo : List UInt8) (terms : List T3) (n : NodeD) (hE : placeE ns ps os p = 0) (hi : p[i]? = some (q : Int)) (hn : ns[q]? = some n) (htl : terms.length ≤ 6) (htc : terms.length ≤ ct) (w : World) (h : SnapAt w A B C ca cb cc ns ps os) (hp : IntsAt w P cp p) (hT : La.SlAt w AT (La.cellsT terms)) :
    Calls Tryz.prog 357 #[viewV A B C P ca cb cc cp ns ps os p, .int .i64 (i : Int), nearV AT ct topo terms] w fun e w' => ∃ v, e = .returned v ∧ w'.ownsRow w.heap.size 3 1 v (nearP ns ps p i topo terms p.length).length ((nearP ns ps p i topo terms p.length).map (Value.int .i64)) ∧ Below w.heap.size w w' := by
  have hck := placeE_chk hE
  have hnm := List.mem_of_getElem? hn
  obtain ⟨nk1, nk2, _⟩ := node_keys hck hnm
  have nvl := node_vals hck hnm
  have hlp := h.lp
  have HPL := Lib.hid (placeE_len hE)
  have hlost : n.lost = false := tpB_up (placeE_on hE hi (by omega)) hn
  have HON : Hid (∀ (k : Nat) (x : Int), p[k]? = some x → x ≠ -1 → ∃ (q : Nat) (xa : NodeD), x = (q : Int) ∧ ns[q]? = some xa ∧ xa.lost = false ∧ xa.labels.Pairwise (fun a b => a.1 ≠ b.1) ∧ xa.labels.length ≤ 6 ∧ (∀ y ∈ xa.labels, y.2.length ≤ 1000)) := Lib.hid (fun k x hk hx => by
    have ht := placeE_on hE hk hx
    obtain ⟨q, rfl, hq⟩ := tpB_lt ht
    have hm : ns[q]? = some ns[q] := List.getElem?_eq_getElem hq
    obtain ⟨a1, a2, _⟩ := node_keys hck (List.mem_of_getElem? hm)
    exact ⟨q, ns[q], rfl, hm, tpB_up ht hm, a1, a2, node_vals hck (List.mem_of_getElem? hm)⟩)
  have HPO : Hid (∀ (k : Nat) (y : PodD), ps[k]? = some y → y.labels.Pairwise (fun a b => a.1 ≠ b.1) ∧ y.labels.length ≤ 6) := Lib.hid (fun k y hy => by
    obtain ⟨a1, a2, _⟩ := pod_keys hck (List.mem_of_getElem? hy)
    exact ⟨a1, a2⟩)
  obtain ⟨i0x, hi0, hz0, hz1, hz2⟩ := info_parts int_info8
  have i0 : (0 : Int) ≤ (i : Int) := by omega
  have i1 : (i : Int) < (p.length : Int) := by have := (List.getElem?_eq_some_iff.1 hi).1; omega
  have q1 : (0 : Int) ≤ (q : Int) := by omega
  have q2 : (q : Int) < (ns.length : Int) := by have := (List.getElem?_eq_some_iff.1 hn).1; omega
  obtain ⟨bp, op, hAp, _, _⟩ := atI hp.cells hi
  subst hAp
  obtain ⟨bn, on, hA, _⟩ := atN h.n.cells hn
  subst hA
  have B0 : Hid (Below w.heap.size w ((w.alloc (.cells (viewC (some ⟨bn, on, none⟩) B C (some ⟨bp, op, none⟩) ca cb cc cp ns ps os p) 256)).alloc (.cells #[strV topo, .slice AT terms.length ct] 51))) := Lib.hid (Qu.below2 w _ _)
  have S0 : Hid (Blk ((w.alloc (.cells (viewC (some ⟨bn, on, none⟩) B C (some ⟨bp, op, none⟩) ca cb cc cp ns ps os p) 256)).alloc (.cells #[strV topo, .slice AT terms.length ct] 51)) w.heap.size (viewC (some ⟨bn, on, none⟩) B C (some ⟨bp, op, none⟩) ca cb cc cp ns ps os p) 256) := Lib.hid (Blk.alloc (Blk.new w _ _) _)
  have N0 : Hid (Blk ((w.alloc (.cells (viewC (some ⟨bn, on, none⟩) B C (some ⟨bp, op, none⟩) ca cb cc cp ns ps os p) 256)).alloc (.cells #[strV topo, .slice AT terms.length ct] 51)) (w.heap.size + 1) #[strV topo, .slice AT terms.length ct] 51) := Lib.hid (blk2 w _ _ _)
  have HPC : Hid (∀ W', Below w.heap.size w W' → ∀ (k : Nat) (x : Int), p[k]? = some x → W'.cell? ⟨bp, op + k, none⟩ = some (.int .i64 x)) := Lib.hid (fun W' hb k x hk => by
    obtain ⟨b', o', hA', _, hc⟩ := atI (hp.below hb).cells hk
    cases hA'
    exact hc)
  have NC : Hid (∀ W', Below w.heap.size w W' → ∀ (k : Nat) (x : NodeD), ns[k]? = some x → W'.cell? ⟨bn, on + k * 10 + 6, none⟩ = some (.slice x.al x.labels.length x.cl)) := Lib.hid (fun W' hb k x hk => by
    obtain ⟨b', o', hA', _, c0, c1, c2, c3, c4, c5, c6, _⟩ := atN (h.below hb).n.cells hk
    cases hA'
    exact c6)
  have NF := Lib.hid (fun W' (hb : Below w.heap.size w W') (k : Nat) (x : NodeD) (hk : ns[k]? = some x) => ((h.below hb).n.fit x (List.mem_of_getElem? hk)).l)
  have PF := Lib.hid (fun W' (hb : Below w.heap.size w W') (k : Nat) (x : PodD) (hk : ps[k]? = some x) => ((h.below hb).p.fit x (List.mem_of_getElem? hk)).l)
  have PCE := Lib.hid (fun W' (hb : Below w.heap.size w W') (k : Nat) (x : PodD) (hk : ps[k]? = some x) => atP (h.below hb).p.cells hk)
  have HTM := Lib.hid (fun W' (hb : Below w.heap.size w W') => hT.below hb)
  have HI := Lib.hid hi
  have HN := Lib.hid hn
  have KG := Lib.hid (fun W' (hb : Below w.heap.size w W') => La.get_any n.al n.cl n.labels topo W' (by omega) (NF.out W' hb q n HN.out).le (NF.out W' hb q n HN.out).cells nvl)
  have HNone := Lib.hid (fun hv : valK n topo = none => nearP_none (ps := ps) (terms := terms) HI.out HN.out hv p.length)
  rw [valK_up hlost] at HNone
  have HAt : Hid (∀ (k q' : Nat) (xa : NodeD) (y : PodD), p[k]? = some (q' : Int) → ns[q']? = some xa → xa.lost = false → ps[k]? = some y → y.labels.Pairwise (fun a b => a.1 ≠ b.1) → aboutB ns ps p i topo terms false k = ((match getO xa.labels topo, getO n.labels topo with | some u, some v => decide (u = v) | _, _ => false) && La.holdsL terms y.labels)) := Lib.hid (fun k q' xa y h1 h2 h3 h4 h5 => by
    unfold aboutB
    rw [h1, HI.out, h4]
    dsimp only
    rw [Int.toNat_natCast, Int.toNat_natCast, h2, HN.out, decide_eq_true (by omega : (0 : Int) ≤ (q' : Int)), holdsO_eq _ h5]
    dsimp only
    unfold nearO
    rw [valK_up h3, valK_up hlost]
    cases getO xa.labels topo <;> cases getO n.labels topo <;> simp)
  have HWait : Hid (∀ k : Nat, p[k]? = some (-1) → aboutB ns ps p i topo terms false k = false) := Lib.hid (fun k h1 => by
    unfold aboutB
    rw [h1, HI.out]
    cases ps[k]? <;> simp)
  have HNP : Hid (∀ k, nearP ns ps p i topo terms (k + 1) = nearP ns ps p i topo terms k ++ (if aboutB ns ps p i topo terms false k then [(k : Int)] else [])) := Lib.hid (fun k => rfl)
  have HNL : Hid (∀ k, (nearP ns ps p i topo terms k).length ≤ k) := Lib.hid (fun k => by rw [nearP_len]; exact aboutU_le ns ps p i topo terms false k)
  have HNZ : Hid (nearP ns ps p i topo terms 0 = []) := Lib.hid rfl
  rw [getL_getO] at KG
  generalize getO n.labels topo = D at KG HNone HAt
  generalize nearP ns ps p i topo terms = NP at HNone HNP HNL HNZ ⊢
  generalize aboutB ns ps p i topo terms false = AB at HAt HWait HNP
  have pi := HPC.out _ B0.out i _ hi
  have ni := NC.out _ B0.out q _ hn
  clear h hp hT hE hi hn hck hnm nk1 nk2 nvl hlost
  go_enter Tryz.func357, Tryz.ntmps357
  obtain ⟨W, hW⟩ : ∃ W, ((w.alloc (.cells (viewC (some ⟨bn, on, none⟩) B C (some ⟨bp, op, none⟩) ca cb cc cp ns ps os p) 256)).alloc (.cells #[strV topo, .slice AT terms.length ct] 51)) = W := ⟨_, rfl⟩
  rw [hW] at B0 S0 N0 pi ni
  go_upto_region 1 with fail
  try rw [show ((w.alloc (.cells #[.slice (some ⟨bn, on, none⟩) ns.length ca, .slice B ps.length cb, .slice C os.length cc, .slice (some ⟨bp, op, none⟩) p.length cp] 256)).alloc (.cells #[strV topo, .slice AT terms.length ct] 51)) = W from hW]
  clear hW
  have HZ := Lib.hid (fun W' (hb : Below W.heap.size W W') => (show W'.cell? ⟨w.heap.size, 0, none⟩ = some (.slice (some ⟨bn, on, none⟩) ns.length ca) ∧ W'.cell? ⟨w.heap.size, 1, none⟩ = some (.slice B ps.length cb) ∧ W'.cell? ⟨w.heap.size, 3, none⟩ = some (.slice (some ⟨bp, op, none⟩) p.length cp) ∧ W'.cell? ⟨w.heap.size + 1, 0, none⟩ = some (strV topo) ∧ W'.cell? ⟨w.heap.size + 1, 1, none⟩ = some (.slice AT terms.length ct) from ⟨Blk.cell (S0.out.below hb S0.out.lt) 0, Blk.cell (S0.out.below hb S0.out.lt) 1, Blk.cell (S0.out.below hb S0.out.lt) 3, Blk.cell (N0.out.below hb N0.out.lt) 0, Blk.cell (N0.out.below hb N0.out.lt) 1⟩))
  have HT := Lib.hid (fun W' (hb : Below W.heap.size W W') => B0.out.trans (hb.mono B0.out.size))
  have HB0 := Lib.hid B0.out.size
  clear B0 S0 N0
  have HB : Hid (Below W.heap.size W W.drew) := Lib.hid (Below.refl _ W).drew
  obtain ⟨z0, z1, z3, t0, t1⟩ := HZ.out _ HB.out
  have pi := HPC.out _ (HT.out _ HB.out) i _ HI.out
  have ni := NC.out _ (HT.out _ HB.out) q _ HN.out
  go_cut [7, 8] (fun a b wc => a = strV (D.getD []) ∧ b = .bool D.isSome ∧ Below W.heap.size W wc)
  case first =>
    go_region_held3 (fun w' => w'.cell? ⟨w.heap.size, 0, none⟩ = some (.slice (some ⟨bn, on, none⟩) ns.length ca) ∧ w'.cell? ⟨w.heap.size, 3, none⟩ = some (.slice (some ⟨bp, op, none⟩) p.length cp) ∧ w'.cell? ⟨w.heap.size + 1, 0, none⟩ = some (strV topo) ∧ w'.cell? ⟨bp, op + i, none⟩ = some (.int .i64 (q : Int)) ∧ w'.cell? ⟨bn, on + q * 10 + 6, none⟩ = some (.slice n.al n.labels.length n.cl)) (first | exact ⟨z0, z3, t0, pi, ni⟩ | exact ⟨by assumption, by assumption, by assumption, by assumption, by assumption⟩)
      (first
        | (go_at_call 378
           refine (KG.out _ (HT.out _ HB.out)).mono ?_
           rintro e w1 ⟨rfl, hb1⟩
           have HB := Lib.hid (HB.out.trans (hb1.mono HB.out.size))
           obtain ⟨z0, z1, z3, t0, t1⟩ := HZ.out _ HB.out
           have pi := HPC.out _ (HT.out _ HB.out) i _ HI.out
           have ni := NC.out _ (HT.out _ HB.out) q _ HN.out
           clear hb1))
    all_goals
      (try go_wp2_with fail)
      go_meet
      exact ⟨rfl, rfl, HB.out⟩
  case' rest => obtain ⟨rfl, rfl, hbc⟩ := hcut
  case' rest => have HB := Lib.hid hbc
  clear hbc z0 z1 z3 t0 t1 pi ni KG
  obtain ⟨z0, z1, z3, t0, t1⟩ := HZ.out _ HB.out
  cases D with
  | none =>
    have HE := Lib.hid (HNone.out rfl)
    clear HNone HAt
    go_wp2
    go_ret
    rw [HE.out]
    exact ⟨_, rfl, World.ownsRow_nil _ _ _ _, HT.out _ HB.out⟩
  | some dom =>
    clear HNone
    simp only [Option.getD_some, Option.isSome_some]
    go_wp2_with fail
    clear z0 z1 z3 t0 t1
    have HBs := HB
    clear HB
    go_loopw [6, 35] (fun v j wr => ∃ k : Nat, k ≤ p.length ∧ j = .int .i64 (k : Int) ∧ wr.ownsRow W.heap.size 3 1 v (NP k).length ((NP k).map (Value.int .i64)) ∧ Below W.heap.size W wr) (fun _ j _ => p.length - (intOf j).toNat)
    case atStart => exact ⟨0, by omega, rfl, by rw [HNZ.out]; exact World.ownsRow_nil _ _ _ _, HBs.out⟩
    case round =>
      clear HBs
      obtain ⟨k, hk, rfl, ho, hb⟩ := hrel
      have HO := Lib.hid ho
      have HB := Lib.hid hb
      clear ho hb
      by_cases hlt : k < p.length
      case neg =>
        obtain rfl : k = p.length := by omega
        go_wp2
        go_ret
        exact ⟨_, rfl, own_base HO.out HB0.out, HT.out _ HB.out⟩
      obtain ⟨x, hx⟩ : ∃ x, p[k]? = some x := ⟨p[k], List.getElem?_eq_getElem hlt⟩
      obtain ⟨y, hy⟩ : ∃ y, ps[k]? = some y := ⟨ps[k]'(by have := HPL.out; omega), List.getElem?_eq_getElem _⟩
      have HX := Lib.hid hx
      have HY := Lib.hid hy
      have k0 : (0 : Int) ≤ (k : Int) := by omega
      have k1 : (k : Int) < (p.length : Int) := by omega
      have k2 : (k : Int) < (ps.length : Int) := by have := HPL.out; omega
      have HN1 := Lib.hid (HNP.out k)
      have hnl := HNL.out k
      generalize NP k = M at HO HN1 hnl
      have pk := HPC.out _ (HT.out _ HB.out) k x hx
      obtain ⟨b, o, hB, _⟩ := PCE.out _ (HT.out _ HB.out) k y hy
      subst hB
      have YC : Hid (∀ W', Below W.heap.size W W' → W'.cell? ⟨b, o + k * 15 + 7, none⟩ = some (.slice y.al y.labels.length y.cl)) := Lib.hid (fun W' hb => by
        obtain ⟨b', o', hA', _, c0, c1, c2, c3, c4, c5, c6, c7, _⟩ := PCE.out W' (HT.out W' hb) k y HY.out
        cases hA'
        exact c7)
      by_cases hxw : x = -1
      case pos =>
        subst hxw
        have HE : Hid (NP (k + 1) = M) := Lib.hid (by rw [HN1.out, HWait.out k HX.out]; simp)
        clear hx hy HN1
        go_upto_region 7 with fail
        go_quiet (fail)
        go_wp2_with fail
        go_roundw
        case rel => exact ⟨k + 1, by omega, by go_num, by rw [HE.out]; exact HO.out, below_drewN HB.out _⟩
        case measure => simp [intOf]; omega
      obtain ⟨q', xa, rfl, hxa, hxl, hxk, hx6, hxv⟩ := HON.out k x hx hxw
      obtain ⟨yk, y6⟩ := HPO.out k y hy
      have HAB := Lib.hid (HAt.out k q' xa y hx hxa hxl hy yk)
      rw [HAB.out] at HN1
      have KH := Lib.hid (fun W' (hb : Below W.heap.size W W') => La.holds_any AT y.al ct y.cl terms y.labels W' (by omega) htc (by omega) (PF.out W' (HT.out W' hb) k y HY.out).le (HTM.out W' (HT.out W' hb)) (PF.out W' (HT.out W' hb) k y HY.out).cells)
      have HXA := Lib.hid hxa
      have KG := Lib.hid (fun W' (hb : Below W.heap.size W W') => La.get_any xa.al xa.cl xa.labels topo W' (by omega) (NF.out W' (HT.out W' hb) q' xa HXA.out).le (NF.out W' (HT.out W' hb) q' xa HXA.out).cells hxv)
      rw [getL_getO] at KG
      have q'1 : (0 : Int) ≤ (q' : Int) := by omega
      have q'2 : (q' : Int) < (ns.length : Int) := by have := (List.getElem?_eq_some_iff.1 hxa).1; omega
      have e1 : ((q' : Int) == -1) = false := by first | (simp; done) | (simp; omega)
      have e2 : ¬ ((q' : Int) = -1) := by omega
      generalize La.holdsL terms y.labels = HBo at KH HN1
      generalize getO xa.labels topo = U at KG HN1
      clear hx hy hxa hxk hx6 hxv hxl yk y6 HAB hxw pk
      have pk := HPC.out _ (HT.out _ HB.out) k _ HX.out
      go_upto_region 7 with fail
      have HB2 : Hid (Below W.heap.size W wr.drew) := Lib.hid HB.out.drew
      have HO2 : Hid (World.ownsRow wr.drew W.heap.size 3 1 u6 M.length (M.map (Value.int .i64))) := Lib.hid (show World.ownsRow _ _ _ _ _ _ _ from HO.out)
      clear HB HO pk
      obtain ⟨z0, z1, z3, t0, t1⟩ := HZ.out _ HB2.out
      have yk := YC.out _ HB2.out
      go_still_tail 12, (by kernel_rfl)
      change wpList _ _ _ _ _ wr.drew
      go_wp2_with fail
      refine (KH.out _ HB2.out).mono ?_
      rintro e w2 ⟨rfl, hb2⟩
      have HB := Lib.hid (HB2.out.trans (hb2.mono HB2.out.size))
      have HO := Lib.hid (La.own_below HO2.out hb2)
      clear hb2 z0 z1 z3 t0 t1 yk HB2 HO2 KH
      cases HBo with
      | false =>
        have HE : Hid (NP (k + 1) = M) := Lib.hid (by rw [HN1.out]; simp)
        clear HN1
        go_wp2_with fail
        go_roundw
        case rel => exact ⟨k + 1, by omega, by go_num, by rw [HE.out]; exact HO.out, HB.out⟩
        case measure => simp [intOf]; omega
      | true =>
        go_upto_region 8 with fail
        have HB2 : Hid (Below W.heap.size W w2.drew) := Lib.hid HB.out.drew
        have HO2 : Hid (World.ownsRow w2.drew W.heap.size 3 1 u6 M.length (M.map (Value.int .i64))) := Lib.hid (show World.ownsRow _ _ _ _ _ _ _ from HO.out)
        obtain ⟨z0, z1, z3, t0, t1⟩ := HZ.out _ HB2.out
        have nk := NC.out _ (HT.out _ HB2.out) q' _ HXA.out
        go_cut [11, 12] (fun a b wc => a = strV (U.getD []) ∧ b = .bool U.isSome ∧ Below w2.heap.size w2 wc)
        case first =>
          go_region_held3 (fun w' => w'.cell? ⟨w.heap.size, 0, none⟩ = some (.slice (some ⟨bn, on, none⟩) ns.length ca) ∧ w'.cell? ⟨w.heap.size + 1, 0, none⟩ = some (strV topo) ∧ w'.cell? ⟨bn, on + q' * 10 + 6, none⟩ = some (.slice xa.al xa.labels.length xa.cl)) (first | exact ⟨z0, t0, nk⟩ | exact ⟨by assumption, by assumption, by assumption⟩)
            (first
              | (go_at_call 378
                 refine (KG.out _ HB2.out).mono ?_
                 rintro e w3 ⟨rfl, hb3⟩
                 have HBq := Lib.hid (HB2.out.trans (hb3.mono HB2.out.size))
                 have HB3 := Lib.hid (show Below w2.heap.size w2 w3 from ((Below.refl _ w2).drew).trans hb3)
                 obtain ⟨z0, z1, z3, t0, t1⟩ := HZ.out _ HBq.out
                 have nk := NC.out _ (HT.out _ HBq.out) q' _ HXA.out
                 clear hb3))
          all_goals
            (try go_wp2_with fail)
            go_meet
            exact ⟨rfl, rfl, HB3.out⟩
        case' rest => obtain ⟨rfl, rfl, hbc⟩ := hcut
        case' rest => have HB := Lib.hid (show Below W.heap.size W wc from HB.out.trans (hbc.mono HB.out.size))
        case' rest => have HO := Lib.hid (La.own_below HO.out hbc)
        clear hbc z0 z1 z3 t0 t1 nk HB2 HO2 KG
        cases U with
        | none =>
          have HE : Hid (NP (k + 1) = M) := Lib.hid (by rw [HN1.out]; simp)
          clear HN1
          go_wp2_with fail
          go_roundw
          case rel => exact ⟨k + 1, by omega, by go_num, by rw [HE.out]; exact HO.out, HB.out⟩
          case measure => simp [intOf]; omega
        | some u =>
          by_cases hu : u = dom
          case neg =>
            have HE : Hid (NP (k + 1) = M) := Lib.hid (by rw [HN1.out]; simp [hu])
            have hub : (u == dom) = false := by simpa using hu
            clear HN1 hu
            go_wp2_with fail
            go_roundw
            case rel => exact ⟨k + 1, by omega, by go_num, by rw [HE.out]; exact HO.out, HB.out⟩
            case measure => simp [intOf]; omega
          have HE : Hid (NP (k + 1) = M ++ [(k : Int)]) := Lib.hid (by rw [HN1.out]; simp [hu])
          have hub : (u == dom) = true := by simpa using hu
          clear HN1 hu
          go_wp2_with (at_builtin; refine wpList_append_own _ rfl _ _ 27 rfl W.heap.size 3 i0x (.int .i64 0) 1 8 Tryz.underlying27 hi0 hz0 hz1 hz2 rfl (by decide) _ _ _ rfl (show World.ownsRow _ _ _ _ _ _ _ from HO.out.alloc _) ⟨wc.heap.size, 0, none⟩ 1 1 [.int .i64 (k : Int)] rfl rfl ?c1a ?c2a ?c3a ?c4a ?c5a ?_)
          case c1a =>
            intro j u hj
            match j, hj with
            | 0, hj => simp at hj; subst hj; simp [Addr.add]
          case c2a => first | rfl | (intro u hu; simp at hu; subst hu; rfl)
          case c3a => unfold maxLen; omega
          case c4a => omega
          case c5a => have := HB.out.size; simp; omega
          intro v4 w4 hown4 hgrow4 _
          have P4 := Lib.hid hown4
          have D4 := Lib.hid ((HB.out.alloc HB.out.size (.cells #[.int .i64 (k : Int)] 3)).grown hgrow4 (by have := HB.out.size; simp; omega) (fun j hj => own_gem HO.out hj))
          clear hown4 hgrow4
          go_wp2_with fail
          go_roundw
          case rel =>
            refine ⟨k + 1, by omega, by go_num, ?_, D4.out⟩
            rw [HE.out, List.length_append, List.map_append]
            exact P4.out
          case measure => simp [intOf]; omega
end Go.Proofs.YtmmokiaipfalmaaGreat

namespace Go.Proofs.YtmmokiaipfalmaaGreat
open Go.RowKit

set_option maxRecDepth 100000 in
set_option maxHeartbeats 8000000 in
theorem alone_any (A B C P : Option Addr) (ca cb cc cp : Nat) (ns : List NodeD) (ps : List PodD) (os : List OwnD) (p : List Int) (i q : Nat) (x : PodD) (n : NodeD) (hE : placeE ns ps os p = 0) (hi : p[i]? = some (q : Int)) (hx : ps[i]? = some x) (hn : ns[q]? = some n) (w : World) (h : SnapAt w A B C ca cb cc ns ps os) (hp : IntsAt w P cp p) :
    Calls Tryz.prog 304 #[viewV A B C P ca cb cc cp ns ps os p, .int .i64 (i : Int)] w fun e w' => e = .returned (.tuple #[.int .i64 (((ofU ns ps os p 4 i).getD 0 : Nat) : Int), .bool (ofU ns ps os p 4 i).isSome]) ∧ Below w.heap.size w w' := by
  have hxm := List.mem_of_getElem? hx
  obtain ⟨tf1, tf2⟩ := terms_few (placeE_chk hE) hxm
  have hlp := h.lp
  have HPL := Lib.hid (placeE_len hE)
  have E := Lib.hid (ofU_at (os := os) (kind := 4) hi hx hn)
  have B0 : Hid (Below w.heap.size w (w.alloc (.cells (viewC A B C P ca cb cc cp ns ps os p) 256))) := Lib.hid (below1 w _)
  have S0 : Hid (Blk (w.alloc (.cells (viewC A B C P ca cb cc cp ns ps os p) 256)) w.heap.size (viewC A B C P ca cb cc cp ns ps os p) 256) := Lib.hid (Blk.new w _ _)
  have i0 : (0 : Int) ≤ (i : Int) := by omega
  have i2 : (i : Int) < (ps.length : Int) := by have := (List.getElem?_eq_some_iff.1 hx).1; omega
  obtain ⟨b, o, hB, _⟩ := atP h.p.cells hx
  subst hB
  have PC := Lib.hid (fun W' (hb : Below w.heap.size w W') => (by
    obtain ⟨b', o', hA', _, c0, c1, c2, c3, c4, c5, c6, c7, c8, c9, c10, c11, c12, c13, _⟩ := atP (h.below hb).p.cells hx
    cases hA'
    exact ⟨c10, c11⟩ : W'.cell? ⟨b, o + i * 15 + 10, none⟩ = some (strV x.wt) ∧ W'.cell? ⟨b, o + i * 15 + 11, none⟩ = some (.slice x.awt x.wtm.length x.cwt)))
  have XF := Lib.hid (fun W' (hb : Below w.heap.size w W') => ((h.below hb).p.fit x hxm).wt)
  have KN := Lib.hid (fun W' (hb : Below w.heap.size w W') => near8_any A (some ⟨b, o, none⟩) C P x.awt ca cb cc cp x.cwt ns ps os p i q x.wt x.wtm n hE hi hn (by omega) (XF.out W' hb).le W' (h.below hb) (hp.below hb) (XF.out W' hb).cells)
  have HL := Lib.hid (nearP_len ns ps p i x.wt x.wtm p.length)
  have HO := Lib.hid (nearP_others ns ps p i x.wt x.wtm p.length)
  have HLe : Hid ((nearP ns ps p i x.wt x.wtm p.length).length ≤ p.length) := Lib.hid (by rw [nearP_len]; exact aboutU_le ns ps p i x.wt x.wtm false p.length)
  generalize nearP ns ps p i x.wt x.wtm p.length = M at KN HL HO HLe
  generalize ofU ns ps os p 4 i = R at E ⊢
  clear h hp hE hi hx hn hxm tf1 tf2
  go_enter Tryz.func304, Tryz.ntmps304
  obtain ⟨W, hW⟩ : ∃ W, (w.alloc (.cells (viewC A (some ⟨b, o, none⟩) C P ca cb cc cp ns ps os p) 256)) = W := ⟨_, rfl⟩
  rw [hW] at B0 S0
  go_upto_region 1 with fail
  try rw [show (w.alloc (.cells #[.slice A ns.length ca, .slice (some ⟨b, o, none⟩) ps.length cb, .slice C os.length cc, .slice P p.length cp] 256)) = W from hW]
  clear hW
  have B1 : Hid (Below w.heap.size w (W.alloc (.cells #[strV x.wt, .slice x.awt x.wtm.length x.cwt] 51))) := Lib.hid (B0.out.alloc B0.out.size _)
  have S1 : Hid (Blk (W.alloc (.cells #[strV x.wt, .slice x.awt x.wtm.length x.cwt] 51)) w.heap.size (viewC A (some ⟨b, o, none⟩) C P ca cb cc cp ns ps os p) 256) := Lib.hid (Blk.alloc S0.out _)
  have N1 : Hid (Blk (W.alloc (.cells #[strV x.wt, .slice x.awt x.wtm.length x.cwt] 51)) W.heap.size #[strV x.wt, .slice x.awt x.wtm.length x.cwt] 51) := Lib.hid (Blk.new W _ _)
  have z1 : W.cell? ⟨w.heap.size, 1, none⟩ = some (.slice (some ⟨b, o, none⟩) ps.length cb) := Blk.cell S0.out 1
  obtain ⟨x0, x1⟩ := PC.out _ B0.out
  clear B0 S0
  go_upto_region 2 with fail
  try change Code.wp _ _ _ _ (W.alloc (.cells #[strV x.wt, .slice x.awt x.wtm.length x.cwt] 51))
  clear z1 x0 x1
  generalize (W.alloc (.cells #[strV x.wt, .slice x.awt x.wtm.length x.cwt] 51)) = V at B1 S1 N1 ⊢
  generalize W.heap.size = Nb at N1 ⊢
  have n0 : V.cell? ⟨Nb, 0, none⟩ = some (strV x.wt) := Blk.cell N1.out 0
  have n1 : V.cell? ⟨Nb, 1, none⟩ = some (.slice x.awt x.wtm.length x.cwt) := Blk.cell N1.out 1
  by_cases ht : x.wt = []
  case pos =>
    have HE : Hid (R = none) := Lib.hid (by rw [E.out]; simp [ht])
    rw [ht] at n0
    clear E KN HL HO
    go_wp2
    go_ret2
    rw [HE.out]
    exact ⟨rfl, B1.out⟩
  have htb : (x.wt == []) = false := by simpa using ht
  have HE : Hid (R = some (1 - M.length)) := Lib.hid (by rw [E.out, HL.out]; simp [ht])
  have z0 : V.cell? ⟨w.heap.size, 0, none⟩ = some (.slice A ns.length ca) := Blk.cell S1.out 0
  have z1 : V.cell? ⟨w.heap.size, 1, none⟩ = some (.slice (some ⟨b, o, none⟩) ps.length cb) := Blk.cell S1.out 1
  have z2 : V.cell? ⟨w.heap.size, 2, none⟩ = some (.slice C os.length cc) := Blk.cell S1.out 2
  have z3 : V.cell? ⟨w.heap.size, 3, none⟩ = some (.slice P p.length cp) := Blk.cell S1.out 3
  clear E HL HO ht
  go_wp2_with fail
  refine (KN.out _ B1.out).mono ?_
  rintro e w2 ⟨v, rfl, ho, hb⟩
  obtain ⟨G, cg, rfl, _⟩ := La.own_slice ho
  have B2 := Lib.hid (B1.out.trans (hb.mono B1.out.size))
  clear ho hb KN z0 z1 z2 z3 n0 n1 htb
  by_cases hm : M.length = 0
  case pos =>
    have HE2 : Hid (R = some 1) := Lib.hid (by rw [HE.out, hm])
    have hmb : ((M.length : Int) == 0) = true := by simp [hm]
    have hmi : (M.length : Int) = 0 := by omega
    clear HE HLe hm
    go_wp2
    go_ret2
    rw [HE2.out]
    exact ⟨rfl, B2.out⟩
  have HE2 : Hid (R = some 0) := Lib.hid (by rw [HE.out, show 1 - M.length = 0 by omega])
  have hmb : ((M.length : Int) == 0) = false := by rw [beq_eq_false_iff_ne]; omega
  have hmi : ¬ (M.length : Int) = 0 := by omega
  clear HE HLe hm
  go_wp2
  go_ret2
  rw [HE2.out]
  exact ⟨rfl, B2.out⟩

set_option maxRecDepth 100000 in
set_option maxHeartbeats 8000000 in
theorem notApart_any (A B C P : Option Addr) (ca cb cc cp : Nat) (ns : List NodeD) (ps : List PodD) (os : List OwnD) (p : List Int) (i q : Nat) (x : PodD) (n : NodeD) (hE : placeE ns ps os p = 0) (hi : p[i]? = some (q : Int)) (hx : ps[i]? = some x) (hn : ns[q]? = some n) (w : World) (h : SnapAt w A B C ca cb cc ns ps os) (hp : IntsAt w P cp p) :
    Calls Tryz.prog 305 #[viewV A B C P ca cb cc cp ns ps os p, .int .i64 (i : Int)] w fun e w' => e = .returned (.tuple #[.int .i64 (((ofU ns ps os p 5 i).getD 0 : Nat) : Int), .bool (ofU ns ps os p 5 i).isSome]) ∧ Below w.heap.size w w' := by
  have hxm := List.mem_of_getElem? hx
  obtain ⟨tf1, tf2⟩ := terms_few (placeE_chk hE) hxm
  have hlp := h.lp
  have HPL := Lib.hid (placeE_len hE)
  have E := Lib.hid (ofU_at (os := os) (kind := 5) hi hx hn)
  have B0 : Hid (Below w.heap.size w (w.alloc (.cells (viewC A B C P ca cb cc cp ns ps os p) 256))) := Lib.hid (below1 w _)
  have S0 : Hid (Blk (w.alloc (.cells (viewC A B C P ca cb cc cp ns ps os p) 256)) w.heap.size (viewC A B C P ca cb cc cp ns ps os p) 256) := Lib.hid (Blk.new w _ _)
  have i0 : (0 : Int) ≤ (i : Int) := by omega
  have i2 : (i : Int) < (ps.length : Int) := by have := (List.getElem?_eq_some_iff.1 hx).1; omega
  obtain ⟨b, o, hB, _⟩ := atP h.p.cells hx
  subst hB
  have PC := Lib.hid (fun W' (hb : Below w.heap.size w W') => (by
    obtain ⟨b', o', hA', _, c0, c1, c2, c3, c4, c5, c6, c7, c8, c9, c10, c11, c12, c13, _⟩ := atP (h.below hb).p.cells hx
    cases hA'
    exact ⟨c12, c13⟩ : W'.cell? ⟨b, o + i * 15 + 12, none⟩ = some (strV x.ap) ∧ W'.cell? ⟨b, o + i * 15 + 13, none⟩ = some (.slice x.aap x.apm.length x.cap)))
  have XF := Lib.hid (fun W' (hb : Below w.heap.size w W') => ((h.below hb).p.fit x hxm).ap)
  have KN := Lib.hid (fun W' (hb : Below w.heap.size w W') => near8_any A (some ⟨b, o, none⟩) C P x.aap ca cb cc cp x.cap ns ps os p i q x.ap x.apm n hE hi hn (by omega) (XF.out W' hb).le W' (h.below hb) (hp.below hb) (XF.out W' hb).cells)
  have HL := Lib.hid (nearP_len ns ps p i x.ap x.apm p.length)
  have HO := Lib.hid (nearP_others ns ps p i x.ap x.apm p.length)
  have HLe : Hid ((nearP ns ps p i x.ap x.apm p.length).length ≤ p.length) := Lib.hid (by rw [nearP_len]; exact aboutU_le ns ps p i x.ap x.apm false p.length)
  generalize nearP ns ps p i x.ap x.apm p.length = M at KN HL HO HLe
  generalize ofU ns ps os p 5 i = R at E ⊢
  clear h hp hE hi hx hn hxm tf1 tf2
  go_enter Tryz.func305, Tryz.ntmps305
  obtain ⟨W, hW⟩ : ∃ W, (w.alloc (.cells (viewC A (some ⟨b, o, none⟩) C P ca cb cc cp ns ps os p) 256)) = W := ⟨_, rfl⟩
  rw [hW] at B0 S0
  go_upto_region 1 with fail
  try rw [show (w.alloc (.cells #[.slice A ns.length ca, .slice (some ⟨b, o, none⟩) ps.length cb, .slice C os.length cc, .slice P p.length cp] 256)) = W from hW]
  clear hW
  have B1 : Hid (Below w.heap.size w (W.alloc (.cells #[strV x.ap, .slice x.aap x.apm.length x.cap] 51))) := Lib.hid (B0.out.alloc B0.out.size _)
  have S1 : Hid (Blk (W.alloc (.cells #[strV x.ap, .slice x.aap x.apm.length x.cap] 51)) w.heap.size (viewC A (some ⟨b, o, none⟩) C P ca cb cc cp ns ps os p) 256) := Lib.hid (Blk.alloc S0.out _)
  have N1 : Hid (Blk (W.alloc (.cells #[strV x.ap, .slice x.aap x.apm.length x.cap] 51)) W.heap.size #[strV x.ap, .slice x.aap x.apm.length x.cap] 51) := Lib.hid (Blk.new W _ _)
  have z1 : W.cell? ⟨w.heap.size, 1, none⟩ = some (.slice (some ⟨b, o, none⟩) ps.length cb) := Blk.cell S0.out 1
  obtain ⟨x0, x1⟩ := PC.out _ B0.out
  clear B0 S0
  go_upto_region 2 with fail
  try change Code.wp _ _ _ _ (W.alloc (.cells #[strV x.ap, .slice x.aap x.apm.length x.cap] 51))
  clear z1 x0 x1
  generalize (W.alloc (.cells #[strV x.ap, .slice x.aap x.apm.length x.cap] 51)) = V at B1 S1 N1 ⊢
  generalize W.heap.size = Nb at N1 ⊢
  have n0 : V.cell? ⟨Nb, 0, none⟩ = some (strV x.ap) := Blk.cell N1.out 0
  have n1 : V.cell? ⟨Nb, 1, none⟩ = some (.slice x.aap x.apm.length x.cap) := Blk.cell N1.out 1
  by_cases ht : x.ap = []
  case pos =>
    have HE : Hid (R = none) := Lib.hid (by rw [E.out]; simp [ht])
    rw [ht] at n0
    clear E KN HL HO
    go_wp2
    go_ret2
    rw [HE.out]
    exact ⟨rfl, B1.out⟩
  have htb : (x.ap == []) = false := by simpa using ht
  have HE : Hid (R = some (numL (fun x : Int => !decide (x = (i : Int))) M)) := Lib.hid (by rw [E.out, HO.out]; simp [ht])
  have z0 : V.cell? ⟨w.heap.size, 0, none⟩ = some (.slice A ns.length ca) := Blk.cell S1.out 0
  have z1 : V.cell? ⟨w.heap.size, 1, none⟩ = some (.slice (some ⟨b, o, none⟩) ps.length cb) := Blk.cell S1.out 1
  have z2 : V.cell? ⟨w.heap.size, 2, none⟩ = some (.slice C os.length cc) := Blk.cell S1.out 2
  have z3 : V.cell? ⟨w.heap.size, 3, none⟩ = some (.slice P p.length cp) := Blk.cell S1.out 3
  clear E HL HO ht
  go_wp2_with fail
  refine (KN.out _ B1.out).mono ?_
  rintro e w2 ⟨v, rfl, ho, hb⟩
  obtain ⟨G, cg, rfl, _⟩ := La.own_slice ho
  have O2 := Lib.hid (La.own_slat ho)
  have B2 := Lib.hid (B1.out.trans (hb.mono B1.out.size))
  have hml : M.length ≤ 1000 := by have := HLe.out; have := HPL.out; omega
  clear ho hb KN z0 z1 z2 z3 n0 n1 htb HLe
  go_wp2_with fail
  go_loopw [4, 24] (fun c j wr => w2 = wr ∧ ∃ k : Nat, k ≤ M.length ∧ j = .int .i64 (k : Int) ∧ c = .int .i64 ((numL (fun x : Int => !decide (x = (i : Int))) (M.take k) : Nat) : Int)) (fun _ j _ => M.length - (intOf j).toNat)
  case atStart => exact ⟨rfl, 0, by omega, rfl, rfl⟩
  case round =>
    obtain ⟨rfl, k, hk, rfl, rfl⟩ := hrel
    by_cases hlt : k < M.length
    case neg =>
      obtain rfl : k = M.length := by omega
      rw [List.take_length]
      go_wp2
      go_ret2
      rw [HE.out]
      exact ⟨rfl, B2.out⟩
    obtain ⟨y, hy⟩ : ∃ y, M[k]? = some y := ⟨M[k], List.getElem?_eq_getElem hlt⟩
    have HS := Lib.hid (numL_snoc (fun x : Int => !decide (x = (i : Int))) hy)
    have hnl := numL_le (fun x : Int => !decide (x = (i : Int))) (M.take k)
    rw [List.length_take] at hnl
    obtain ⟨g, og, hG, hc⟩ := O2.out k _ (by rw [List.getElem?_map, hy]; rfl)
    subst hG
    generalize numL (fun x : Int => !decide (x = (i : Int))) (M.take k) = m at HS hnl ⊢
    have k0 : (0 : Int) ≤ (k : Int) := by omega
    have k1 : (k : Int) < (M.length : Int) := by omega
    by_cases hyi : y = (i : Int)
    case pos =>
      have HF : Hid (numL (fun x : Int => !decide (x = (i : Int))) (M.take (k + 1)) = m) := Lib.hid (by rw [HS.out]; simp [hyi])
      have hb1 : (y != (i : Int)) = false := by simp [hyi]
      have hb2 : (y == (i : Int)) = true := by simp [hyi]
      clear HS hy
      subst hyi
      go_wp2_with fail
      go_roundw
      case rel => exact ⟨trivial, k + 1, by omega, by go_num, by rw [HF.out]⟩
      case measure => simp [intOf]; omega
    have HF : Hid (numL (fun x : Int => !decide (x = (i : Int))) (M.take (k + 1)) = m + 1) := Lib.hid (by rw [HS.out]; simp [hyi])
    have hb1 : (y != (i : Int)) = true := by simpa using hyi
    have hb2 : (y == (i : Int)) = false := by simpa using hyi
    have hwm : IntKind.i64.wrap ((m : Int) + 1) = (m : Int) + 1 := IntWalk.i64_in _ (by omega)
    clear HS hy
    go_wp2_with fail
    go_roundw
    case rel => exact ⟨trivial, k + 1, by omega, by go_num, by rw [HF.out]; simp⟩
    case measure => simp [intOf]; omega

end Go.Proofs.YtmmokiaipfalmaaGreat

namespace Go.Proofs.YtmmokiaipfalmaaGreat
open Go.RowKit

set_option maxRecDepth 100000 in
set_option maxHeartbeats 8000000 in
theorem overSkew_any (A B C P : Option Addr) (ca cb cc cp : Nat) (ns : List NodeD) (ps : List PodD) (os : List OwnD) (p : List Int) (ko : Nat) (xo : OwnD) (hxo : os[ko]? = some xo) (hsl : (spreadF ns ps os p (ko : Int)).length ≤ 1000) (w : World) (h : SnapAt w A B C ca cb cc ns ps os) (hp : IntsAt w P cp p) :
    Calls Tryz.prog 307 #[viewV A B C P ca cb cc cp ns ps os p, .int .i64 (ko : Int)] w fun e w' => e = .returned (.tuple #[.int .i64 ((if xo.topo = [] then none else some (skewO (spreadF ns ps os p (ko : Int)) xo.skew)).getD 0), .bool (if xo.topo = [] then none else some (skewO (spreadF ns ps os p (ko : Int)) xo.skew)).isSome]) ∧ Below w.heap.size w w' := by
  have q0 : (0 : Int) ≤ (ko : Int) := by omega
  have q1 : (ko : Int) < (os.length : Int) := by have := (List.getElem?_eq_some_iff.1 hxo).1; omega
  have B0 : Hid (Below w.heap.size w (w.alloc (.cells (viewC A B C P ca cb cc cp ns ps os p) 256))) := Lib.hid (below1 w _)
  have S0 : Hid (Blk (w.alloc (.cells (viewC A B C P ca cb cc cp ns ps os p) 256)) w.heap.size (viewC A B C P ca cb cc cp ns ps os p) 256) := Lib.hid (Blk.new w _ _)
  obtain ⟨bo, oo, hAo, hbo, _⟩ := atO h.o hxo
  subst hAo
  have OC := Lib.hid (fun W' (hb : Below w.heap.size w W') => atO (h.below hb).o hxo)
  have KP := Lib.hid (fun W' (hb : Below w.heap.size w W') => spread_any A B (some ⟨bo, oo, none⟩) P ca cb cc cp ns ps os p (ko : Int) W' (h.below hb) (hp.below hb))
  obtain ⟨R, hR⟩ : ∃ R, (if xo.topo = [] then none else some (skewO (spreadF ns ps os p (ko : Int)) xo.skew)) = R := ⟨_, rfl⟩
  have HR := Lib.hid hR
  rw [hR]
  have HSL := Lib.hid hsl
  generalize spreadF ns ps os p (ko : Int) = L at KP HR HSL
  clear h hp hxo hR hsl
  go_enter Tryz.func307, Tryz.ntmps307
  obtain ⟨W, hW⟩ : ∃ W, (w.alloc (.cells (viewC A B (some ⟨bo, oo, none⟩) P ca cb cc cp ns ps os p) 256)) = W := ⟨_, rfl⟩
  rw [hW] at B0 S0
  go_upto_region 1 with fail
  try rw [show (w.alloc (.cells #[.slice A ns.length ca, .slice B ps.length cb, .slice (some ⟨bo, oo, none⟩) os.length cc, .slice P p.length cp] 256)) = W from hW]
  clear hW
  have B1 : Hid (Below w.heap.size w (W.alloc (.cells #[strV xo.name, .int .i64 xo.min, strV xo.topo, .int .i64 xo.skew, .bool xo.single] 102))) := Lib.hid (B0.out.alloc B0.out.size _)
  have S1 : Hid (Blk (W.alloc (.cells #[strV xo.name, .int .i64 xo.min, strV xo.topo, .int .i64 xo.skew, .bool xo.single] 102)) w.heap.size (viewC A B (some ⟨bo, oo, none⟩) P ca cb cc cp ns ps os p) 256) := Lib.hid (Blk.alloc S0.out _)
  have N1 : Hid (Blk (W.alloc (.cells #[strV xo.name, .int .i64 xo.min, strV xo.topo, .int .i64 xo.skew, .bool xo.single] 102)) W.heap.size #[strV xo.name, .int .i64 xo.min, strV xo.topo, .int .i64 xo.skew, .bool xo.single] 102) := Lib.hid (Blk.new W _ _)
  have z2 : W.cell? ⟨w.heap.size, 2, none⟩ = some (.slice (some ⟨bo, oo, none⟩) os.length cc) := Blk.cell S0.out 2
  obtain ⟨b', o', e1, _, d0, d1, d2, d3, d4⟩ := OC.out _ B0.out
  cases e1
  clear B0 S0 OC
  go_upto_region 2 with fail
  try change Code.wp _ _ _ _ (W.alloc (.cells #[strV xo.name, .int .i64 xo.min, strV xo.topo, .int .i64 xo.skew, .bool xo.single] 102))
  clear z2 d0 d1 d2 d3 d4
  generalize (W.alloc (.cells #[strV xo.name, .int .i64 xo.min, strV xo.topo, .int .i64 xo.skew, .bool xo.single] 102)) = V at B1 S1 N1 ⊢
  generalize W.heap.size = Nb at N1 ⊢
  have n2 : V.cell? ⟨Nb, 2, none⟩ = some (strV xo.topo) := Blk.cell N1.out 2
  by_cases ht : xo.topo = []
  case pos =>
    have HE : Hid (R = none) := Lib.hid (by rw [← HR.out, if_pos ht])
    rw [ht] at n2
    clear HR KP
    go_wp2
    go_ret2
    rw [HE.out]
    exact ⟨rfl, B1.out⟩
  have htb : (xo.topo == []) = false := by simpa using ht
  have HE : Hid (R = some (skewO L xo.skew)) := Lib.hid (by rw [← HR.out, if_neg ht])
  have z0 : V.cell? ⟨w.heap.size, 0, none⟩ = some (.slice A ns.length ca) := Blk.cell S1.out 0
  have z1 : V.cell? ⟨w.heap.size, 1, none⟩ = some (.slice B ps.length cb) := Blk.cell S1.out 1
  have z2 : V.cell? ⟨w.heap.size, 2, none⟩ = some (.slice (some ⟨bo, oo, none⟩) os.length cc) := Blk.cell S1.out 2
  have z3 : V.cell? ⟨w.heap.size, 3, none⟩ = some (.slice P p.length cp) := Blk.cell S1.out 3
  clear HR ht
  go_wp2_with fail
  refine (KP.out _ B1.out).mono ?_
  rintro e w2 ⟨v, rfl, ho, hb⟩
  obtain ⟨G, cg, rfl, _⟩ := La.own_slice ho
  have O2 := Lib.hid (La.own_slat ho)
  have B2 := Lib.hid (B1.out.trans (hb.mono B1.out.size))
  have n3 : w2.cell? ⟨Nb, 3, none⟩ = some (.int .i64 xo.skew) := Blk.cell (N1.out.below hb N1.out.lt) 3
  clear ho hb KP z0 z1 z2 z3 n2 htb S1 N1 B1
  by_cases hl : L = []
  case pos =>
    subst hl
    have HE2 : Hid (R = some 0) := Lib.hid (by rw [HE.out]; rfl)
    clear HE
    go_wp2
    go_ret2
    rw [HE2.out]
    exact ⟨rfl, B2.out⟩
  have hlp : 0 < L.length := List.length_pos_iff.2 hl
  obtain ⟨g, og, hG, _⟩ := O2.out 0 (.int .i64 (L.getD 0 0)) (by
    rw [show intsC L = L.map (Value.int .i64) from rfl, List.getElem?_map, List.getElem?_eq_getElem hlp]
    simp [List.getD, List.getElem?_eq_getElem hlp])
  subst hG
  have HLc : Hid (∀ W', Below w2.heap.size w2 W' → ∀ j, j < L.length → W'.cell? ⟨g, og + j, none⟩ = some (.int .i64 (L.getD j 0))) := Lib.hid (fun W' hb j hj => by
    obtain ⟨g', o', e, hc⟩ := (La.SlAt.below O2.out hb) j (.int .i64 (L.getD j 0)) (by
      rw [show intsC L = L.map (Value.int .i64) from rfl, List.getElem?_map, List.getElem?_eq_getElem hj]
      simp [List.getD, List.getElem?_eq_getElem hj])
    cases e
    exact hc)
  have KMx := Lib.hid (fun W' (hb : Below w2.heap.size w2 W') => Tryz.slices_Max_int g og L.length cg L W' hlp (Nat.le_refl _) (by have := HSL.out; omega) (HLc.out W' hb))
  have KMn := Lib.hid (fun W' (hb : Below w2.heap.size w2 W') => Tryz.slices_Min_int g og L.length cg L W' hlp (Nat.le_refl _) (by have := HSL.out; omega) (HLc.out W' hb))
  have HE2 : Hid (R = some (max 0 (wrap64 (wrap64 (Lib.maxOf (L.take L.length) - Lib.minOf (L.take L.length)) - xo.skew)))) := Lib.hid (by
    rw [HE.out, List.take_length]
    unfold skewO
    rw [if_neg hl]
    rfl)
  have hmb : ((L.length : Int) == 0) = false := by rw [beq_eq_false_iff_ne]; omega
  have hmi : ¬ (L.length : Int) = 0 := by omega
  have hmd : decide (L.length = 0) = false := decide_eq_false (by omega)
  generalize Lib.maxOf (L.take L.length) = mx at KMx HE2
  generalize Lib.minOf (L.take L.length) = mn at KMn HE2
  clear HE hl HLc
  go_upto_region 7 with fail
  have n3d : w2.drew.cell? ⟨Nb, 3, none⟩ = some (.int .i64 xo.skew) := n3
  go_region_held3 (fun w' => w'.cell? ⟨Nb, 3, none⟩ = some (.int .i64 xo.skew)) (first | exact n3d | exact n3)
    (first
      | (go_at_call 252
         refine (KMx.out _ (by first | exact Below.refl _ _ | exact (Below.refl _ _).drew)).mono ?_
         rintro e wA ⟨rfl, rfl⟩)
      | (go_at_call 359
         refine (KMn.out _ (by first | exact Below.refl _ _ | exact (Below.refl _ _).drew)).mono ?_
         rintro e wA ⟨rfl, rfl⟩))
  all_goals
    go_wp2
    go_ret2
    rw [HE2.out]
    refine ⟨?_, by first | exact B2.out | exact B2.out.drew⟩
    have e1 : ∀ z, wrap64 z = IntKind.i64.wrap z := fun z => (IntWalk.i64_left _).symm
    rw [e1, e1]
    rfl
end Go.Proofs.YtmmokiaipfalmaaGreat

namespace Go.Proofs.YtmmokiaipfalmaaGreat
open Go.RowKit

theorem names_good {l : List (List UInt8)} (h : namesB l = true) : (∀ x ∈ l, x ≠ []) ∧ l.Pairwise (fun a b => a ≠ b) := by
  unfold namesB at h
  have hk : ∀ (k : Nat) (x : List UInt8), l[k]? = some x → La.okAt La.nameB ltS l k x = true := by
    intro k x hx
    have hlt := (List.getElem?_eq_some_iff.1 hx).1
    have h2 : La.chkK La.nameB ltS l (k + 1) = true := by
      cases hq : La.chkK La.nameB ltS l (k + 1) with
      | true => rfl
      | false =>
        rw [La.chkK_false hq (by omega)] at h
        cases h
    rw [La.chkK, hx] at h2
    simp only [Bool.and_eq_true] at h2
    exact h2.2
  have hs : ∀ (k : Nat) (x y : List UInt8), l[k]? = some x → l[k + 1]? = some y → Ahead x y := by
    intro k x y hx hy
    have h3 := hk _ _ hy
    unfold La.okAt at h3
    have h4 : La.nameB y = true ∧ ltS x y = true := by simpa [hx] using h3
    have h5 := h4.2
    unfold ltS at h5
    simp only [Bool.not_eq_true', Bool.or_eq_false_iff, beq_eq_false_iff_ne] at h5
    exact ⟨less_not h5.1, fun e => h5.2 e.symm⟩
  have ha : ∀ (d k : Nat) (x y : List UInt8), l[k]? = some x → l[k + 1 + d]? = some y → Ahead x y := by
    intro d
    induction d with
    | zero => exact fun k x y hx hy => hs k x y hx hy
    | succ d ih =>
      intro k x y hx hy
      have hlt := (List.getElem?_eq_some_iff.1 hy).1
      obtain ⟨z, hz⟩ : ∃ z, l[k + 1 + d]? = some z := ⟨l[k + 1 + d]'(by omega), List.getElem?_eq_getElem _⟩
      exact (ih k x z hx hz).trans (hs _ _ _ hz hy)
  constructor
  · intro x hx
    obtain ⟨k, hk2⟩ := List.mem_iff_getElem?.1 hx
    have h3 := hk _ _ hk2
    unfold La.okAt at h3
    simp only [Bool.and_eq_true] at h3
    have h4 := h3.1
    unfold La.nameB at h4
    simp only [Bool.and_eq_true, decide_eq_true_eq] at h4
    exact h4.1
  · rw [List.pairwise_iff_getElem]
    intro i j hi hj hij
    refine (ha (j - i - 1) i l[i] l[j] (List.getElem?_eq_getElem hi) ?_).2
    rw [show i + 1 + (j - i - 1) = j by omega]
    exact List.getElem?_eq_getElem hj
theorem own_names {ns : List NodeD} {ps : List PodD} {os : List OwnD} (h : checkS ns ps os = 0) : (∀ o ∈ os, o.name ≠ []) ∧ os.Pairwise (fun a b => a.name ≠ b.name) := by
  unfold checkS at h
  split at h
  · rename_i hc
    unfold clusB at hc
    simp only [Bool.and_eq_true, List.all_eq_true] at hc
    obtain ⟨h1, h2⟩ := names_good hc.1.1.1.2
    exact ⟨fun o ho => h1 _ (List.mem_map.2 ⟨o, ho, rfl⟩), (List.pairwise_map.1 h2)⟩
  · cases h
def singleP (name : List UInt8) (o : OwnD) : Bool := o.single && decide (o.name = name)
theorem single_is {os : List OwnD} (hp : os.Pairwise (fun a b => a.name ≠ b.name)) (name : List UInt8) : os.any (singleP name) = singleO os name := by
  unfold singleO
  induction os with
  | nil => rfl
  | cons a t ih =>
    obtain ⟨h1, h2⟩ := List.pairwise_cons.1 hp
    rw [List.any_cons]
    by_cases he : a.name = name
    · rw [List.find?_cons_of_pos (by simpa using he)]
      have : t.any (singleP name) = false := by
        rw [List.any_eq_false]
        intro z hz
        have : z.name ≠ name := fun e => h1 z hz (he.trans e.symm)
        simp [singleP, this]
      rw [this]
      simp [singleP, he]
    · rw [List.find?_cons_of_neg (by simpa using he), ih h2]
      simp [singleP, he]
theorem single_none {os : List OwnD} (hn : ∀ o ∈ os, o.name ≠ []) : os.any (singleP []) = false := by
  rw [List.any_eq_false]
  intro z hz
  simp [singleP, hn z hz]

set_option maxHeartbeats 1000000 in
theorem isS (x : OwnD) (name : List UInt8) (q : Nat) (w : World) (hq : w.cell? ⟨q, 0, none⟩ = some (strV name)) :
    Calls Tryz.prog 380 #[valO x, .pointer (some ⟨q, 0, none⟩)] w fun e w' => e = .returned (.bool (singleP name x)) ∧ Below w.heap.size w w' := by
  have hql : q < w.heap.size := World.block_lt_of_cell? w _ hq
  have hq1 : (w.alloc (.cells (cellsO [x]).toArray 102)).cell? ⟨q, 0, none⟩ = some (strV name) := ((below1 w (.cells (cellsO [x]).toArray 102)).cell (p := ⟨q, 0, none⟩) hql).trans hq
  have hne : ¬ w.heap.size = q := by omega
  have hne2 : ¬ q = w.heap.size := by omega
  cases hs : x.single with
  | false =>
    have HE : Hid (singleP name x = false) := Lib.hid (by simp [singleP, hs])
    go_enter Tryz.func380, Tryz.ntmps380
    go_wp2
    go_ret
    exact ⟨La.retB HE.out.symm, (Below.refl _ _).alloc (Nat.le_refl _) _⟩
  | true =>
    by_cases he : x.name = name
    · have HE : Hid (singleP name x = true) := Lib.hid (by simp [singleP, hs, he])
      have hb : (x.name == name) = true := by simpa using he
      clear he
      go_enter Tryz.func380, Tryz.ntmps380
      go_wp2
      go_ret
      exact ⟨La.retB HE.out.symm, (Below.refl _ _).alloc (Nat.le_refl _) _⟩
    · have HE : Hid (singleP name x = false) := Lib.hid (by simp [singleP, hs, he])
      have hb : (x.name == name) = false := by simpa using he
      clear he
      go_enter Tryz.func380, Tryz.ntmps380
      go_wp2
      go_ret
      exact ⟨La.retB HE.out.symm, (Below.refl _ _).alloc (Nat.le_refl _) _⟩

set_option maxRecDepth 100000 in
set_option maxHeartbeats 2000000 in
theorem indexS (A : Option Addr) (c q : Nat) (l : List OwnD) (name : List UInt8) (w : World) (hl : l.length ≤ 1000) (hs : La.SlAt w A (cellsO l)) (hq : w.cell? ⟨q, 0, none⟩ = some (strV name)) :
    Calls Tryz.prog 333 #[.slice A l.length c, .func (Fn.func 380) #[] #[.pointer (some ⟨q, 0, none⟩)]] w fun e w' => (∃ r : Int, e = .returned (.int .i64 r) ∧ -1 ≤ r ∧ decide (0 ≤ r) = l.any (singleP name)) ∧ Below w.heap.size w w' := by
  have HS := Lib.hid hs
  have HQ := Lib.hid hq
  have hql : q < w.heap.size := World.block_lt_of_cell? w _ hq
  have hg : ∀ (args : Array Value) (w : World), (callFunc 380 args).run Tryz.prog w = .ok (.enter 380 args) w := fun _ _ => by kernel_rfl
  obtain ⟨R, hR⟩ : ∃ R, l.any (singleP name) = R := ⟨_, rfl⟩
  have HR := Lib.hid hR
  rw [hR]
  clear hs hq hR
  go_enter Tryz.func333, Tryz.ntmps333
  go_wp2_with fail
  go_loopw [8] (fun i wr => ∃ k : Nat, k ≤ l.length ∧ i = .int .i64 k ∧ (∀ (j : Nat) (x : OwnD), j < k → l[j]? = some x → singleP name x = false) ∧ Below w.heap.size w wr) (fun i _ => l.length - (intOf i).toNat)
  case atStart => exact ⟨0, by omega, rfl, fun j x h => by omega, Below.refl _ _⟩
  case round =>
    obtain ⟨k, hk, rfl, hn, hb⟩ := hrel
    have HN := Lib.hid hn
    have HB := Lib.hid hb
    clear hn hb
    by_cases hlt : k < l.length
    · obtain ⟨x, hx⟩ : ∃ x, l[k]? = some x := ⟨l[k], List.getElem?_eq_getElem hlt⟩
      obtain ⟨b, o, hA, hbl, c0, c1, c2, c3, c4⟩ := atO (HS.out.below HB.out) hx
      subst hA
      have HX := Lib.hid hx
      have k0 : (0 : Int) ≤ (k : Int) := by omega
      have k1 : (k : Int) < (l.length : Int) := by omega
      have KI := Lib.hid (fun w' (hb : Below wr.heap.size wr w') => isS x name q w' ((hb.cell (p := ⟨q, 0, none⟩) (by show q < wr.heap.size; have := HB.out.size; omega)).trans ((HB.out.cell (p := ⟨q, 0, none⟩) hql).trans HQ.out)))
      cases hd : singleP name x with
      | true =>
        have HE : Hid (true = R) := Lib.hid (by rw [← HR.out]; exact (List.any_eq_true.2 ⟨x, List.mem_of_getElem? hx, hd⟩).symm)
        rw [hd] at KI
        clear hx hd
        go_wp2_with fail
        refine (KI.out _ (by first | exact Below.refl _ _ | exact (Below.refl _ _).drew)).mono ?_
        rintro e w3 ⟨rfl, hb3⟩
        have B3 := Lib.hid (HB.out.trans (hb3.mono HB.out.size))
        clear hb3 KI c0 c1 c2 c3 c4
        go_wp2
        go_ret
        exact ⟨⟨(k : Int), rfl, by omega, by rw [← HE.out]; exact decide_eq_true k0⟩, B3.out⟩
      | false =>
        have He := Lib.hid hd
        rw [hd] at KI
        clear hx hd
        go_wp2_with fail
        refine (KI.out _ (by first | exact Below.refl _ _ | exact (Below.refl _ _).drew)).mono ?_
        rintro e w3 ⟨rfl, hb3⟩
        have B3 := Lib.hid (HB.out.trans (hb3.mono HB.out.size))
        clear hb3 KI c0 c1 c2 c3 c4
        go_wp2
        go_roundw
        case rel =>
          refine ⟨k + 1, by omega, by go_num, fun j y hj hy => ?_, B3.out⟩
          by_cases hjk : j = k
          · subst hjk
            rw [HX.out] at hy
            cases hy
            exact He.out
          · exact HN.out j y (by omega) hy
        case measure => simp [intOf]; omega
    · obtain rfl : k = l.length := by omega
      have HE : Hid (false = R) := Lib.hid (by
        rw [← HR.out]
        refine (List.any_eq_false.2 fun z hz => ?_).symm
        obtain ⟨j, hj⟩ := List.mem_iff_getElem?.1 hz
        rw [HN.out j z (List.getElem?_eq_some_iff.1 hj).1 hj]
        simp)
      go_wp2
      go_ret
      exact ⟨⟨-1, rfl, by omega, by rw [← HE.out]; rfl⟩, HB.out⟩

set_option maxHeartbeats 1000000 in
theorem containsS (A : Option Addr) (c q : Nat) (l : List OwnD) (name : List UInt8) (w : World) (hl : l.length ≤ 1000) (hs : La.SlAt w A (cellsO l)) (hq : w.cell? ⟨q, 0, none⟩ = some (strV name)) :
    Calls Tryz.prog 379 #[.slice A l.length c, .func (Fn.func 380) #[] #[.pointer (some ⟨q, 0, none⟩)]] w fun e w' => e = .returned (.bool (l.any (singleP name))) ∧ Below w.heap.size w w' := by
  have K := Lib.hid (indexS A c q l name w hl hs hq)
  clear hs hq
  generalize l.any (singleP name) = R at K ⊢
  go_enter Tryz.func379, Tryz.ntmps379
  go_wp2_with fail
  refine K.out.mono ?_
  rintro e w1 ⟨⟨i, rfl, hi1, hi⟩, hb⟩
  have HB := Lib.hid hb
  have Hi := Lib.hid hi
  clear hb hi
  go_wp2
  go_ret
  exact ⟨La.retB (by rw [← Hi.out]), HB.out⟩

set_option maxRecDepth 100000 in
set_option maxHeartbeats 2000000 in
theorem isSingle_any (A B C P : Option Addr) (ca cb cc cp : Nat) (ns : List NodeD) (ps : List PodD) (os : List OwnD) (p : List Int) (name : List UInt8) (w : World) (h : SnapAt w A B C ca cb cc ns ps os) :
    Calls Tryz.prog 358 #[viewV A B C P ca cb cc cp ns ps os p, strV name] w fun e w' => e = .returned (.bool (os.any (singleP name))) ∧ Below w.heap.size w w' := by
  have hlo := h.lo
  have B0 : Hid (Below w.heap.size w ((w.alloc (.cells (viewC A B C P ca cb cc cp ns ps os p) 256)).alloc (.cells #[strV name] 9))) := Lib.hid (Qu.below2 w _ _)
  have S0 : Hid (Blk ((w.alloc (.cells (viewC A B C P ca cb cc cp ns ps os p) 256)).alloc (.cells #[strV name] 9)) w.heap.size (viewC A B C P ca cb cc cp ns ps os p) 256) := Lib.hid (Blk.alloc (Blk.new w _ _) _)
  have S1 : Hid (Blk ((w.alloc (.cells (viewC A B C P ca cb cc cp ns ps os p) 256)).alloc (.cells #[strV name] 9)) (w.heap.size + 1) #[strV name] 9) := Lib.hid (blk2 w _ _ _)
  have K := Lib.hid (containsS C cc (w.heap.size + 1) os name _ hlo (h.below B0.out).o (Blk.cell S1.out 0))
  generalize os.any (singleP name) = R at K ⊢
  clear h
  go_enter Tryz.func358, Tryz.ntmps358
  go_upto_region 1 with fail
  change Code.wp _ _ _ _ ((w.alloc (.cells (viewC A B C P ca cb cc cp ns ps os p) 256)).alloc (.cells #[strV name] 9))
  generalize ((w.alloc (.cells (viewC A B C P ca cb cc cp ns ps os p) 256)).alloc (.cells #[strV name] 9)) = W at B0 S0 S1 K ⊢
  have z2 : W.cell? ⟨w.heap.size, 2, none⟩ = some (.slice C os.length cc) := Blk.cell S0.out 2
  go_wp2_with fail
  refine (K.out).mono ?_
  rintro e w1 ⟨rfl, hb⟩
  have HB := Lib.hid (B0.out.trans (hb.mono B0.out.size))
  clear hb
  go_wp2
  go_ret
  exact ⟨rfl, HB.out⟩
end Go.Proofs.YtmmokiaipfalmaaGreat

namespace Go.Proofs.YtmmokiaipfalmaaGreat
open Go.RowKit

set_option maxRecDepth 100000 in
set_option maxHeartbeats 8000000 in
theorem double_any (A B C P : Option Addr) (ca cb cc cp : Nat) (ns : List NodeD) (ps : List PodD) (os : List OwnD) (p : List Int) (i q : Nat) (x : PodD) (n : NodeD) (hE : placeE ns ps os p = 0) (hi : p[i]? = some (q : Int)) (hx : ps[i]? = some x) (hn : ns[q]? = some n) (w : World) (h : SnapAt w A B C ca cb cc ns ps os) (hp : IntsAt w P cp p) :
    Calls Tryz.prog 306 #[viewV A B C P ca cb cc cp ns ps os p, .int .i64 (i : Int)] w fun e w' => e = .returned (.tuple #[.int .i64 (((ofU ns ps os p 6 i).getD 0 : Nat) : Int), .bool (ofU ns ps os p 6 i).isSome]) ∧ Below w.heap.size w w' := by
  have hck := placeE_chk hE
  obtain ⟨on1, on2⟩ := own_names hck
  have hlp := h.lp
  have HPL := Lib.hid (placeE_len hE)
  have E0 := ofU_at (os := os) (kind := 6) hi hx hn
  have HSg : Hid (ofU ns ps os p 6 i = if os.any (singleP x.owner) then some (doubU ps p i p.length) else none) := Lib.hid (by
    rw [E0, if_neg (by omega), if_neg (by omega), if_neg (by omega), if_neg (by omega)]
    by_cases ho : x.owner = []
    · rw [if_pos ho, ho, single_none on1]
      rfl
    · rw [if_neg ho, single_is on2])
  have B0 : Hid (Below w.heap.size w (w.alloc (.cells (viewC A B C P ca cb cc cp ns ps os p) 256))) := Lib.hid (below1 w _)
  have S0 : Hid (Blk (w.alloc (.cells (viewC A B C P ca cb cc cp ns ps os p) 256)) w.heap.size (viewC A B C P ca cb cc cp ns ps os p) 256) := Lib.hid (Blk.new w _ _)
  have i0 : (0 : Int) ≤ (i : Int) := by omega
  have i1 : (i : Int) < (p.length : Int) := by have := (List.getElem?_eq_some_iff.1 hi).1; omega
  have i2 : (i : Int) < (ps.length : Int) := by have := (List.getElem?_eq_some_iff.1 hx).1; omega
  obtain ⟨b, o, hB, _⟩ := atP h.p.cells hx
  subst hB
  obtain ⟨bp, op, hAp, _, _⟩ := atI hp.cells hi
  subst hAp
  have HPC : Hid (∀ W', Below w.heap.size w W' → ∀ (k : Nat) (x : Int), p[k]? = some x → W'.cell? ⟨bp, op + k, none⟩ = some (.int .i64 x)) := Lib.hid (fun W' hb k x hk => by
    obtain ⟨b', o', hA', _, hc⟩ := atI (hp.below hb).cells hk
    cases hA'
    exact hc)
  have PC : Hid (∀ W', Below w.heap.size w W' → ∀ (k : Nat) (x : PodD), ps[k]? = some x → W'.cell? ⟨b, o + k * 15 + 1, none⟩ = some (strV x.owner)) := Lib.hid (fun W' hb k x hk => by
    obtain ⟨b', o', hA', _, c0, c1, _⟩ := atP (h.below hb).p.cells hk
    cases hA'
    exact c1)
  have KS := Lib.hid (fun W' (hb : Below w.heap.size w W') => isSingle_any A (some ⟨b, o, none⟩) C (some ⟨bp, op, none⟩) ca cb cc cp ns ps os p x.owner W' (h.below hb))
  have HD : Hid (∀ k, doubU ps p i (k + 1) = doubU ps p i k + (if k ≠ i ∧ p[k]? = p[i]? ∧ (ps[k]?).map (·.owner) = (ps[i]?).map (·.owner) then 1 else 0)) := Lib.hid (fun k => rfl)
  have HDL : Hid (∀ k, doubU ps p i k ≤ k) := Lib.hid (doubU_le ps p i)
  have HD0 : Hid (doubU ps p i 0 = 0) := Lib.hid rfl
  have HI := Lib.hid hi
  have HX := Lib.hid hx
  generalize doubU ps p i = DU at HSg HD HDL HD0
  generalize os.any (singleP x.owner) = sg at KS HSg
  generalize ofU ns ps os p 6 i = R at HSg ⊢
  clear h hp hE hi hx hn hck on1 on2 E0
  go_enter Tryz.func306, Tryz.ntmps306
  obtain ⟨W, hW⟩ : ∃ W, (w.alloc (.cells (viewC A (some ⟨b, o, none⟩) C (some ⟨bp, op, none⟩) ca cb cc cp ns ps os p) 256)) = W := ⟨_, rfl⟩
  rw [hW] at B0 S0
  go_upto_region 1 with fail
  try rw [show (w.alloc (.cells #[.slice A ns.length ca, .slice (some ⟨b, o, none⟩) ps.length cb, .slice C os.length cc, .slice (some ⟨bp, op, none⟩) p.length cp] 256)) = W from hW]
  clear hW
  have HZ := Lib.hid (fun W' (hb : Below W.heap.size W W') => (show W'.cell? ⟨w.heap.size, 0, none⟩ = some (.slice A ns.length ca) ∧ W'.cell? ⟨w.heap.size, 1, none⟩ = some (.slice (some ⟨b, o, none⟩) ps.length cb) ∧ W'.cell? ⟨w.heap.size, 2, none⟩ = some (.slice C os.length cc) ∧ W'.cell? ⟨w.heap.size, 3, none⟩ = some (.slice (some ⟨bp, op, none⟩) p.length cp) from ⟨Blk.cell (S0.out.below hb S0.out.lt) 0, Blk.cell (S0.out.below hb S0.out.lt) 1, Blk.cell (S0.out.below hb S0.out.lt) 2, Blk.cell (S0.out.below hb S0.out.lt) 3⟩))
  have HT := Lib.hid (fun W' (hb : Below W.heap.size W W') => B0.out.trans (hb.mono B0.out.size))
  obtain ⟨z0, z1, z2, z3⟩ := HZ.out _ (Below.refl _ W)
  have x1 := PC.out _ B0.out i _ HX.out
  go_wp2_with fail
  refine (KS.out _ B0.out).mono ?_
  rintro e w1 ⟨rfl, hb1⟩
  have HB1 := Lib.hid (show Below W.heap.size W w1 from hb1)
  clear hb1 z0 z1 z2 z3 x1 KS B0 S0
  obtain ⟨z0, z1, z2, z3⟩ := HZ.out _ HB1.out
  cases sg with
  | false =>
    have HE : Hid (R = none) := HSg
    clear HSg HD
    go_wp2
    go_ret2
    rw [HE.out]
    exact ⟨rfl, HT.out _ HB1.out⟩
  | true =>
    have HE : Hid (R = some (DU p.length)) := HSg
    clear HSg
    go_wp2_with fail
    clear z0 z1 z2 z3
    go_loopw [4, 23] (fun c j wr => ∃ k : Nat, k ≤ p.length ∧ j = .int .i64 (k : Int) ∧ c = .int .i64 ((DU k : Nat) : Int) ∧ Below W.heap.size W wr) (fun _ j _ => p.length - (intOf j).toNat)
    case atStart => exact ⟨0, by omega, rfl, by rw [HD0.out]; rfl, HB1.out⟩
    case round =>
      clear HB1
      obtain ⟨k, hk, rfl, rfl, hb⟩ := hrel
      have HB := Lib.hid hb
      clear hb
      by_cases hlt : k < p.length
      case neg =>
        obtain rfl : k = p.length := by omega
        go_wp2
        go_ret2
        rw [HE.out]
        exact ⟨rfl, HT.out _ HB.out⟩
      obtain ⟨v, hv⟩ : ∃ v, p[k]? = some v := ⟨p[k], List.getElem?_eq_getElem hlt⟩
      obtain ⟨y, hy⟩ : ∃ y, ps[k]? = some y := ⟨ps[k]'(by have := HPL.out; omega), List.getElem?_eq_getElem _⟩
      obtain ⟨z0, z1, z2, z3⟩ := HZ.out _ HB.out
      have pk := HPC.out _ (HT.out _ HB.out) k _ hv
      have pi := HPC.out _ (HT.out _ HB.out) i _ HI.out
      have yk := PC.out _ (HT.out _ HB.out) k _ hy
      have k0 : (0 : Int) ≤ (k : Int) := by omega
      have k1 : (k : Int) < (p.length : Int) := by omega
      have k2 : (k : Int) < (ps.length : Int) := by have := HPL.out; omega
      have Hd := Lib.hid (HD.out k)
      rw [hv, hy, HI.out, HX.out] at Hd
      have hdl := HDL.out k
      generalize DU k = m at Hd hdl ⊢
      clear hv hy
      by_cases h1 : k = i
      case pos =>
        have hE2 : Hid (DU (k + 1) = m) := Lib.hid (by rw [Hd.out, if_neg (fun h => h.1 h1)]; rfl)
        have e1 : ((k : Int) != (i : Int)) = false := by simp [h1]
        have e2 : ((k : Int) == (i : Int)) = true := by simp [h1]
        have e3 : (k : Int) = (i : Int) := by omega
        have e4 : (k == i) = true := by simp [h1]
        have e5 : (k != i) = false := by simp [h1]
        clear Hd
        subst h1
        clear e2 e3 e4
        go_wp2_with fail
        go_roundw
        case rel => exact ⟨k + 1, by omega, by go_num, by rw [hE2.out], HB.out⟩
        case measure => simp [intOf]; omega
      have e1 : ((k : Int) != (i : Int)) = true := by simp; omega
      have e2 : ((k : Int) == (i : Int)) = false := by simp; omega
      have e3 : ¬ (k : Int) = (i : Int) := by omega
      have e4 : (k == i) = false := by simpa using h1
      have e5 : (k != i) = true := by simpa using h1
      have e6 : decide (k = i) = false := decide_eq_false h1
      by_cases h2 : v = (q : Int)
      case neg =>
        have hE2 : Hid (DU (k + 1) = m) := Lib.hid (by rw [Hd.out, if_neg (fun h => h2 (Option.some.inj h.2.1))]; rfl)
        have f1 : (v == (q : Int)) = false := by simpa using h2
        have f2 : decide (v = (q : Int)) = false := decide_eq_false h2
        clear Hd
        go_wp2_with fail
        go_roundw
        case rel => exact ⟨k + 1, by omega, by go_num, by rw [hE2.out], HB.out⟩
        case measure => simp [intOf]; omega
      subst h2
      by_cases h3 : y.owner = x.owner
      case neg =>
        have hE2 : Hid (DU (k + 1) = m) := Lib.hid (by rw [Hd.out, if_neg (fun h => h3 (Option.some.inj h.2.2))]; rfl)
        have f1 : (y.owner == x.owner) = false := by simpa using h3
        clear Hd h3
        go_wp2_with fail
        go_roundw
        case rel => exact ⟨k + 1, by omega, by go_num, by rw [hE2.out], HB.out⟩
        case measure => simp [intOf]; omega
      have hE2 : Hid (DU (k + 1) = m + 1) := Lib.hid (by rw [Hd.out, if_pos ⟨h1, rfl, by simp [h3]⟩])
      have f1 : (y.owner == x.owner) = true := by simpa using h3
      have hwm : IntKind.i64.wrap ((m : Int) + 1) = (m : Int) + 1 := IntWalk.i64_in _ (by have := HPL.out; omega)
      clear Hd h3
      go_wp2_with fail
      go_roundw
      case rel => exact ⟨k + 1, by omega, by go_num, by rw [hE2.out]; simp, HB.out⟩
      case measure => simp [intOf]; omega
end Go.Proofs.YtmmokiaipfalmaaGreat

namespace Go.Proofs.YtmmokiaipfalmaaGreat
open Go.RowKit

/-- A subject of a placement. -/
def SubOk (ns : List NodeD) (os : List OwnD) (p : List Int) : Sub → Prop
  | .node n q => n < ns.length ∧ q < 5
  | .pod i => i < p.length ∧ p[i]? ≠ some (-1)
  | .owner o => o < os.length
theorem subs_ok (ns : List NodeD) (os : List OwnD) (p : List Int) : ∀ s ∈ subsU ns os p, SubOk ns os p s := by
  have h1 : ∀ k, k ≤ ns.length → ∀ s ∈ nodesS k, SubOk ns os p s := by
    intro k
    induction k with
    | zero => intro _ s h; simp [nodesS] at h
    | succ k ih =>
      intro hk s h
      rw [nodesS, List.mem_append] at h
      rcases h with h | h
      · exact ih (by omega) s h
      · obtain ⟨q, hq, rfl⟩ := List.mem_map.1 h
        exact ⟨by omega, by simpa using hq⟩
  have h2 : ∀ k, k ≤ p.length → ∀ s ∈ podsS p k, SubOk ns os p s := by
    intro k
    induction k with
    | zero => intro _ s h; simp [podsS] at h
    | succ k ih =>
      intro hk s h
      rw [podsS, List.mem_append] at h
      rcases h with h | h
      · exact ih (by omega) s h
      · unfold podS at h
        split at h
        · simp at h
        · rename_i hn
          simp at h
          subst h
          exact ⟨by omega, hn⟩
  have h3 : ∀ k, k ≤ os.length → ∀ s ∈ ownersS k, SubOk ns os p s := by
    intro k
    induction k with
    | zero => intro _ s h; simp [ownersS] at h
    | succ k ih =>
      intro hk s h
      rw [ownersS, List.mem_append] at h
      rcases h with h | h
      · exact ih (by omega) s h
      · simp at h
        subst h
        show k < os.length
        omega
  intro s h
  unfold subsU at h
  simp only [List.mem_append] at h
  rcases h with (h | h) | h
  · exact h1 _ (Nat.le_refl _) s h
  · exact h2 _ (Nat.le_refl _) s h
  · exact h3 _ (Nat.le_refl _) s h

abbrev byR (ns : List NodeD) (ps : List PodD) (os : List OwnD) (p : List Int) (kind : Nat) (s : Sub) : Value := .tuple #[.int .i64 ((byU ns ps os p kind s).getD 0), .bool (byU ns ps os p kind s).isSome]

set_option maxRecDepth 100000 in
set_option maxHeartbeats 8000000 in
theorem by_any (A B C P : Option Addr) (ca cb cc cp : Nat) (ns : List NodeD) (ps : List PodD) (os : List OwnD) (p : List Int) (kind : Nat) (hk1 : 1 ≤ kind) (hk8 : kind ≤ 8) (s : Sub) (hs : SubOk ns os p s) (hE : placeE ns ps os p = 0) (hsl : ∀ k : Int, (spreadF ns ps os p k).length ≤ 1000) (w : World) (h : SnapAt w A B C ca cb cc ns ps os) (hp : IntsAt w P cp p) :
    Calls Tryz.prog 233 #[ruleV kind, viewV A B C P ca cb cc cp ns ps os p, subV s] w fun e w' => e = .returned (byR ns ps os p kind s) ∧ Below w.heap.size w w' := by
  cases s with
  | node n q =>
    obtain ⟨hn, hq⟩ := hs
    obtain ⟨x, hx⟩ : ∃ x, ns[n]? = some x := ⟨ns[n], List.getElem?_eq_getElem hn⟩
    by_cases e1 : kind = 1
    · subst e1
      have hr : byR ns ps os p 1 (.node n q) = .tuple #[.int .i64 (max 0 (wrap64 (addW ps (onU p (n : Int) p.length) q - x.cap q))), .bool true] := by simp [byR, byU, hx]
      rw [hr]
      exact byNode_any A B C P ca cb cc cp ns ps os p .nilFunc .nilFunc n q 301 (fun _ _ => by kernel_rfl) _ _ w (fun W' hb => overCap_any A B C P ca cb cc cp ns ps os p n q x hE hx hq W' (h.below hb) (hp.below hb))
    · have hr : byR ns ps os p kind (.node n q) = .tuple #[.int .i64 0, .bool false] := by simp [byR, byU, e1]
      rw [hr]
      have hsh : ∃ f1 f2, ruleV kind = .agg #[.nilFunc, f1, f2] := by
        match kind, hk1, hk8, e1 with
        | 2, _, _, _ => exact ⟨_, _, rfl⟩
        | 3, _, _, _ => exact ⟨_, _, rfl⟩
        | 4, _, _, _ => exact ⟨_, _, rfl⟩
        | 5, _, _, _ => exact ⟨_, _, rfl⟩
        | 6, _, _, _ => exact ⟨_, _, rfl⟩
        | 7, _, _, _ => exact ⟨_, _, rfl⟩
        | 8, _, _, _ => exact ⟨_, _, rfl⟩
      obtain ⟨f1, f2, hv⟩ := hsh
      rw [hv]
      exact byNode_no A B C P ca cb cc cp ns ps os p f1 f2 n q w
  | pod i =>
    obtain ⟨hi, hw⟩ := hs
    obtain ⟨v, hv⟩ : ∃ v, p[i]? = some v := ⟨p[i], List.getElem?_eq_getElem hi⟩
    obtain ⟨q, rfl, hq⟩ := tpB_lt (placeE_on hE hv (fun e => hw (by rw [hv, e])))
    obtain ⟨x, hx⟩ : ∃ x, ps[i]? = some x := ⟨ps[i]'(by have := placeE_len hE; omega), List.getElem?_eq_getElem _⟩
    obtain ⟨n, hn⟩ : ∃ x, ns[q]? = some x := ⟨ns[q], List.getElem?_eq_getElem hq⟩
    by_cases e1 : 2 ≤ kind ∧ kind ≤ 6
    · have hr : byR ns ps os p kind (.pod i) = .tuple #[.int .i64 (((ofU ns ps os p kind i).getD 0 : Nat) : Int), .bool (ofU ns ps os p kind i).isSome] := by
        simp only [byR, byU, if_pos e1]
        cases ofU ns ps os p kind i <;> rfl
      rw [hr]
      have E := ofU_at (os := os) (kind := kind) hv hx hn
      match kind, e1, E with
      | 2, _, E =>
        have E2 : ofU ns ps os p 2 i = some (termsO x.whr n.labels) := E
        rw [E2]
        exact byPod_any A B C P ca cb cc cp ns ps os p .nilFunc .nilFunc i 302 (fun _ _ => by kernel_rfl) _ _ w (fun W' hb => notWhere_any A B C P ca cb cc cp ns ps os p i q x n hE hv hx hn W' (h.below hb) (hp.below hb))
      | 3, _, E =>
        have E2 : ofU ns ps os p 3 i = some (taintsO n.taints x.bears) := E
        rw [E2]
        exact byPod_any A B C P ca cb cc cp ns ps os p .nilFunc .nilFunc i 303 (fun _ _ => by kernel_rfl) _ _ w (fun W' hb => notBorne_any A B C P ca cb cc cp ns ps os p i q x n hE hv hx hn W' (h.below hb) (hp.below hb))
      | 4, _, E => exact byPod_any A B C P ca cb cc cp ns ps os p .nilFunc .nilFunc i 304 (fun _ _ => by kernel_rfl) _ _ w (fun W' hb => alone_any A B C P ca cb cc cp ns ps os p i q x n hE hv hx hn W' (h.below hb) (hp.below hb))
      | 5, _, E => exact byPod_any A B C P ca cb cc cp ns ps os p .nilFunc .nilFunc i 305 (fun _ _ => by kernel_rfl) _ _ w (fun W' hb => notApart_any A B C P ca cb cc cp ns ps os p i q x n hE hv hx hn W' (h.below hb) (hp.below hb))
      | 6, _, E => exact byPod_any A B C P ca cb cc cp ns ps os p .nilFunc .nilFunc i 306 (fun _ _ => by kernel_rfl) _ _ w (fun W' hb => double_any A B C P ca cb cc cp ns ps os p i q x n hE hv hx hn W' (h.below hb) (hp.below hb))
    · have hr : byR ns ps os p kind (.pod i) = .tuple #[.int .i64 0, .bool false] := by simp [byR, byU, e1]
      rw [hr]
      have hsh : ∃ f1 f2, ruleV kind = .agg #[f1, .nilFunc, f2] := by
        match kind, hk1, hk8, e1 with
        | 1, _, _, _ => exact ⟨_, _, rfl⟩
        | 7, _, _, _ => exact ⟨_, _, rfl⟩
        | 8, _, _, _ => exact ⟨_, _, rfl⟩
        | 2, _, _, h => exact absurd ⟨by omega, by omega⟩ h
        | 3, _, _, h => exact absurd ⟨by omega, by omega⟩ h
        | 4, _, _, h => exact absurd ⟨by omega, by omega⟩ h
        | 5, _, _, h => exact absurd ⟨by omega, by omega⟩ h
        | 6, _, _, h => exact absurd ⟨by omega, by omega⟩ h
      obtain ⟨f1, f2, hv2⟩ := hsh
      rw [hv2]
      exact byPod_no A B C P ca cb cc cp ns ps os p f1 f2 i w
  | owner o =>
    have ho : o < os.length := hs
    obtain ⟨x, hx⟩ : ∃ x, os[o]? = some x := ⟨os[o], List.getElem?_eq_getElem ho⟩
    by_cases e7 : kind = 7
    · subst e7
      have hr : byR ns ps os p 7 (.owner o) = .tuple #[.int .i64 ((if x.topo = [] then none else some (skewO (spreadF ns ps os p (o : Int)) x.skew)).getD 0), .bool (if x.topo = [] then none else some (skewO (spreadF ns ps os p (o : Int)) x.skew)).isSome] := by simp [byR, byU, hx]
      rw [hr]
      exact byOwner_any A B C P ca cb cc cp ns ps os p .nilFunc .nilFunc o 307 (fun _ _ => by kernel_rfl) _ _ w (fun W' hb => overSkew_any A B C P ca cb cc cp ns ps os p o x hx (hsl _) W' (h.below hb) (hp.below hb))
    by_cases e8 : kind = 8
    · subst e8
      have hr : byR ns ps os p 8 (.owner o) = .tuple #[.int .i64 (max 0 (wrap64 (x.min - placedF ns ps os p (o : Int)))), .bool true] := by simp [byR, byU, hx]
      rw [hr]
      exact byOwner_any A B C P ca cb cc cp ns ps os p .nilFunc .nilFunc o 308 (fun _ _ => by kernel_rfl) _ _ w (fun W' hb => belowMin_any A B C P ca cb cc cp ns ps os p o x hx W' (h.below hb) (hp.below hb))
    have hr : byR ns ps os p kind (.owner o) = .tuple #[.int .i64 0, .bool false] := by simp [byR, byU, e7, e8]
    rw [hr]
    have hsh : ∃ f1 f2, ruleV kind = .agg #[f1, f2, .nilFunc] := by
      match kind, hk1, hk8, e7, e8 with
      | 1, _, _, _, _ => exact ⟨_, _, rfl⟩
      | 2, _, _, _, _ => exact ⟨_, _, rfl⟩
      | 3, _, _, _, _ => exact ⟨_, _, rfl⟩
      | 4, _, _, _, _ => exact ⟨_, _, rfl⟩
      | 5, _, _, _, _ => exact ⟨_, _, rfl⟩
      | 6, _, _, _, _ => exact ⟨_, _, rfl⟩
      | 7, _, _, h, _ => exact absurd rfl h
      | 8, _, _, _, h => exact absurd rfl h
    obtain ⟨f1, f2, hv⟩ := hsh
    rw [hv]
    exact byOwner_no A B C P ca cb cc cp ns ps os p f1 f2 o w
end Go.Proofs.YtmmokiaipfalmaaGreat

namespace Go.Proofs.YtmmokiaipfalmaaGreat
open Go.RowKit

theorem spread_few {ns : List NodeD} {ps : List PodD} {os : List OwnD} {p : List Int} (hln : ns.length ≤ 1000) (hlp : ps.length ≤ 1000) (k : Int) : (spreadF ns ps os p k).length ≤ 1000 := by
  cases hR : ownerB ns ps os p k with
  | false =>
    unfold spreadF
    rw [hR]
    simp
  | true =>
    obtain ⟨ko, xo, rfl, hxo, hE, _, _, hC⟩ := owned_is hR
    rw [hC, spread_is ns xo.topo p (offL p (membersF ps xo.name)) (Nat.le_trans (offL_len p _) (Nat.le_trans (membersU_len ps xo.name _) hlp)) (off_in hE xo.name), List.length_map]
    exact Nat.le_trans (domsR_len ns xo.topo ns.length) hln

set_option maxRecDepth 100000 in
set_option maxHeartbeats 2000000 in
theorem numbers_ofNode (n q : Nat) (w : World) :
    Calls Tryz.prog 420 #[.agg #[.int .i64 (n : Int), .int .i64 (q : Int)]] w fun e w' => e = .returned (.tuple #[.int .i64 (n : Int), (.int .i64 (q : Int))]) ∧ Below w.heap.size w w' := by
  have B0 : Hid (Below w.heap.size w (w.alloc (.cells #[.int .i64 (n : Int), .int .i64 (q : Int)] 301))) := Lib.hid (below1 w _)
  have S0 : Hid (Blk (w.alloc (.cells #[.int .i64 (n : Int), .int .i64 (q : Int)] 301)) w.heap.size #[.int .i64 (n : Int), .int .i64 (q : Int)] 301) := Lib.hid (Blk.new w _ _)
  go_enter Tryz.func420, Tryz.ntmps420
  go_upto_region 1 with fail
  try change Code.wp _ _ _ _ (w.alloc (.cells #[.int .i64 (n : Int), .int .i64 (q : Int)] 301))
  generalize (w.alloc (.cells #[.int .i64 (n : Int), .int .i64 (q : Int)] 301)) = W at B0 S0 ⊢
  have k0 : W.cell? ⟨w.heap.size, 0, none⟩ = some (.int .i64 (n : Int)) := Blk.cell S0.out 0
  have j0 : W.drew.cell? ⟨w.heap.size, 0, none⟩ = some (.int .i64 (n : Int)) := Blk.cell S0.out 0
  have k1 : W.cell? ⟨w.heap.size, 1, none⟩ = some (.int .i64 (q : Int)) := Blk.cell S0.out 1
  have j1 : W.drew.cell? ⟨w.heap.size, 1, none⟩ = some (.int .i64 (q : Int)) := Blk.cell S0.out 1
  (try go_region)
  all_goals
    go_wp2
    go_ret2
    exact ⟨rfl, by first | exact B0.out | exact B0.out.drew⟩

set_option maxRecDepth 100000 in
set_option maxHeartbeats 2000000 in
theorem numbers_ofPod (i : Nat) (w : World) :
    Calls Tryz.prog 421 #[.agg #[.int .i64 (i : Int)]] w fun e w' => e = .returned (.tuple #[.int .i64 (i : Int), (.int .i64 0)]) ∧ Below w.heap.size w w' := by
  have B0 : Hid (Below w.heap.size w (w.alloc (.cells #[.int .i64 (i : Int)] 303))) := Lib.hid (below1 w _)
  have S0 : Hid (Blk (w.alloc (.cells #[.int .i64 (i : Int)] 303)) w.heap.size #[.int .i64 (i : Int)] 303) := Lib.hid (Blk.new w _ _)
  go_enter Tryz.func421, Tryz.ntmps421
  go_upto_region 1 with fail
  try change Code.wp _ _ _ _ (w.alloc (.cells #[.int .i64 (i : Int)] 303))
  generalize (w.alloc (.cells #[.int .i64 (i : Int)] 303)) = W at B0 S0 ⊢
  have k0 : W.cell? ⟨w.heap.size, 0, none⟩ = some (.int .i64 (i : Int)) := Blk.cell S0.out 0
  have j0 : W.drew.cell? ⟨w.heap.size, 0, none⟩ = some (.int .i64 (i : Int)) := Blk.cell S0.out 0
  (try go_region)
  all_goals
    go_wp2
    go_ret2
    exact ⟨rfl, by first | exact B0.out | exact B0.out.drew⟩

set_option maxRecDepth 100000 in
set_option maxHeartbeats 2000000 in
theorem numbers_ofOwner (o : Nat) (w : World) :
    Calls Tryz.prog 422 #[.agg #[.int .i64 (o : Int)]] w fun e w' => e = .returned (.tuple #[.int .i64 (o : Int), (.int .i64 0)]) ∧ Below w.heap.size w w' := by
  have B0 : Hid (Below w.heap.size w (w.alloc (.cells #[.int .i64 (o : Int)] 305))) := Lib.hid (below1 w _)
  have S0 : Hid (Blk (w.alloc (.cells #[.int .i64 (o : Int)] 305)) w.heap.size #[.int .i64 (o : Int)] 305) := Lib.hid (Blk.new w _ _)
  go_enter Tryz.func422, Tryz.ntmps422
  go_upto_region 1 with fail
  try change Code.wp _ _ _ _ (w.alloc (.cells #[.int .i64 (o : Int)] 305))
  generalize (w.alloc (.cells #[.int .i64 (o : Int)] 305)) = W at B0 S0 ⊢
  have k0 : W.cell? ⟨w.heap.size, 0, none⟩ = some (.int .i64 (o : Int)) := Blk.cell S0.out 0
  have j0 : W.drew.cell? ⟨w.heap.size, 0, none⟩ = some (.int .i64 (o : Int)) := Blk.cell S0.out 0
  (try go_region)
  all_goals
    go_wp2
    go_ret2
    exact ⟨rfl, by first | exact B0.out | exact B0.out.drew⟩

end Go.Proofs.YtmmokiaipfalmaaGreat

namespace Go.Proofs.YtmmokiaipfalmaaGreat
open Go.RowKit

/-- A clause whose By is not known yet. -/
def zb (c : ClT) : ClT := (c.1, c.2.1, c.2.2.1, 0)
/-- The clauses of a placement that are asked for. -/
def lookF (ns : List NodeD) (ps : List PodD) (os : List OwnD) (p : List Int) (f : ClT → Bool) : List ClT := (all8 ns ps os p).filter (fun c => f (zb c))
theorem lookF_is {ns : List NodeD} {ps : List PodD} {os : List OwnD} {p : List Int} (hE : placeE ns ps os p = 0) (f : ClT → Bool) : lookF ns ps os p f = (lookK ns ps os p 8).filter (fun c => f (zb c)) := by
  unfold lookF all8
  rw [if_pos hE, look_is]
/-- What one subject adds. -/
def oneK (ns : List NodeD) (ps : List PodD) (os : List OwnD) (p : List Int) (f : ClT → Bool) (k : Nat) (s : Sub) : List ClT := if f ((k : Int), (s.a : Int), (s.b : Int), 0) then (match byU ns ps os p k s with | some b => [((k : Int), (s.a : Int), (s.b : Int), b)] | none => []) else []
def someK (ns : List NodeD) (ps : List PodD) (os : List OwnD) (p : List Int) (f : ClT → Bool) (k : Nat) : Nat → List ClT
  | 0 => []
  | t + 1 => someK ns ps os p f k t ++ (match (subsU ns os p)[t]? with | some s => oneK ns ps os p f k s | none => [])
theorem one_is (ns : List NodeD) (ps : List PodD) (os : List OwnD) (p : List Int) (f : ClT → Bool) (k : Nat) (s : Sub) : ([s].filterMap (clauseK ns ps os p k)).filter (fun c => f (zb c)) = oneK ns ps os p f k s := by
  unfold oneK
  cases hb : byU ns ps os p k s with
  | none =>
    simp [clauseK, hb]
  | some b =>
    cases hf : f ((k : Int), (s.a : Int), (s.b : Int), 0) <;> simp [clauseK, hb, zb, hf]
theorem some_is (ns : List NodeD) (ps : List PodD) (os : List OwnD) (p : List Int) (f : ClT → Bool) (k : Nat) : ∀ t, t ≤ (subsU ns os p).length → someK ns ps os p f k t = (((subsU ns os p).take t).filterMap (clauseK ns ps os p k)).filter (fun c => f (zb c))
  | 0, _ => by simp [someK]
  | t + 1, h => by
    obtain ⟨s, hs⟩ : ∃ s, (subsU ns os p)[t]? = some s := ⟨(subsU ns os p)[t], List.getElem?_eq_getElem h⟩
    rw [someK, some_is ns ps os p f k t (by omega), hs, List.take_add_one, hs, List.filterMap_append, List.filter_append]
    congr 1
    exact (one_is ns ps os p f k s).symm
/-- The kinds up to k. -/
def upK (ns : List NodeD) (ps : List PodD) (os : List OwnD) (p : List Int) (f : ClT → Bool) : Nat → List ClT
  | 0 => []
  | k + 1 => upK ns ps os p f k ++ someK ns ps os p f (k + 1) (subsU ns os p).length
theorem up_is (ns : List NodeD) (ps : List PodD) (os : List OwnD) (p : List Int) (f : ClT → Bool) : ∀ k, upK ns ps os p f k = (lookK ns ps os p k).filter (fun c => f (zb c))
  | 0 => rfl
  | k + 1 => by
    rw [upK, lookK, List.filter_append, up_is ns ps os p f k, some_is ns ps os p f (k + 1) _ (Nat.le_refl _), List.take_length]
theorem oneK_len (ns : List NodeD) (ps : List PodD) (os : List OwnD) (p : List Int) (f : ClT → Bool) (k : Nat) (s : Sub) : (oneK ns ps os p f k s).length ≤ 1 := by
  unfold oneK
  split
  · split <;> simp
  · simp
theorem someK_len (ns : List NodeD) (ps : List PodD) (os : List OwnD) (p : List Int) (f : ClT → Bool) (k : Nat) : ∀ t, (someK ns ps os p f k t).length ≤ t
  | 0 => Nat.le_refl _
  | t + 1 => by
    have := someK_len ns ps os p f k t
    rw [someK, List.length_append]
    split
    · rename_i s hs
      have := oneK_len ns ps os p f k s
      omega
    · simp
      omega
theorem upK_len (ns : List NodeD) (ps : List PodD) (os : List OwnD) (p : List Int) (f : ClT → Bool) : ∀ k, (upK ns ps os p f k).length ≤ k * (subsU ns os p).length
  | 0 => by simp [upK]
  | k + 1 => by
    have := upK_len ns ps os p f k
    have := someK_len ns ps os p f (k + 1) (subsU ns os p).length
    rw [upK, List.length_append, Nat.succ_mul]
    omega
/-- A block holds a clause of a kind about a subject, its By not known yet. -/
def NumSt (wr : World) (k : Nat) (s : Sub) (wc : World) : Prop := Blk wc wr.heap.size #[.int .i64 (k : Int), .int .i64 (s.a : Int), .int .i64 (s.b : Int), .int .i64 0] 62 ∧ Below wr.heap.size wr wc
theorem rule_at (W : World) (M : Nat) (h : W.heap[M]? = some (.map (entsR 8).toArray 8)) (k : Nat) (h1 : 1 ≤ k) (h8 : k ≤ 8) :
    (Instr.lookup 259 (.map (some M)) (.int .i64 (k : Int)) false).run Tryz.prog W = .ok (ruleV k) W := by
  obtain ⟨j, rfl⟩ : ∃ j, k = j + 1 := ⟨k - 1, by omega⟩
  have := run_ruleAt W M h j (by omega)
  rw [show (((j + 1 : Nat)) : Int) = (j : Int) + 1 by push_cast; rfl]
  exact this


end Go.Proofs.YtmmokiaipfalmaaGreat

namespace Go.Proofs.YtmmokiaipfalmaaGreat
open Go.RowKit

set_option maxRecDepth 100000 in
set_option maxHeartbeats 16000000 in
theorem look0_any (A B C P : Option Addr) (ca cb cc cp : Nat) (ns : List NodeD) (ps : List PodD) (os : List OwnD) (p : List Int) (g : FuncId) (f : ClT → Bool) (hg : ∀ (args : Array Value) (w : World), (callFunc g args).run Tryz.prog w = .ok (.enter g args) w) (w : World) (h : SnapAt w A B C ca cb cc ns ps os) (hp : IntsAt w P cp p)
    (hcl : ∀ (c : ClT) (w' : World), Below w.heap.size w w' → Calls Tryz.prog g #[clV c] w' fun e w'' => e = .returned (.bool (f c)) ∧ Below w'.heap.size w' w'') :
    Calls Tryz.prog 165 #[snapV A B C ca cb cc ns ps os, .slice P p.length cp, .func (Fn.func g) #[] #[]] w fun e w' => ∃ v, e = .returned (.tuple #[v, .int .i64 (placeE ns ps os p)]) ∧ w'.ownsRow w.heap.size 62 4 v (lookF ns ps os p f).length (cells4 (lookF ns ps os p f)) ∧ Below w.heap.size w w' := by
  have B0 : Hid (Below w.heap.size w (w.alloc (.cells (snapC A B C ca cb cc ns ps os) 26))) := Lib.hid (below1 w _)
  have S0 : Hid (Blk (w.alloc (.cells (snapC A B C ca cb cc ns ps os) 26)) w.heap.size (snapC A B C ca cb cc ns ps os) 26) := Lib.hid (Blk.new w _ _)
  have KC := Lib.hid (pcheck_any A B C P ca cb cc cp ns ps os p _ (h.below B0.out) (hp.below B0.out))
  obtain ⟨i0, hi0, hz0, hz1, hz2⟩ := info_parts cl_info
  by_cases hE : placeE ns ps os p = 0
  case neg =>
    have HE : Hid (lookF ns ps os p f = []) := Lib.hid (by unfold lookF all8; rw [if_neg hE]; rfl)
    generalize placeE ns ps os p = er at KC hE ⊢
    have hne : (er != 0) = true := by simpa using hE
    have hnd : decide (er = 0) = false := decide_eq_false hE
    have hnb : (er == 0) = false := by simpa using hE
    clear h hp hcl
    go_enter Tryz.func165, Tryz.ntmps165
    go_wp2_with fail
    refine (KC.out).mono ?_
    rintro e w1 ⟨rfl, hb⟩
    have B1 := Lib.hid (B0.out.trans (hb.mono B0.out.size))
    clear hb KC B0 S0
    go_wp2
    go_ret2
    rw [HE.out]
    exact ⟨_, rfl, World.ownsRow_nil _ _ _ _, B1.out⟩
  have hln := h.ln
  have hlp := h.lp
  have hlo := h.lo
  have HPL := Lib.hid (placeE_len hE)
  have hpl2 : p.length ≤ 1000 := by have := HPL.out; omega
  have HLF : Hid (lookF ns ps os p f = upK ns ps os p f 8) := Lib.hid (by rw [lookF_is hE, up_is])
  have HBY := Lib.hid (fun (k : Nat) (h1 : 1 ≤ k) (h8 : k ≤ 8) (s : Sub) (hs : SubOk ns os p s) (W' : World) (hb : Below w.heap.size w W') => by_any A B C P ca cb cc cp ns ps os p k h1 h8 s hs hE (spread_few hln hlp) W' (h.below hb) (hp.below hb))
  have HSU := Lib.hid (fun (W' : World) (hb : Below w.heap.size w W') => subjects_any A B C P ca cb cc cp ns ps os p hln hpl2 hlo W' (hp.below hb))
  have HSL := subsU_len ns os p
  have HSO := Lib.hid (subs_ok ns os p)
  have HUP0 : Hid (upK ns ps os p f 0 = []) := Lib.hid rfl
  have HUP : Hid (∀ k, upK ns ps os p f (k + 1) = upK ns ps os p f k ++ someK ns ps os p f (k + 1) (subsU ns os p).length) := Lib.hid (fun k => rfl)
  have HUPL : Hid (∀ k, (upK ns ps os p f k).length ≤ k * (subsU ns os p).length) := Lib.hid (upK_len ns ps os p f)
  have HSM0 : Hid (∀ k, someK ns ps os p f k 0 = []) := Lib.hid (fun k => rfl)
  have HSM : Hid (∀ (k t : Nat) (s : Sub), (subsU ns os p)[t]? = some s → someK ns ps os p f k (t + 1) = someK ns ps os p f k t ++ oneK ns ps os p f k s) := Lib.hid (fun k t s hs => by rw [someK, hs])
  have HSML : Hid (∀ k t, (someK ns ps os p f k t).length ≤ t) := Lib.hid (someK_len ns ps os p f)
  have HON : Hid (∀ (k : Nat) (s : Sub), oneK ns ps os p f k s = if f ((k : Int), (s.a : Int), (s.b : Int), 0) then (match byU ns ps os p k s with | some b => [((k : Int), (s.a : Int), (s.b : Int), b)] | none => []) else []) := Lib.hid (fun k s => rfl)
  have HCL := Lib.hid hcl
  rw [hE] at KC ⊢
  generalize lookF ns ps os p f = LF at HLF ⊢
  generalize upK ns ps os p f = UP at HLF HUP0 HUP HUPL
  generalize someK ns ps os p f = SM at HUP HSM0 HSM HSML
  generalize oneK ns ps os p f = ON at HSM HON
  generalize subsU ns os p = SU at HSU HSL HSO HUP HUPL HSM
  have hsl : SU.length ≤ 7000 := by omega
  clear h hp hE hcl HSL
  go_enter Tryz.func165, Tryz.ntmps165
  obtain ⟨W, hW⟩ : ∃ W, (w.alloc (.cells (snapC A B C ca cb cc ns ps os) 26)) = W := ⟨_, rfl⟩
  rw [hW] at B0 S0 KC
  have z0 : W.cell? ⟨w.heap.size, 0, none⟩ = some (.slice A ns.length ca) := Blk.cell S0.out 0
  have z1 : W.cell? ⟨w.heap.size, 1, none⟩ = some (.slice B ps.length cb) := Blk.cell S0.out 1
  have z2 : W.cell? ⟨w.heap.size, 2, none⟩ = some (.slice C os.length cc) := Blk.cell S0.out 2
  go_wp2_with fail
  try rw [show (w.alloc (.cells #[.slice A ns.length ca, .slice B ps.length cb, .slice C os.length cc] 26)) = W from hW]
  clear hW
  refine (KC.out).mono ?_
  rintro e w1 ⟨rfl, hb1⟩
  have S1 := Lib.hid (S0.out.below hb1 S0.out.lt)
  have B1 := Lib.hid (B0.out.trans (hb1.mono B0.out.size))
  clear hb1 B0 S0 KC z0 z1 z2
  have z0 : w1.cell? ⟨w.heap.size, 0, none⟩ = some (.slice A ns.length ca) := Blk.cell S1.out 0
  have z1 : w1.cell? ⟨w.heap.size, 1, none⟩ = some (.slice B ps.length cb) := Blk.cell S1.out 1
  have z2 : w1.cell? ⟨w.heap.size, 2, none⟩ = some (.slice C os.length cc) := Blk.cell S1.out 2
  go_upto_region 6 with fail
  have V1 : Hid (Blk (w1.alloc (.cells (viewC A B C P ca cb cc cp ns ps os p) 256)) w1.heap.size (viewC A B C P ca cb cc cp ns ps os p) 256) := Lib.hid (Blk.new w1 _ _)
  have B2 : Hid (Below w.heap.size w (w1.alloc (.cells (viewC A B C P ca cb cc cp ns ps os p) 256))) := Lib.hid (B1.out.alloc B1.out.size _)
  clear z0 z1 z2 S1
  try change Code.wp _ _ _ _ (w1.alloc (.cells (viewC A B C P ca cb cc cp ns ps os p) 256))
  generalize (w1.alloc (.cells (viewC A B C P ca cb cc cp ns ps os p) 256)) = V at V1 B2 ⊢
  generalize w1.heap.size = Vb at V1 ⊢
  clear B1
  have v0 : V.cell? ⟨Vb, 0, none⟩ = some (.slice A ns.length ca) := Blk.cell V1.out 0
  have v1 : V.cell? ⟨Vb, 1, none⟩ = some (.slice B ps.length cb) := Blk.cell V1.out 1
  have v2 : V.cell? ⟨Vb, 2, none⟩ = some (.slice C os.length cc) := Blk.cell V1.out 2
  have v3 : V.cell? ⟨Vb, 3, none⟩ = some (.slice P p.length cp) := Blk.cell V1.out 3
  go_wp2_with fail
  refine (HSU.out _ B2.out).mono ?_
  rintro e w3 ⟨vs, rfl, hos, hb3⟩
  obtain ⟨G, cg, rfl, _⟩ := La.own_slice hos
  have O3 := Lib.hid (La.own_slat hos)
  have V3 := Lib.hid (V1.out.below hb3 V1.out.lt)
  have B3 := Lib.hid (B2.out.trans (hb3.mono B2.out.size))
  clear hos hb3 v0 v1 v2 v3 V1 B2 HSU
  go_wp2_with fail
  refine (rules_any w3).mono ?_
  rintro e W ⟨rfl, hM, hbW⟩
  have HM := Lib.hid hM
  have BW := Lib.hid (B3.out.trans (hbW.mono B3.out.size))
  have VW := Lib.hid (V3.out.below hbW V3.out.lt)
  have OW := Lib.hid (La.SlAt.below O3.out hbW)
  generalize w3.heap.size = M at HM ⊢
  clear hM hbW V3 B3 O3
  have HV := Lib.hid (fun W' (hb : Below W.heap.size W W') => (show W'.cell? ⟨Vb, 0, none⟩ = some (.slice A ns.length ca) ∧ W'.cell? ⟨Vb, 1, none⟩ = some (.slice B ps.length cb) ∧ W'.cell? ⟨Vb, 2, none⟩ = some (.slice C os.length cc) ∧ W'.cell? ⟨Vb, 3, none⟩ = some (.slice P p.length cp) from ⟨Blk.cell (VW.out.below hb VW.out.lt) 0, Blk.cell (VW.out.below hb VW.out.lt) 1, Blk.cell (VW.out.below hb VW.out.lt) 2, Blk.cell (VW.out.below hb VW.out.lt) 3⟩))
  have HT := Lib.hid (fun W' (hb : Below W.heap.size W W') => BW.out.trans (hb.mono BW.out.size))
  have HMl : Hid (M < W.heap.size) := Lib.hid (Array.getElem?_eq_some_iff.1 HM.out).1
  have HRu := Lib.hid (fun W' (hb : Below W.heap.size W W') (k : Nat) (h1 : 1 ≤ k) (h8 : k ≤ 8) => rule_at W' M ((hb.block M HMl.out).trans HM.out) k h1 h8)
  have HSt := Lib.hid (fun W' (hb : Below W.heap.size W W') => La.SlAt.below OW.out hb)
  have HB0 := Lib.hid BW.out.size
  clear VW BW HM OW
  go_wp2_with fail
  go_loopw [10, 13] (fun v kd wr => ∃ k : Nat, 1 ≤ k ∧ k ≤ 9 ∧ kd = .int .i64 (k : Int) ∧ wr.ownsRow W.heap.size 62 4 v (UP (k - 1)).length (cells4 (UP (k - 1))) ∧ Below W.heap.size W wr) (fun _ kd _ => 9 - (intOf kd).toNat)
  case atStart => exact ⟨1, by omega, by omega, rfl, by rw [show UP (1 - 1) = [] from HUP0.out]; exact World.ownsRow_nil _ _ _ _, Below.refl _ _⟩
  case round =>
    obtain ⟨k, hk1, hk9, rfl, ho, hb⟩ := hrel
    have HO := Lib.hid ho
    have HB := Lib.hid hb
    clear ho hb
    by_cases hlt : k < 9
    case neg =>
      have ek : k = 9 := by omega
      have HLF2 : Hid (LF = UP (k - 1)) := Lib.hid (by rw [HLF.out, ek])
      have e9 : ¬ ((k : Int) ≤ 8) := by omega
      clear ek
      go_wp2
      go_ret2
      rw [HLF2.out]
      exact ⟨_, rfl, own_base HO.out HB0.out, HT.out _ HB.out⟩
    have hk8 : k ≤ 8 := by omega
    have e8 : (k : Int) ≤ 8 := by omega
    have HU : Hid (UP (k + 1 - 1) = UP (k - 1) ++ SM k SU.length) := Lib.hid (by
      obtain ⟨j, rfl⟩ : ∃ j, k = j + 1 := ⟨k - 1, by omega⟩
      exact HUP.out j)
    have hul : (UP (k - 1)).length ≤ 8 * 7000 := Nat.le_trans (HUPL.out (k - 1)) (Nat.mul_le_mul (by omega) hsl)
    have hM0 : Hid (SM k 0 = []) := Lib.hid (HSM0.out k)
    have hMs : Hid (∀ (t : Nat) (s : Sub), SU[t]? = some s → SM k (t + 1) = SM k t ++ ON k s) := Lib.hid (fun t s h => HSM.out k t s h)
    have hMl : Hid (∀ t, (SM k t).length ≤ t) := Lib.hid (HSML.out k)
    generalize SM k = SK at HU hM0 hMs hMl
    generalize UP (k - 1) = U at HO HU hul
    clear hlt hk9
    go_wp2_with fail
    go_loopw [10, 37] (fun v j wr => ∃ t : Nat, t ≤ SU.length ∧ j = .int .i64 (t : Int) ∧ wr.ownsRow W.heap.size 62 4 v (U ++ SK t).length (cells4 (U ++ SK t)) ∧ Below W.heap.size W wr) (fun _ j _ => SU.length - (intOf j).toNat)
    case atStart => exact ⟨0, by omega, rfl, by rw [hM0.out, List.append_nil]; exact HO.out, HB.out⟩
    case round =>
      clear HO HB
      obtain ⟨t, ht, rfl, ho, hb⟩ := hrel
      have HO := Lib.hid ho
      have HB := Lib.hid hb
      clear ho hb
      by_cases hlt : t < SU.length
      case neg =>
        obtain rfl : t = SU.length := by omega
        go_wp2_with fail
        go_roundw
        case rel => exact ⟨k + 1, by omega, by omega, by go_num, by rw [HU.out]; exact HO.out, HB.out⟩
        case measure => simp [intOf]; omega
      obtain ⟨s, hs⟩ : ∃ s, SU[t]? = some s := ⟨SU[t], List.getElem?_eq_getElem hlt⟩
      have hso := HSO.out s (List.mem_of_getElem? hs)
      have Hst : Hid (U ++ SK (t + 1) = (U ++ SK t) ++ ON k s) := Lib.hid (by rw [hMs.out t s hs, List.append_assoc])
      have hnl : (U ++ SK t).length ≤ 63000 := by rw [List.length_append]; have := hMl.out t; omega
      obtain ⟨gs, os', hG, hsc⟩ := (HSt.out _ HB.out) t (subV s) (by rw [List.getElem?_map, hs]; rfl)
      subst hG
      have KB : Hid (∀ (W' : World), Below W.heap.size W W' → Calls Tryz.prog 233 #[ruleV k, viewV A B C P ca cb cc cp ns ps os p, subV s] W' fun e w' => e = .returned (.tuple #[.int .i64 ((byU ns ps os p k s).getD 0), .bool (byU ns ps os p k s).isSome]) ∧ Below W'.heap.size W' w') := Lib.hid (fun (W' : World) (hb : Below W.heap.size W W') => HBY.out k hk1 hk8 s hso W' (HT.out W' hb))
      have Hon := Lib.hid (HON.out k s)
      have KF := Lib.hid (fun (W' : World) (hb : Below W.heap.size W W') => HCL.out ((k : Int), (s.a : Int), (s.b : Int), 0) W' (HT.out W' hb))
      have k0 : (0 : Int) ≤ (t : Int) := by omega
      have k1 : (t : Int) < (SU.length : Int) := by omega
      generalize U ++ SK t = T at HO Hst hnl
      generalize ON k s = O1 at Hst Hon
      go_upto_region 14 with fail
      go_cut [43] (fun v wc => v = v ∧ NumSt wr k s wc)
      case first =>
        have T0 : Hid (Blk (wr.alloc (.cells #[.int .i64 (k : Int), .int .i64 0, .int .i64 0, .int .i64 0] 62)) wr.heap.size #[.int .i64 (k : Int), .int .i64 0, .int .i64 0, .int .i64 0] 62) := Lib.hid (Blk.new wr _ _)
        have B5 : Hid (Below wr.heap.size wr (wr.alloc (.cells #[.int .i64 (k : Int), .int .i64 0, .int .i64 0, .int .i64 0] 62))) := Lib.hid (below1 wr _)
        generalize (wr.alloc (.cells #[.int .i64 (k : Int), .int .i64 0, .int .i64 0, .int .i64 0] 62)) = V5 at T0 B5 ⊢
        cases s with
        | node n qq =>
          simp only [subV]
          go_wp2_with fail
          refine (numbers_ofNode n qq _).mono ?_
          rintro e w5 ⟨rfl, hb5⟩
          have T5 := Lib.hid (T0.out.below hb5 T0.out.lt)
          have D5 := Lib.hid (B5.out.trans (hb5.mono B5.out.size))
          clear hb5 T0 B5
          have c1 : w5.cell? ⟨wr.heap.size, 1, none⟩ = some (.int .i64 0) := Blk.cell T5.out 1
          have c2 : w5.cell? ⟨wr.heap.size, 2, none⟩ = some (.int .i64 0) := Blk.cell T5.out 2
          have f1 := Blk.free T5.out 1
          have f2 := Blk.free T5.out 2
          go_wp2_with fail
          go_meet
          exact ⟨trivial, ((T5.out.set 1 _).set 2 _), (D5.out.setCell (p := ⟨wr.heap.size, 1, none⟩) (Nat.le_refl _) _).setCell (p := ⟨wr.heap.size, 2, none⟩) (Nat.le_refl _) _⟩
        | pod ii =>
          simp only [subV]
          go_wp2_with fail
          refine (numbers_ofPod ii _).mono ?_
          rintro e w5 ⟨rfl, hb5⟩
          have T5 := Lib.hid (T0.out.below hb5 T0.out.lt)
          have D5 := Lib.hid (B5.out.trans (hb5.mono B5.out.size))
          clear hb5 T0 B5
          have c1 : w5.cell? ⟨wr.heap.size, 1, none⟩ = some (.int .i64 0) := Blk.cell T5.out 1
          have c2 : w5.cell? ⟨wr.heap.size, 2, none⟩ = some (.int .i64 0) := Blk.cell T5.out 2
          have f1 := Blk.free T5.out 1
          have f2 := Blk.free T5.out 2
          go_wp2_with fail
          go_meet
          exact ⟨trivial, ((T5.out.set 1 _).set 2 _), (D5.out.setCell (p := ⟨wr.heap.size, 1, none⟩) (Nat.le_refl _) _).setCell (p := ⟨wr.heap.size, 2, none⟩) (Nat.le_refl _) _⟩
        | owner oo =>
          simp only [subV]
          go_wp2_with fail
          refine (numbers_ofOwner oo _).mono ?_
          rintro e w5 ⟨rfl, hb5⟩
          have T5 := Lib.hid (T0.out.below hb5 T0.out.lt)
          have D5 := Lib.hid (B5.out.trans (hb5.mono B5.out.size))
          clear hb5 T0 B5
          have c1 : w5.cell? ⟨wr.heap.size, 1, none⟩ = some (.int .i64 0) := Blk.cell T5.out 1
          have c2 : w5.cell? ⟨wr.heap.size, 2, none⟩ = some (.int .i64 0) := Blk.cell T5.out 2
          have f1 := Blk.free T5.out 1
          have f2 := Blk.free T5.out 2
          go_wp2_with fail
          go_meet
          exact ⟨trivial, ((T5.out.set 1 _).set 2 _), (D5.out.setCell (p := ⟨wr.heap.size, 1, none⟩) (Nat.le_refl _) _).setCell (p := ⟨wr.heap.size, 2, none⟩) (Nat.le_refl _) _⟩
      case rest =>
        obtain ⟨_, hT, hbc⟩ := hcut
        have TB := Lib.hid hT
        have HBr := Lib.hid hbc
        have HBc := Lib.hid (HB.out.trans (hbc.mono HB.out.size))
        generalize f ((k : Int), (s.a : Int), (s.b : Int), 0) = asked at KF Hon
        generalize byU ns ps os p k s = bv at KB Hon
        generalize subV s = sv at KB hsc ⊢
        generalize (s.a : Int) = sa at KF Hon TB
        generalize (s.b : Int) = sb at KF Hon TB
        have c0 : wc.cell? ⟨wr.heap.size, 0, none⟩ = some (.int .i64 (k : Int)) := Blk.cell TB.out 0
        have c1 : wc.cell? ⟨wr.heap.size, 1, none⟩ = some (.int .i64 sa) := Blk.cell TB.out 1
        have c2 : wc.cell? ⟨wr.heap.size, 2, none⟩ = some (.int .i64 sb) := Blk.cell TB.out 2
        have c3 : wc.cell? ⟨wr.heap.size, 3, none⟩ = some (.int .i64 0) := Blk.cell TB.out 3
        clear hT hbc hs hsc
        go_wp2_with fail
        refine (KF.out _ HBc.out).mono ?_
        rintro e w6 ⟨rfl, hb6⟩
        have T6 := Lib.hid (TB.out.below hb6 TB.out.lt)
        have R6 := Lib.hid (HBr.out.trans (hb6.mono HBr.out.size))
        have HB6 := Lib.hid (HBc.out.trans (hb6.mono HBc.out.size))
        clear hb6 KF TB HBr HBc c0 c1 c2 c3
        cases asked with
        | false =>
          have HE : Hid (U ++ SK (t + 1) = T) := Lib.hid (by rw [Hst.out, Hon.out]; simp)
          have HO6 := Lib.hid (La.own_below HO.out R6.out)
          clear Hst Hon KB
          go_wp2_with fail
          go_roundw
          case rel => exact ⟨t + 1, by omega, by go_num, by rw [HE.out]; exact HO6.out, HB6.out⟩
          case measure => simp [intOf]; omega
        | true =>
          have hru := HRu.out _ HB6.out k hk1 hk8
          obtain ⟨v0, v1, v2, v3⟩ := HV.out _ HB6.out
          go_wp2_with fail
          refine (KB.out _ HB6.out).mono ?_
          rintro e w7 ⟨rfl, hb7⟩
          have T7 := Lib.hid (T6.out.below hb7 T6.out.lt)
          have R7 := Lib.hid (R6.out.trans (hb7.mono R6.out.size))
          have HB7 := Lib.hid (HB6.out.trans (hb7.mono HB6.out.size))
          clear hb7 KB T6 R6 HB6 v0 v1 v2 v3 hru
          cases bv with
          | none =>
            have HE : Hid (U ++ SK (t + 1) = T) := Lib.hid (by rw [Hst.out, Hon.out]; simp)
            have HO7 := Lib.hid (La.own_below HO.out R7.out)
            clear Hst Hon
            go_wp2_with fail
            go_roundw
            case rel => exact ⟨t + 1, by omega, by go_num, by rw [HE.out]; exact HO7.out, HB7.out⟩
            case measure => simp [intOf]; omega
          | some by_ =>
            have HE : Hid (U ++ SK (t + 1) = T ++ [((k : Int), sa, sb, by_)]) := Lib.hid (by rw [Hst.out, Hon.out]; simp)
            clear Hst Hon
            have c3 : w7.cell? ⟨wr.heap.size, 3, none⟩ = some (.int .i64 0) := Blk.cell T7.out 3
            have f3 := Blk.free T7.out 3
            go_upto_region 19 with fail
            have T8 : Hid (Blk (w7.setCell ⟨wr.heap.size, 3, none⟩ (.int .i64 by_)) wr.heap.size #[.int .i64 (k : Int), .int .i64 sa, .int .i64 sb, .int .i64 by_] 62) := Lib.hid (T7.out.set 3 _)
            have R8 : Hid (Below wr.heap.size wr (w7.setCell ⟨wr.heap.size, 3, none⟩ (.int .i64 by_))) := Lib.hid (R7.out.setCell (p := ⟨wr.heap.size, 3, none⟩) (Nat.le_refl _) _)
            generalize (w7.setCell ⟨wr.heap.size, 3, none⟩ (.int .i64 by_)) = W8 at T8 R8 ⊢
            have HO8 := Lib.hid (La.own_below HO.out R8.out)
            have HB8 := Lib.hid (HB.out.trans (R8.out.mono HB.out.size))
            have c0 : W8.cell? ⟨wr.heap.size, 0, none⟩ = some (.int .i64 (k : Int)) := Blk.cell T8.out 0
            have c1 : W8.cell? ⟨wr.heap.size, 1, none⟩ = some (.int .i64 sa) := Blk.cell T8.out 1
            have c2 : W8.cell? ⟨wr.heap.size, 2, none⟩ = some (.int .i64 sb) := Blk.cell T8.out 2
            have c3 : W8.cell? ⟨wr.heap.size, 3, none⟩ = some (.int .i64 by_) := Blk.cell T8.out 3
            clear T7 R7 HB7 T8 R8 HO HB f3
            go_wp2_with (at_builtin; refine wpList_append_own _ rfl _ _ 58 rfl W.heap.size 62 i0 (.agg #[.int .i64 0, .int .i64 0, .int .i64 0, .int .i64 0]) 4 32 Tryz.underlying58 hi0 hz0 hz1 hz2 rfl (by decide) _ _ _ rfl (show World.ownsRow _ _ _ _ _ _ _ from HO8.out.alloc _) ⟨W8.heap.size, 0, none⟩ 1 1 [.int .i64 (k : Int), .int .i64 sa, .int .i64 sb, .int .i64 by_] rfl rfl ?c1z ?c2z ?c3z ?c4z ?c5z ?_)
            case c1z =>
              intro j u hj
              match j, hj with
              | 0, hj => simp at hj; subst hj; simp [Addr.add]
              | 1, hj => simp at hj; subst hj; simp [Addr.add]
              | 2, hj => simp at hj; subst hj; simp [Addr.add]
              | 3, hj => simp at hj; subst hj; simp [Addr.add]
            case c2z => first | rfl | (intro u hu; simp at hu; rcases hu with rfl | rfl | rfl | rfl <;> rfl)
            case c3z => unfold maxLen; omega
            case c4z => omega
            case c5z => have := HB8.out.size; simp; omega
            intro v4 w4 hown4 hgrow4 _
            have P4 := Lib.hid hown4
            have D4 := Lib.hid ((HB8.out.alloc HB8.out.size (.cells #[.int .i64 (k : Int), .int .i64 sa, .int .i64 sb, .int .i64 by_] 62)).grown hgrow4 (by have := HB8.out.size; simp; omega) (fun j hj => own_gem HO8.out hj))
            clear hown4 hgrow4
            go_wp2_with fail
            go_roundw
            case rel =>
              refine ⟨t + 1, by omega, by go_num, ?_, D4.out⟩
              rw [HE.out, List.length_append, cells4_snoc]
              exact P4.out
            case measure => simp [intOf]; omega

set_option maxHeartbeats 1000000 in
theorem all1_any (c : ClT) (w : World) : Calls Tryz.prog 166 #[clV c] w fun e w' => e = .returned (.bool true) ∧ Below w.heap.size w w' := by
  have B0 : Hid (Below w.heap.size w (w.alloc (.cells #[.int .i64 c.1, .int .i64 c.2.1, .int .i64 c.2.2.1, .int .i64 c.2.2.2] 62))) := Lib.hid (below1 w _)
  go_enter Tryz.func166, Tryz.ntmps166
  go_wp2
  go_ret
  exact ⟨rfl, B0.out⟩
set_option maxRecDepth 100000 in
set_option maxHeartbeats 2000000 in
theorem allP_any (A B C P : Option Addr) (ca cb cc cp : Nat) (ns : List NodeD) (ps : List PodD) (os : List OwnD) (p : List Int) (w : World) (h : SnapAt w A B C ca cb cc ns ps os) (hp : IntsAt w P cp p) :
    Calls Tryz.prog 92 #[snapV A B C ca cb cc ns ps os, .slice P p.length cp] w fun e w' => ∃ v, e = .returned (.tuple #[v, .int .i64 (placeE ns ps os p)]) ∧ w'.ownsRow w.heap.size 62 4 v (all8 ns ps os p).length (cells4 (all8 ns ps os p)) ∧ Below w.heap.size w w' := by
  have B0 : Hid (Below w.heap.size w (w.alloc (.cells (snapC A B C ca cb cc ns ps os) 26))) := Lib.hid (below1 w _)
  have K := Lib.hid (look0_any A B C P ca cb cc cp ns ps os p 166 (fun _ => true) (fun _ _ => by kernel_rfl) _ (h.below B0.out) (hp.below B0.out) (fun c W' _ => all1_any c W'))
  have e : lookF ns ps os p (fun _ => true) = all8 ns ps os p := by
    unfold lookF
    exact List.filter_eq_self.2 (fun _ _ => rfl)
  rw [e] at K
  generalize all8 ns ps os p = L at K ⊢
  clear h hp e
  go_enter Tryz.func92, Tryz.ntmps92
  go_wp2_with fail
  refine (K.out).mono ?_
  rintro e w1 ⟨v, rfl, ho, hb⟩
  have O1 := Lib.hid (own_base ho B0.out.size)
  have B1 := Lib.hid (B0.out.trans (hb.mono B0.out.size))
  clear ho hb K
  go_wp2
  go_ret2
  exact ⟨v, rfl, O1.out, B1.out⟩

end Go.Proofs.YtmmokiaipfalmaaGreat

namespace Go.Proofs.YtmmokiaipfalmaaGreat
open Go.RowKit Go.Maps Go.Shelf

theorem zero_intS (w : World) : (zeroValue 3).run Tryz.prog w = .ok (.int .i64 0) w := by kernel_rfl
/-- A store into the map. -/
theorem map_run {w : World} {b n : Nat} {D : DataW Unit} (hown : w.ownsMap Tryz.prog 192 intE b n D) (hn : n < maxLen) {key : Value} {kl : Lit} (hkey : keyOf Tryz.prog 192 key = some kl) (y : Int) :
    ∃ w', (Instr.mapUpdate 146 (.map (some b)) key (.int .i64 y)).run Tryz.prog w = .ok () w' ∧ w'.ownsMap Tryz.prog 192 intE b (n + 1) (D.put kl (.lit (.int .i64 y))) ∧ w.grownBy w' (some b) :=
  hown.update which_law Tryz.underlying146 hn hkey (val := .int .i64 y) (d := .lit (.int .i64 y)) (ps := []) rfl
/-- A look-up. -/
theorem look_run {w : World} {b n : Nat} {D : DataW Unit} (hown : w.ownsMap Tryz.prog 192 intE b n D) {key : Value} {kl : Lit} (hkey : keyOf Tryz.prog 192 key = some kl) {y : Int} (hat : D.atKey kl (.lit (.int .i64 0)) = .lit (.int .i64 y)) :
    (Instr.lookup 146 (.map (some b)) key false).run Tryz.prog w = .ok (.int .i64 y) w := by
  obtain ⟨v, ps, hrun, hv⟩ := hown.lookup which_law Tryz.underlying146 (zero_intS w) (zd := .lit (.int .i64 0)) (zp := []) rfl hkey
  obtain ⟨c, rfl, hc⟩ := intE_inv hv
  rw [hat] at hc
  simp only [Prod.mk.injEq, DataW.lit.injEq, Lit.int.injEq, true_and] at hc
  obtain ⟨rfl, _⟩ := hc
  exact hrun
theorem blk_grown {w w' : World} {b g : Nat} {cs : Array Value} {t : TypeId} (h : Blk w g cs t) (hg : w.grownBy w' (some b)) (hne : g ≠ b) : Blk w' g cs t := (hg.block g h.lt (fun e => hne (Option.some.inj e))).trans h
theorem own_mapB {w w' : World} {b n : Nat} {D : DataW Unit} (h : w.ownsMap Tryz.prog 192 intE b n D) (hb : Below w.heap.size w w') : w'.ownsMap Tryz.prog 192 intE b n D := h.kept (grown_of_below hb none) (by simp)

set_option maxRecDepth 100000 in
set_option maxHeartbeats 1000000 in
theorem whichOf_any (c : ClT) (w : World) : Calls Tryz.prog 164 #[clV c] w fun e w' => e = .returned (keyW c.1 c.2.1 c.2.2.1) ∧ Below w.heap.size w w' := by
  have B0 : Hid (Below w.heap.size w ((w.alloc (.cells #[.int .i64 c.1, .int .i64 c.2.1, .int .i64 c.2.2.1, .int .i64 c.2.2.2] 62)).alloc (.cells #[.int .i64 c.1, .int .i64 c.2.1, .int .i64 c.2.2.1] 192))) := Lib.hid (Qu.below2 w _ _)
  have Q0 : Hid (Blk ((w.alloc (.cells #[.int .i64 c.1, .int .i64 c.2.1, .int .i64 c.2.2.1, .int .i64 c.2.2.2] 62)).alloc (.cells #[.int .i64 c.1, .int .i64 c.2.1, .int .i64 c.2.2.1] 192)) (w.heap.size + 1) #[.int .i64 c.1, .int .i64 c.2.1, .int .i64 c.2.2.1] 192) := Lib.hid (blk2 w _ _ _)
  go_enter Tryz.func164, Tryz.ntmps164
  go_wp2_with fail
  refine bodyPost_row1 Tryz.results164 (w.heap.size + 1) _ _ _ _ (by rfl) (by rfl) Q0.out Tryz.underlying192 rfl (by kernel_rfl) ?_
  exact ⟨rfl, B0.out⟩

/-- The map that brokenBy hands on. -/
def MapAt (B0 : Nat) (w : World) (E : Int) (l : List ClT) (m : Option Nat) : Prop := (E ≠ 0 → m = none) ∧ (E = 0 → ∃ b, m = some b ∧ B0 ≤ b ∧ w.ownsMap Tryz.prog 192 intE b l.length (mapW (l.filter brokC)))

set_option maxRecDepth 100000 in
set_option maxHeartbeats 8000000 in
theorem brokenBy_any (A B C P : Option Addr) (ca cb cc cp : Nat) (ns : List NodeD) (ps : List PodD) (os : List OwnD) (p : List Int) (hk : ∀ c ∈ all8 ns ps os p, OkC c) (hl : (all8 ns ps os p).length ≤ 12000) (w : World) (h : SnapAt w A B C ca cb cc ns ps os) (hp : IntsAt w P cp p) :
    Calls Tryz.prog 108 #[snapV A B C ca cb cc ns ps os, .slice P p.length cp] w fun e w' => ∃ m, e = .returned (.tuple #[.map m, .int .i64 (placeE ns ps os p)]) ∧ MapAt w.heap.size w' (placeE ns ps os p) (all8 ns ps os p) m ∧ Below w.heap.size w w' := by
  have B0 : Hid (Below w.heap.size w (w.alloc (.cells (snapC A B C ca cb cc ns ps os) 26))) := Lib.hid (below1 w _)
  have HA := Lib.hid (allP_any A B C P ca cb cc cp ns ps os p _ (h.below B0.out) (hp.below B0.out))
  have hmm := @run_makeMap Tryz.prog
  generalize all8 ns ps os p = l at HA hl hk ⊢
  generalize placeE ns ps os p = E at HA ⊢
  clear h hp
  go_enter Tryz.func108, Tryz.ntmps108
  go_wp2_with fail
  refine (HA.out).mono ?_
  rintro e w1 ⟨v, rfl, ho, hb⟩
  obtain ⟨G, cg, rfl, _⟩ := La.own_slice ho
  have O1 := Lib.hid (La.own_slat ho)
  have B1 := Lib.hid (B0.out.trans (hb.mono B0.out.size))
  clear ho hb HA B0
  by_cases hE : E = 0
  case neg =>
    have hne : (E != 0) = true := by simpa using hE
    have HE := Lib.hid hE
    clear hE
    go_wp2
    go_ret2
    exact ⟨none, rfl, ⟨fun _ => rfl, fun h => absurd h HE.out⟩, B1.out⟩
  subst hE
  go_wp2_with fail
  go_loopw [23] (fun i wr => ∃ k : Nat, k ≤ l.length ∧ i = .int .i64 k ∧ wr.ownsMap Tryz.prog 192 intE w1.heap.size k (mapW ((l.take k).filter brokC)) ∧ Below w1.heap.size w1 wr) (fun i _ => l.length - (intOf i).toNat)
  case atStart => exact ⟨0, by omega, rfl, World.ownsMap_made _ _ _ _, (Below.refl _ _).alloc (Nat.le_refl _) _⟩
  case round =>
    obtain ⟨k, hk9, rfl, ho, hb⟩ := hrel
    have HO := Lib.hid ho
    have HB := Lib.hid hb
    clear ho hb
    by_cases hlt : k < l.length
    case neg =>
      obtain rfl : k = l.length := by omega
      rw [List.take_length] at HO
      go_wp2
      go_ret2
      exact ⟨some w1.heap.size, rfl, ⟨fun h => absurd rfl h, fun _ => ⟨_, rfl, B1.out.size, HO.out⟩⟩, B1.out.trans (HB.out.mono B1.out.size)⟩
    obtain ⟨y, hy⟩ : ∃ y, l[k]? = some y := ⟨l[k], List.getElem?_eq_getElem hlt⟩
    have Hok := Lib.hid (hk y (List.mem_of_getElem? hy))
    obtain ⟨g, o, hG, hbl, c0, c1, c2, c3⟩ := atC (La.SlAt.below O1.out HB.out) hy
    subst hG
    have k0 : (0 : Int) ≤ (k : Int) := by omega
    have k1 : (k : Int) < (l.length : Int) := by omega
    have HF := Lib.hid (filt_snoc brokC hy)
    have Hy : Hid (brokC y = decide (0 < y.2.2.2)) := Lib.hid rfl
    clear hy
    generalize (l.take k).filter brokC = M at HO HF
    go_upto_region 8 with fail
    have T8 : Hid (Blk (wr.alloc (.cells #[.int .i64 y.1, .int .i64 y.2.1, .int .i64 y.2.2.1, .int .i64 y.2.2.2] 62)) wr.heap.size #[.int .i64 y.1, .int .i64 y.2.1, .int .i64 y.2.2.1, .int .i64 y.2.2.2] 62) := Lib.hid (Blk.new wr _ _)
    have R8 : Hid (Below wr.heap.size wr (wr.alloc (.cells #[.int .i64 y.1, .int .i64 y.2.1, .int .i64 y.2.2.1, .int .i64 y.2.2.2] 62))) := Lib.hid (below1 wr _)
    try change Code.wp _ _ _ _ (wr.alloc (.cells #[.int .i64 y.1, .int .i64 y.2.1, .int .i64 y.2.2.1, .int .i64 y.2.2.2] 62))
    generalize (wr.alloc (.cells #[.int .i64 y.1, .int .i64 y.2.1, .int .i64 y.2.2.1, .int .i64 y.2.2.2] 62)) = W8 at T8 R8 ⊢
    have HO8 := Lib.hid (own_mapB HO.out R8.out)
    have HB8 := Lib.hid (HB.out.trans (R8.out.mono HB.out.size))
    clear c0 c1 c2 c3
    have HC := Lib.hid (fun W' (hb : Below W8.heap.size W8 W') => (show W'.cell? ⟨wr.heap.size, 0, none⟩ = some (.int .i64 y.1) ∧ W'.cell? ⟨wr.heap.size, 1, none⟩ = some (.int .i64 y.2.1) ∧ W'.cell? ⟨wr.heap.size, 2, none⟩ = some (.int .i64 y.2.2.1) ∧ W'.cell? ⟨wr.heap.size, 3, none⟩ = some (.int .i64 y.2.2.2) from ⟨Blk.cell (T8.out.below hb T8.out.lt) 0, Blk.cell (T8.out.below hb T8.out.lt) 1, Blk.cell (T8.out.below hb T8.out.lt) 2, Blk.cell (T8.out.below hb T8.out.lt) 3⟩))
    have HOm := Lib.hid (fun W' (hb : Below W8.heap.size W8 W') => own_mapB HO8.out hb)
    have HBm := Lib.hid (fun W' (hb : Below W8.heap.size W8 W') => HB8.out.trans (hb.mono HB8.out.size))
    have HTm := Lib.hid (fun W' (hb : Below W8.heap.size W8 W') => T8.out.below hb T8.out.lt)
    have hne : Hid (wr.heap.size ≠ w1.heap.size) := Lib.hid (Nat.ne_of_gt HO.out.lt)
    obtain ⟨c0, c1, c2, c3⟩ := HC.out _ (Below.refl _ W8)
    clear R8 HO HB T8
    by_cases h1 : 0 < y.2.2.2
    case neg =>
      have HE : Hid ((l.take (k + 1)).filter brokC = M) := Lib.hid (by rw [HF.out, Hy.out, decide_eq_false h1]; simp)
      clear HF Hy
      go_wp2_with fail
      go_roundw
      case rel => exact ⟨k + 1, by omega, by go_num, by rw [HE.out]; exact HO8.out.mono (by omega), HB8.out⟩
      case measure => simp [intOf]; omega
    have HE : Hid (mapW ((l.take (k + 1)).filter brokC) = (mapW M).put (litW y.1 y.2.1 y.2.2.1) (.lit (.int .i64 y.2.2.2))) := Lib.hid (by rw [HF.out, Hy.out, decide_eq_true h1, if_pos rfl, mapW_snoc]; rfl)
    clear HF Hy
    have KW := Lib.hid (fun W' => whichOf_any y W')
    have hkn : k < maxLen := by unfold maxLen; omega
    have HKO := Lib.hid (keyOf_w Hok.out)
    go_upto_region 9 with fail
    have HD : Hid (Below W8.heap.size W8 W8.drew) := Lib.hid ((Below.refl _ W8).drew)
    clear c0 c1 c2 c3
    obtain ⟨c0, c1, c2, c3⟩ := HC.out _ HD.out
    go_region_held3 (fun w' => w'.cell? ⟨wr.heap.size, 0, none⟩ = some (.int .i64 y.1) ∧ w'.cell? ⟨wr.heap.size, 1, none⟩ = some (.int .i64 y.2.1) ∧ w'.cell? ⟨wr.heap.size, 2, none⟩ = some (.int .i64 y.2.2.1) ∧ w'.cell? ⟨wr.heap.size, 3, none⟩ = some (.int .i64 y.2.2.2))
      (first | exact ⟨c0, c1, c2, c3⟩ | exact ⟨y0, y1, y2, y3⟩ | exact ⟨x0, x1, x2, x3⟩)
      (first
        | (go_at_call 164
           refine (KW.out _).mono ?_
           rintro e wA ⟨rfl, hbA⟩
           have HDA := Lib.hid (HD.out.trans (hbA.mono HD.out.size))
           obtain ⟨y0, y1, y2, y3⟩ := HC.out _ HDA.out
           obtain ⟨wB, hrunB, hownB, hgB⟩ := map_run (HOm.out _ HDA.out) hkn HKO.out y.2.2.2
           have TB := Lib.hid (blk_grown (HTm.out _ HDA.out) hgB hne.out)
           have x0 : wB.cell? ⟨wr.heap.size, 0, none⟩ = some (.int .i64 y.1) := Blk.cell TB.out 0
           have x1 : wB.cell? ⟨wr.heap.size, 1, none⟩ = some (.int .i64 y.2.1) := Blk.cell TB.out 1
           have x2 : wB.cell? ⟨wr.heap.size, 2, none⟩ = some (.int .i64 y.2.2.1) := Blk.cell TB.out 2
           have x3 : wB.cell? ⟨wr.heap.size, 3, none⟩ = some (.int .i64 y.2.2.2) := Blk.cell TB.out 3
           clear hbA))
    all_goals
      have D9 := Lib.hid ((HBm.out _ HDA.out).grown hgB (HBm.out _ HDA.out).size (fun j hj => by cases hj; exact Nat.le_refl _))
      have P9 := Lib.hid hownB
      clear hownB hgB
      (try go_wp2_with fail)
      go_roundw
      case rel => exact ⟨k + 1, by omega, by go_num, by rw [HE.out]; exact P9.out, D9.out⟩
      case measure => simp [intOf]; omega
end Go.Proofs.YtmmokiaipfalmaaGreat
