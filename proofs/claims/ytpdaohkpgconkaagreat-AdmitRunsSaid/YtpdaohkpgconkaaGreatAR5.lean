/- The nodes for a pod; steps, one behind the other: the document's Ways, Run. Contracts. Condition: the cluster, the numbers, the steps lie in memory. Ways and Run answer as the document says: the law's walk. Condition: the arguments lie in memory. -/
import Derived.Test.YtpdaohkpgconkaaGreatAB4

namespace Go.Proofs.YtpdaohkpgconkaaGreat
open Go.RowKit Go.Maps Go.Shelf

set_option maxRecDepth 100000 in
set_option maxHeartbeats 4000000 in
theorem ways10_any (A B C P : Option Addr) (ca cb cc cp : Nat) (ns : List NodeD) (ps : List PodD) (os : List OwnD) (p : List Int) (pd : Int) (hfew : ∀ p', (all8 ns ps os p').length ≤ 1000) (w : World) (h : SnapAt w A B C ca cb cc ns ps os) (hp : IntsAt w P cp p) :
    Calls Tryz.prog 43 #[snapV A B C ca cb cc ns ps os, .slice P p.length cp, .int .i64 pd] w fun e w' => ∃ v, e = .returned v ∧ w'.ownsRow w.heap.size 3 1 v (waysU ns ps os p pd ns.length).length (intsC (waysU ns ps os p pd ns.length)) ∧ Below w.heap.size w w' := by
  have B0 : Hid (Below w.heap.size w (w.alloc (.cells (snapC A B C ca cb cc ns ps os) 26))) := Lib.hid (below1 w _)
  have S0 : Hid (Blk (w.alloc (.cells (snapC A B C ca cb cc ns ps os) 26)) w.heap.size (snapC A B C ca cb cc ns ps os) 26) := Lib.hid (Blk.new w _ _)
  have hln := h.ln
  have KM := Lib.hid (fun (W' : World) (hb : Below w.heap.size w W') (k : Nat) => may10_any A B C P ca cb cc cp ns ps os p 2 pd (k : Int) hfew W' (h.below hb) (hp.below hb))
  have HW : Hid (∀ k : Nat, waysU ns ps os p pd (k + 1) = waysU ns ps os p pd k ++ (if mayB ns ps os p (2, pd, (k : Int)) then [(k : Int)] else [])) := Lib.hid (fun k => rfl)
  have HL := Lib.hid (fun k => waysU_len ns ps os p pd k)
  have HZ : Hid (waysU ns ps os p pd 0 = []) := Lib.hid rfl
  obtain ⟨i0, hi0, hz0, hz1, hz2⟩ := info_parts Qu.int_info
  generalize waysU ns ps os p pd = U at HW HL HZ ⊢
  generalize mayB ns ps os p = M at KM HW
  clear h hp hfew
  go_enter Tryz.func43, Tryz.ntmps43
  go_upto_region 1 with fail
  try change Code.wp _ _ _ _ (w.alloc (.cells (snapC A B C ca cb cc ns ps os) 26))
  generalize (w.alloc (.cells (snapC A B C ca cb cc ns ps os) 26)) = W at B0 S0 ⊢
  have HC := Lib.hid (fun W' (hb : Below W.heap.size W W') => (show W'.cell? ⟨w.heap.size, 0, none⟩ = some (.slice A ns.length ca) ∧ W'.cell? ⟨w.heap.size, 1, none⟩ = some (.slice B ps.length cb) ∧ W'.cell? ⟨w.heap.size, 2, none⟩ = some (.slice C os.length cc) from ⟨Blk.cell (S0.out.below hb S0.out.lt) 0, Blk.cell (S0.out.below hb S0.out.lt) 1, Blk.cell (S0.out.below hb S0.out.lt) 2⟩))
  obtain ⟨z0, z1, z2⟩ := HC.out _ (Below.refl _ W)
  go_wp2_with fail
  clear z0 z1 z2
  go_loopw [7, 8] (fun v i wr => ∃ k : Nat, k ≤ ns.length ∧ i = .int .i64 k ∧ wr.ownsRow W.heap.size 3 1 v (U k).length (intsC (U k)) ∧ Below W.heap.size W wr) (fun _ i _ => ns.length - (intOf i).toNat)
  case atStart => exact ⟨0, by omega, rfl, by rw [HZ.out]; exact World.ownsRow_nil _ _ _ _, Below.refl _ _⟩
  case round =>
    obtain ⟨k, hk, rfl, ho, hb⟩ := hrel
    have HO := Lib.hid ho
    have HB := Lib.hid hb
    clear ho hb
    obtain ⟨z0, z1, z2⟩ := HC.out _ HB.out
    by_cases hlt : k < ns.length
    case neg =>
      obtain rfl : k = ns.length := by omega
      go_wp2
      go_ret
      exact ⟨_, rfl, own_base HO.out B0.out.size, B0.out.trans (HB.out.mono B0.out.size)⟩
    have k0 : (0 : Int) ≤ (k : Int) := by omega
    have k1 : (k : Int) < (ns.length : Int) := by omega
    have hUk := HL.out k
    have HWk := Lib.hid (HW.out k)
    have KMk := Lib.hid (KM.out _ (B0.out.trans (HB.out.mono B0.out.size)) k)
    generalize U k = L at HO HWk hUk
    generalize hU' : U (k + 1) = L' at HWk
    have HU' := Lib.hid hU'
    clear hU'
    go_wp2_with fail
    refine (KMk.out).mono ?_
    rintro e w1 ⟨rfl, hb1⟩
    have HO1 := Lib.hid (La.own_below HO.out hb1)
    have HB1 := Lib.hid (HB.out.trans (hb1.mono HB.out.size))
    clear hb1 KMk HO HB z0 z1 z2
    cases hm : M (2, pd, (k : Int)) with
    | false =>
      have HE : Hid (L' = L) := Lib.hid (by rw [HWk.out, hm]; simp)
      clear HWk hm
      go_wp2_with fail
      go_roundw
      case rel => exact ⟨k + 1, by omega, by go_num, by rw [HU'.out, HE.out]; exact HO1.out, HB1.out⟩
      case measure => simp [intOf]; omega
    | true =>
      have HE : Hid (L' = L ++ [(k : Int)]) := Lib.hid (by rw [HWk.out, hm]; simp)
      clear HWk hm
      go_wp2_with (at_builtin; refine wpList_append_own _ rfl _ _ 44 rfl W.heap.size 3 i0 (.int .i64 0) 1 8 Tryz.underlying44 hi0 hz0 hz1 hz2 rfl (by decide) _ _ _ rfl (show World.ownsRow _ _ _ _ _ _ _ from HO1.out.alloc _) ⟨w1.heap.size, 0, none⟩ 1 1 [.int .i64 (k : Int)] rfl rfl ?c1 ?c2 ?c3 ?c4 ?c5 ?_)
      case c1 =>
        intro j u hj
        match j, hj with
        | 0, hj => simp at hj; subst hj; simp [Addr.add]
      case c2 => first | rfl | (intro u hu; simp at hu; subst hu; rfl)
      case c3 => unfold maxLen; omega
      case c4 => omega
      case c5 => have := HB1.out.size; simp; omega
      intro v4 w4 hown4 hgrow4 _
      have P4 := Lib.hid hown4
      have D4 := Lib.hid ((HB1.out.alloc HB1.out.size (.cells #[.int .i64 (k : Int)] 3)).grown hgrow4 (by have := HB1.out.size; simp; omega) (fun j hj => own_gem HO1.out hj))
      clear hown4 hgrow4
      go_wp2_with fail
      go_roundw
      case rel =>
        refine ⟨k + 1, by omega, by go_num, ?_, D4.out⟩
        rw [HU'.out, HE.out, List.length_append]
        have := P4.out
        simpa [intsC] using this
      case measure => simp [intOf]; omega

set_option maxRecDepth 100000 in
set_option maxHeartbeats 8000000 in
theorem run10_any (A B C P L : Option Addr) (ca cb cc cp cl : Nat) (ns : List NodeD) (ps : List PodD) (os : List OwnD) (p : List Int) (l : List S3T) (hll : l.length ≤ 1000) (hfew : ∀ p', (all8 ns ps os p').length ≤ 1000) (w : World) (h : SnapAt w A B C ca cb cc ns ps os) (hpn : NumsIn w P cp p) (hL : La.SlAt w L (cells3 l)) :
    Calls Tryz.prog 41 #[snapV A B C ca cb cc ns ps os, .slice P p.length cp, .slice L l.length cl] w fun e w' => RunNo w (runR ns ps os p l) e w' := by
  have hp := hpn.ints
  have B0 : Hid (Below w.heap.size w (w.alloc (.cells (snapC A B C ca cb cc ns ps os) 26))) := Lib.hid (below1 w _)
  have S0 : Hid (Blk (w.alloc (.cells (snapC A B C ca cb cc ns ps os) 26)) w.heap.size (snapC A B C ca cb cc ns ps os) 26) := Lib.hid (Blk.new w _ _)
  have hlp := h.lp
  have KC := Lib.hid (check7_any A B C P ca cb cc cp ns ps os p _ (h.below B0.out) (hp.below B0.out))
  have KS := Lib.hid (fun (W' : World) (hb : Below w.heap.size w W') (Q : Option Addr) (cq : Nat) (q : List Int) (hq : IntsAt W' Q cq q) (x : S3T) => step10_any A B C Q ca cb cc cq ns ps os q x.1 x.2.1 x.2.2 hfew W' (h.below hb) hq)
  have HLs := Lib.hid (fun (W' : World) (hb : Below w.heap.size w W') => La.SlAt.below hL hb)
  have HPs := Lib.hid (fun (W' : World) (hb : Below w.heap.size w W') => hpn.below hb)
  have HR : Hid (runR ns ps os p l = if placeE ns ps os p = 0 then runF ns ps os p l 0 else ([], 0, placeE ns ps os p)) := Lib.hid rfl
  have HAT : Hid (∀ (q : List Int) (k : Nat) (x : S3T), l[k]? = some x → runF ns ps os q (l.drop k) k = if (stepF ns ps os q x).2.2 = 0 then runF ns ps os (stepF ns ps os q x).1 (l.drop (k + 1)) (k + 1) else ([], k, (stepF ns ps os q x).2.2)) := Lib.hid (fun q k x hx => run_at hx)
  have HEN : Hid (∀ q : List Int, runF ns ps os q (l.drop l.length) l.length = (q, l.length, 0)) := Lib.hid (fun q => run_end)
  have HPL : Hid (placeE ns ps os p = 0 → p.length ≤ 1000) := Lib.hid (fun h => by have := placeE_len h; omega)
  have HSF : Hid (∀ (q : List Int) (x : S3T), (stepF ns ps os q x).1.length ≤ 1000) := Lib.hid (fun q x => step_fewS hlp)
  obtain ⟨i0, hi0, hz0, hz1, hz2⟩ := info_parts Qu.int_info
  generalize runR ns ps os p l = R at HR ⊢
  generalize placeE ns ps os p = E at KC HR HPL
  have HST : Hid (∀ (W' : World) (hb : Below w.heap.size w W') (Q : Option Addr) (cq : Nat) (q : List Int) (hq : IntsAt W' Q cq q) (x : S3T), Calls Tryz.prog 36 #[snapV A B C ca cb cc ns ps os, .slice Q q.length cq, stepV x.1 x.2.1 x.2.2] W' fun e w' => StepNo W' (stepF ns ps os q x).1 (stepF ns ps os q x).2.1 (stepF ns ps os q x).2.2 e w') := Lib.hid (fun W' hb Q cq q hq x => KS.out W' hb Q cq q hq x)
  clear KS
  generalize stepF ns ps os = SF at HST HAT HSF
  generalize runF ns ps os = RF at HR HAT HEN
  clear h hp hL hpn hfew
  go_enter Tryz.func41, Tryz.ntmps41
  go_upto_region 1 with fail
  try change Code.wp _ _ _ _ (w.alloc (.cells (snapC A B C ca cb cc ns ps os) 26))
  generalize (w.alloc (.cells (snapC A B C ca cb cc ns ps os) 26)) = W at B0 S0 KC ⊢
  have HC := Lib.hid (fun W' (hb : Below W.heap.size W W') => (show W'.cell? ⟨w.heap.size, 0, none⟩ = some (.slice A ns.length ca) ∧ W'.cell? ⟨w.heap.size, 1, none⟩ = some (.slice B ps.length cb) ∧ W'.cell? ⟨w.heap.size, 2, none⟩ = some (.slice C os.length cc) from ⟨Blk.cell (S0.out.below hb S0.out.lt) 0, Blk.cell (S0.out.below hb S0.out.lt) 1, Blk.cell (S0.out.below hb S0.out.lt) 2⟩))
  obtain ⟨z0, z1, z2⟩ := HC.out _ (Below.refl _ W)
  go_wp2_with fail
  refine (KC.out).mono ?_
  rintro e w1 ⟨rfl, hb⟩
  have HB := Lib.hid (show Below W.heap.size W w1 from hb)
  clear hb KC z0 z1 z2
  by_cases hE : E = 0
  case neg =>
    have hne : (E != 0) = true := by simpa using hE
    have hR := HR.out
    rw [if_neg hE] at hR
    clear hE HR
    have D := Lib.hid (B0.out.trans (HB.out.mono B0.out.size))
    go_wp2
    go_ret3
    subst hR
    exact ⟨_, rfl, World.ownsRow_nil _ _ _ _, D.out⟩
  have hpl := HPL.out hE
  have HRu := HR.out
  rw [if_pos hE] at HRu
  subst hE
  have HRn := Lib.hid HRu
  clear HRu HR HPL
  have HPv := Lib.hid (HPs.out _ (B0.out.trans (HB.out.mono B0.out.size)))
  have E0 := Lib.hid (own_empty w1 w.heap.size 3 (B0.out.trans (HB.out.mono B0.out.size)).size)
  have HB1 := Lib.hid (HB.out.alloc HB.out.size (.cells #[] 3))
  have HPv1 := Lib.hid (HPv.out.below (below1 w1 (.cells #[] 3)))
  have hsz9 := (B0.out.trans (HB.out.mono B0.out.size)).size
  have hszW := B0.out.size
  have hszV := HB.out.size
  clear HB HPv
  cases P with
  | none =>
    obtain rfl := noneI HPv1.out.ints.cells
    obtain rfl := HPv1.out.nil rfl
    go_wp2_with (at_builtin; refine wpList_append_own_none rfl _ _ 44 rfl w.heap.size 3 i0 1 Tryz.underlying44 hi0 _ _ _ rfl E0.out rfl ?_)
    have HBV := HB1
    have OV : Hid ((w1.alloc (.cells #[] 3)).ownsRow w.heap.size 3 1 (.slice (some ⟨w1.heap.size, 0, none⟩) ([] : List Int).length 0) ([] : List Int).length (intsC [])) := E0
    clear HB1 E0 HPv1
    try change Code.wp _ _ _ _ (w1.alloc (.cells #[] 3))
    generalize (w1.alloc (.cells #[] 3)) = V at HBV OV ⊢
    have HV := Lib.hid (fun (W' : World) (hb : Below V.heap.size V W') => HBV.out.trans (hb.mono HBV.out.size))
    go_loopw [10, 11] (fun v i wr => ∃ (k : Nat) (q : List Int) (Q : Option Addr) (cq : Nat), k ≤ l.length ∧ i = .int .i64 k ∧ v = .slice Q q.length cq ∧ wr.ownsRow w.heap.size 3 1 (.slice Q q.length cq) q.length (intsC q) ∧ RF [] l 0 = RF q (l.drop k) k ∧ Below W.heap.size W wr) (fun _ i _ => l.length - (intOf i).toNat)
    case atStart => exact ⟨0, [], _, _, by omega, rfl, rfl, OV.out, by rw [List.drop_zero], HBV.out⟩
    case round =>
      obtain ⟨k, q, Q, cq, hk, rfl, rfl, ho, hr, hb⟩ := hrel
      have HO := Lib.hid ho
      have HRr := Lib.hid hr
      have HB := Lib.hid hb
      clear ho hr hb
      obtain ⟨z0, z1, z2⟩ := HC.out _ HB.out
      by_cases hlt : k < l.length
      case neg =>
        obtain rfl : k = l.length := by omega
        have hR : R = (q, l.length, 0) := by rw [HRn.out, HRr.out, HEN.out]
        have D := Lib.hid (B0.out.trans (HB.out.mono B0.out.size))
        clear HRn HRr
        go_wp2
        go_ret3
        subst hR
        exact ⟨_, rfl, HO.out, D.out⟩
      obtain ⟨x, hx⟩ : ∃ x, l[k]? = some x := ⟨l[k], List.getElem?_eq_getElem hlt⟩
      have HBw := Lib.hid (B0.out.trans (HB.out.mono B0.out.size))
      obtain ⟨g, o, hG, hbl, c0, c1, c2⟩ := atSt (HLs.out _ HBw.out) hx
      subst hG
      have k0 : (0 : Int) ≤ (k : Int) := by omega
      have k1 : (k : Int) < (l.length : Int) := by omega
      have HA := Lib.hid (HAT.out q k x hx)
      have HXs := Lib.hid (fun (W' : World) (hb : Below w.heap.size w W') => (by
        obtain ⟨g', o', hG', _, d0, d1, d2⟩ := atSt (HLs.out _ hb) hx
        cases hG'
        exact ⟨d0, d1, d2⟩ : W'.cell? ⟨g, o + k * 3, none⟩ = some (.int .i64 x.1) ∧ W'.cell? ⟨g, o + k * 3 + 1, none⟩ = some (.int .i64 x.2.1) ∧ W'.cell? ⟨g, o + k * 3 + 2, none⟩ = some (.int .i64 x.2.2)))
      have hsf := HSF.out q x
      clear hx
      go_upto_region 8 with fail
      have HD : Hid (Below W.heap.size W wr.drew) := Lib.hid HB.out.drew
      have HXw := Lib.hid (fun (W' : World) (hb : Below W.heap.size W W') => HXs.out W' (B0.out.trans (hb.mono B0.out.size)))
      have KS1 := Lib.hid (fun (W' : World) (hb : Below wr.heap.size wr W') => HST.out W' (HBw.out.trans (hb.mono HBw.out.size)) Q cq q (IntsAt.below (IntsAt.own HO.out) hb) x)
      generalize SF q x = T at KS1 HA hsf
      obtain ⟨q', c', e'⟩ := T
      dsimp only at KS1 HA hsf
      clear c0 c1 c2 z0 z1 z2
      obtain ⟨c0, c1, c2⟩ := HXw.out _ HD.out
      obtain ⟨z0, z1, z2⟩ := HC.out _ HD.out
      go_cut [12, 14] (fun a b wc => ∃ Q5 cq5, a = .slice Q5 q'.length cq5 ∧ b = .int .i64 e' ∧ wc.ownsRow w.heap.size 3 1 (.slice Q5 q'.length cq5) q'.length (intsC q') ∧ Below W.heap.size W wc)
      case first =>
        have HR0 : Hid (Below wr.heap.size wr wr.drew) := Lib.hid ((Below.refl _ wr).drew)
        have HR1 : Hid (Below wr.heap.size wr (wr.alloc (.cells (clC z4) 47)).drew) := Lib.hid ((below1 wr _).drew)
        have HDB : Hid (Below W.heap.size W (wr.alloc (.cells (clC z4) 47)).drew) := Lib.hid (HB.out.trans (HR1.out.mono HB.out.size))
        have QB : Hid (Blk (wr.alloc (.cells (clC z4) 47)).drew wr.heap.size (clC z4) 47) := Lib.hid (Blk.drew (Blk.new wr _ _))
        have hle9 := HB.out.size
        have SD := And.intro (HC.out _ HD.out) (HXw.out _ HD.out)
        have SB := And.intro (HC.out _ HDB.out) (HXw.out _ HDB.out)
        go_region_held3 (fun w' => (w'.cell? ⟨w.heap.size, 0, none⟩ = some (.slice A ns.length ca) ∧ w'.cell? ⟨w.heap.size, 1, none⟩ = some (.slice B ps.length cb) ∧ w'.cell? ⟨w.heap.size, 2, none⟩ = some (.slice C os.length cc)) ∧ w'.cell? ⟨g, o + k * 3, none⟩ = some (.int .i64 x.1) ∧ w'.cell? ⟨g, o + k * 3 + 1, none⟩ = some (.int .i64 x.2.1) ∧ w'.cell? ⟨g, o + k * 3 + 2, none⟩ = some (.int .i64 x.2.2))
          (first | (with_reducible exact SD) | (with_reducible exact SB) | (with_reducible exact SA) | (with_reducible exact SZ) | (with_reducible exact SC) | exact SD | exact SB | exact SA | exact SZ | exact SC)
          (first
            | (go_at_call 36
               with_reducible refine (KS1.out _ HR0.out).mono ?_
               rintro e wA ⟨v5, rfl, ho5, hbA⟩
               obtain ⟨Q5, cq5, rfl, _⟩ := La.own_slice ho5
               have HDA := Lib.hid (HD.out.trans (hbA.mono HD.out.size))
               have HO5 := Lib.hid (own_base ho5 (B0.out.trans (HD.out.mono B0.out.size)).size)
               have HDZ := Lib.hid (HDA.out.alloc HDA.out.size (.cells (clC z4) 47))
               have HDC := Lib.hid (HDA.out.alloc HDA.out.size (.cells (clC c') 47))
               have OC := Lib.hid (HO5.out.alloc (.cells (clC c') 47))
               have SA := And.intro (HC.out _ HDA.out) (HXw.out _ HDA.out)
               have SZ := And.intro (HC.out _ HDZ.out) (HXw.out _ HDZ.out)
               have SC := And.intro (HC.out _ HDC.out) (HXw.out _ HDC.out)
               have SA2 := SA
               obtain ⟨⟨y0, y1, y2⟩, d0, d1, d2⟩ := SA2
               clear ho5 hbA)
            | (go_at_call 36
               refine (KS1.out _ HR1.out).mono ?_
               rintro e wA ⟨v5, rfl, ho5, hbA⟩
               obtain ⟨Q5, cq5, rfl, _⟩ := La.own_slice ho5
               have HDA := Lib.hid (HDB.out.trans (hbA.mono HDB.out.size))
               have HO5 := Lib.hid (own_base ho5 (B0.out.trans (HDB.out.mono B0.out.size)).size)
               have QA := Lib.hid (QB.out.below hbA QB.out.lt)
               have HDC := Lib.hid (below4 HDA.out hle9 c')
               have OC := Lib.hid (own4 HO5.out QA.out c')
               have SA := And.intro (HC.out _ HDA.out) (HXw.out _ HDA.out)
               have SC := And.intro (HC.out _ HDC.out) (HXw.out _ HDC.out)
               have SA2 := SA
               obtain ⟨⟨y0, y1, y2⟩, d0, d1, d2⟩ := SA2
               obtain ⟨⟨q0, q1, q2, q3⟩, g0, g1, g2, g3⟩ := cells_of4 QA.out
               clear ho5 hbA))
        all_goals
          (try go_wp2_with fail)
          go_meet
          exact ⟨_, _, rfl, rfl, OC.out, HDC.out⟩
      case' rest => obtain ⟨Q5, cq5, rfl, rfl, ho5, hb5⟩ := hcut
      have HO5 := Lib.hid ho5
      have HB5 := Lib.hid hb5
      clear ho5 hb5 HO HB HBw KS1 HD c0 c1 c2 z0 z1 z2
      by_cases hx0 : e' = 0
      case neg =>
        have hne : (e' != 0) = true := by simpa using hx0
        have hR : R = ([], k, e') := by rw [HRn.out, HRr.out, HA.out, if_neg hx0]
        have D := Lib.hid (B0.out.trans (HB5.out.mono B0.out.size))
        clear HRn HRr HA hx0
        go_wp2
        go_ret3
        subst hR
        exact ⟨_, rfl, World.ownsRow_nil _ _ _ _, D.out⟩
      have HA2 := HA.out
      rw [if_pos hx0] at HA2
      have HA3 := Lib.hid HA2
      subst hx0
      clear HA HA2
      go_wp2_with fail
      go_roundw
      case rel => exact ⟨k + 1, q', _, _, by omega, by go_num, rfl, HO5.out, by rw [HRr.out, HA3.out], HB5.out⟩
      case measure => simp [intOf]; omega
  | some ad =>
    have HPc := Lib.hid (HPv1.out.ints.cells)
    go_wp2_with (at_builtin; refine wpList_append_own _ rfl _ _ 44 rfl w.heap.size 3 i0 (.int .i64 0) 1 8 Tryz.underlying44 hi0 hz0 hz1 hz2 rfl (by decide) _ _ _ rfl E0.out ad p.length cp (intsC p) rfl ?k0 ?k1 ?k2 ?k3 ?k4 ?k5 ?_)
    case k0 => simp [intsC]
    case k1 =>
      intro j u hj
      obtain ⟨b, o, hA, hc⟩ := HPc.out j u hj
      cases hA
      rw [WideShapes.add_plain]
      exact hc
    case k2 =>
      intro u hu
      obtain ⟨x, _, rfl⟩ := List.mem_map.1 hu
      rfl
    case k3 => unfold maxLen; omega
    case k4 => omega
    case k5 => simp; omega
    intro v' V hown' hgrow' _
    have HBV := Lib.hid (HB1.out.grown hgrow' (by simp; omega) (fun j hj => by cases hj; exact hszV))
    have hown2 : V.ownsRow w.heap.size 3 1 v' p.length (intsC p) := by
      have := hown'
      first | exact this | rwa [Nat.zero_add, List.nil_append] at this
    obtain ⟨Qv, cqv, rfl, _⟩ := La.own_slice hown2
    have OV := Lib.hid hown2
    clear hown' hgrow' hown2 HB1 E0 HPv1 HPc
    go_wp2_with fail
    have HV := Lib.hid (fun (W' : World) (hb : Below V.heap.size V W') => HBV.out.trans (hb.mono HBV.out.size))
    go_loopw [10, 11] (fun v i wr => ∃ (k : Nat) (q : List Int) (Q : Option Addr) (cq : Nat), k ≤ l.length ∧ i = .int .i64 k ∧ v = .slice Q q.length cq ∧ wr.ownsRow w.heap.size 3 1 (.slice Q q.length cq) q.length (intsC q) ∧ RF p l 0 = RF q (l.drop k) k ∧ Below W.heap.size W wr) (fun _ i _ => l.length - (intOf i).toNat)
    case atStart => exact ⟨0, p, _, _, by omega, rfl, rfl, OV.out, by rw [List.drop_zero], HBV.out⟩
    case round =>
      obtain ⟨k, q, Q, cq, hk, rfl, rfl, ho, hr, hb⟩ := hrel
      have HO := Lib.hid ho
      have HRr := Lib.hid hr
      have HB := Lib.hid hb
      clear ho hr hb
      obtain ⟨z0, z1, z2⟩ := HC.out _ HB.out
      by_cases hlt : k < l.length
      case neg =>
        obtain rfl : k = l.length := by omega
        have hR : R = (q, l.length, 0) := by rw [HRn.out, HRr.out, HEN.out]
        have D := Lib.hid (B0.out.trans (HB.out.mono B0.out.size))
        clear HRn HRr
        go_wp2
        go_ret3
        subst hR
        exact ⟨_, rfl, HO.out, D.out⟩
      obtain ⟨x, hx⟩ : ∃ x, l[k]? = some x := ⟨l[k], List.getElem?_eq_getElem hlt⟩
      have HBw := Lib.hid (B0.out.trans (HB.out.mono B0.out.size))
      obtain ⟨g, o, hG, hbl, c0, c1, c2⟩ := atSt (HLs.out _ HBw.out) hx
      subst hG
      have k0 : (0 : Int) ≤ (k : Int) := by omega
      have k1 : (k : Int) < (l.length : Int) := by omega
      have HA := Lib.hid (HAT.out q k x hx)
      have HXs := Lib.hid (fun (W' : World) (hb : Below w.heap.size w W') => (by
        obtain ⟨g', o', hG', _, d0, d1, d2⟩ := atSt (HLs.out _ hb) hx
        cases hG'
        exact ⟨d0, d1, d2⟩ : W'.cell? ⟨g, o + k * 3, none⟩ = some (.int .i64 x.1) ∧ W'.cell? ⟨g, o + k * 3 + 1, none⟩ = some (.int .i64 x.2.1) ∧ W'.cell? ⟨g, o + k * 3 + 2, none⟩ = some (.int .i64 x.2.2)))
      have hsf := HSF.out q x
      clear hx
      go_upto_region 8 with fail
      have HD : Hid (Below W.heap.size W wr.drew) := Lib.hid HB.out.drew
      have HXw := Lib.hid (fun (W' : World) (hb : Below W.heap.size W W') => HXs.out W' (B0.out.trans (hb.mono B0.out.size)))
      have KS1 := Lib.hid (fun (W' : World) (hb : Below wr.heap.size wr W') => HST.out W' (HBw.out.trans (hb.mono HBw.out.size)) Q cq q (IntsAt.below (IntsAt.own HO.out) hb) x)
      generalize SF q x = T at KS1 HA hsf
      obtain ⟨q', c', e'⟩ := T
      dsimp only at KS1 HA hsf
      clear c0 c1 c2 z0 z1 z2
      obtain ⟨c0, c1, c2⟩ := HXw.out _ HD.out
      obtain ⟨z0, z1, z2⟩ := HC.out _ HD.out
      go_cut [12, 14] (fun a b wc => ∃ Q5 cq5, a = .slice Q5 q'.length cq5 ∧ b = .int .i64 e' ∧ wc.ownsRow w.heap.size 3 1 (.slice Q5 q'.length cq5) q'.length (intsC q') ∧ Below W.heap.size W wc)
      case first =>
        have HR0 : Hid (Below wr.heap.size wr wr.drew) := Lib.hid ((Below.refl _ wr).drew)
        have HR1 : Hid (Below wr.heap.size wr (wr.alloc (.cells (clC z4) 47)).drew) := Lib.hid ((below1 wr _).drew)
        have HDB : Hid (Below W.heap.size W (wr.alloc (.cells (clC z4) 47)).drew) := Lib.hid (HB.out.trans (HR1.out.mono HB.out.size))
        have QB : Hid (Blk (wr.alloc (.cells (clC z4) 47)).drew wr.heap.size (clC z4) 47) := Lib.hid (Blk.drew (Blk.new wr _ _))
        have hle9 := HB.out.size
        have SD := And.intro (HC.out _ HD.out) (HXw.out _ HD.out)
        have SB := And.intro (HC.out _ HDB.out) (HXw.out _ HDB.out)
        go_region_held3 (fun w' => (w'.cell? ⟨w.heap.size, 0, none⟩ = some (.slice A ns.length ca) ∧ w'.cell? ⟨w.heap.size, 1, none⟩ = some (.slice B ps.length cb) ∧ w'.cell? ⟨w.heap.size, 2, none⟩ = some (.slice C os.length cc)) ∧ w'.cell? ⟨g, o + k * 3, none⟩ = some (.int .i64 x.1) ∧ w'.cell? ⟨g, o + k * 3 + 1, none⟩ = some (.int .i64 x.2.1) ∧ w'.cell? ⟨g, o + k * 3 + 2, none⟩ = some (.int .i64 x.2.2))
          (first | (with_reducible exact SD) | (with_reducible exact SB) | (with_reducible exact SA) | (with_reducible exact SZ) | (with_reducible exact SC) | exact SD | exact SB | exact SA | exact SZ | exact SC)
          (first
            | (go_at_call 36
               with_reducible refine (KS1.out _ HR0.out).mono ?_
               rintro e wA ⟨v5, rfl, ho5, hbA⟩
               obtain ⟨Q5, cq5, rfl, _⟩ := La.own_slice ho5
               have HDA := Lib.hid (HD.out.trans (hbA.mono HD.out.size))
               have HO5 := Lib.hid (own_base ho5 (B0.out.trans (HD.out.mono B0.out.size)).size)
               have HDZ := Lib.hid (HDA.out.alloc HDA.out.size (.cells (clC z4) 47))
               have HDC := Lib.hid (HDA.out.alloc HDA.out.size (.cells (clC c') 47))
               have OC := Lib.hid (HO5.out.alloc (.cells (clC c') 47))
               have SA := And.intro (HC.out _ HDA.out) (HXw.out _ HDA.out)
               have SZ := And.intro (HC.out _ HDZ.out) (HXw.out _ HDZ.out)
               have SC := And.intro (HC.out _ HDC.out) (HXw.out _ HDC.out)
               have SA2 := SA
               obtain ⟨⟨y0, y1, y2⟩, d0, d1, d2⟩ := SA2
               clear ho5 hbA)
            | (go_at_call 36
               refine (KS1.out _ HR1.out).mono ?_
               rintro e wA ⟨v5, rfl, ho5, hbA⟩
               obtain ⟨Q5, cq5, rfl, _⟩ := La.own_slice ho5
               have HDA := Lib.hid (HDB.out.trans (hbA.mono HDB.out.size))
               have HO5 := Lib.hid (own_base ho5 (B0.out.trans (HDB.out.mono B0.out.size)).size)
               have QA := Lib.hid (QB.out.below hbA QB.out.lt)
               have HDC := Lib.hid (below4 HDA.out hle9 c')
               have OC := Lib.hid (own4 HO5.out QA.out c')
               have SA := And.intro (HC.out _ HDA.out) (HXw.out _ HDA.out)
               have SC := And.intro (HC.out _ HDC.out) (HXw.out _ HDC.out)
               have SA2 := SA
               obtain ⟨⟨y0, y1, y2⟩, d0, d1, d2⟩ := SA2
               obtain ⟨⟨q0, q1, q2, q3⟩, g0, g1, g2, g3⟩ := cells_of4 QA.out
               clear ho5 hbA))
        all_goals
          (try go_wp2_with fail)
          go_meet
          exact ⟨_, _, rfl, rfl, OC.out, HDC.out⟩
      case' rest => obtain ⟨Q5, cq5, rfl, rfl, ho5, hb5⟩ := hcut
      have HO5 := Lib.hid ho5
      have HB5 := Lib.hid hb5
      clear ho5 hb5 HO HB HBw KS1 HD c0 c1 c2 z0 z1 z2
      by_cases hx0 : e' = 0
      case neg =>
        have hne : (e' != 0) = true := by simpa using hx0
        have hR : R = ([], k, e') := by rw [HRn.out, HRr.out, HA.out, if_neg hx0]
        have D := Lib.hid (B0.out.trans (HB5.out.mono B0.out.size))
        clear HRn HRr HA hx0
        go_wp2
        go_ret3
        subst hR
        exact ⟨_, rfl, World.ownsRow_nil _ _ _ _, D.out⟩
      have HA2 := HA.out
      rw [if_pos hx0] at HA2
      have HA3 := Lib.hid HA2
      subst hx0
      clear HA HA2
      go_wp2_with fail
      go_roundw
      case rel => exact ⟨k + 1, q', _, _, by omega, by go_num, rfl, HO5.out, by rw [HRr.out, HA3.out], HB5.out⟩
      case measure => simp [intOf]; omega

end Go.Proofs.YtpdaohkpgconkaaGreat

namespace Go.Proofs.YtpdaohkpgconkaaGreat
section
open Go.ChangeShapes Go.WideShapes Go.ChangeAt Go.RowKit Go.Deep
set_option maxRecDepth 100000 in
theorem open_stepsC {H : Type} {enc : TypeId × Value → H} {W : World} {r : Reach} {b0 : Nat} {held : Bool} {v : Value} {d : DataW H} {p : List MemPlace}
    (hv : Value.okWide Tryz.prog W r b0 74 v) (h : DataW.Trod enc Tryz.prog W 0 (fun _ => true) held 74 v d p) :
    ∃ A c l, v = .slice A (List.length l) c ∧ La.SlAt W A (cells3 l) ∧ l.length ≤ c ∧ c ≤ 9223372036854775807 := by
  obtain ⟨a0, len, cap, rfl⟩ := okWide_slice Tryz.underlying74 hv
  obtain ⟨fuel, hf⟩ := h
  have hf' : DataW.trod enc Tryz.prog W 0 (fun _ => true) held fuel 74 [.slice a0 len cap] = some _ := hf
  obtain ⟨A, c, l, e, hs, h1, h2, _⟩ := slice_cells (T := S3T) (fun y => [.int .i64 y.1, .int .i64 y.2.1, .int .i64 y.2.2]) 3 (fun _ => True) Tryz.underlying74 kcStep (by omega) (fun _ => rfl) (fun n cs x h => by
    obtain ⟨y, e⟩ := step_row n cs x h
    exact ⟨y, e, trivial⟩) hf'
  simp only [List.cons.injEq, and_true] at e
  exact ⟨A, c, l, e, hs, h1, kmax h2⟩
end
open Go.RowKit Go.Maps
theorem slat_take3 {w : World} {A : Option Addr} {l : List S3T} (h : La.SlAt w A (cells3 l)) (n : Nat) : La.SlAt w A (cells3 (l.take n)) := by
  intro k v hk
  apply h k v
  have e : cells3 l = cells3 (l.take n) ++ cells3 (l.drop n) := by
    unfold cells3
    rw [← List.flatMap_append, List.take_append_drop]
  rw [e, List.getElem?_append_left (List.getElem?_eq_some_iff.1 hk).1]
  exact hk
theorem own_at {w : World} {base : Nat} {e : TypeId} {size n n' c' : Nat} {A : Option Addr} {xs : List Value} (h : w.ownsRow base e size (.slice A n' c') n xs) : ∀ a, A = some a → ∃ b o, a = ⟨b, o, none⟩ := by
  intro a ha
  rcases h.2 with ⟨hv, _⟩ | ⟨g, cap, cur, hv, _⟩
  · simp only [Value.slice.injEq] at hv
    rw [hv.1] at ha
    cases ha
  · simp only [Value.slice.injEq] at hv
    rw [hv.1] at ha
    cases ha
    exact ⟨g, 0, rfl⟩

set_option maxRecDepth 100000 in
set_option maxHeartbeats 16000000 in
theorem admitRuns_law (A B C : Option Addr) (ca cb cc : Nat) (ns : List NodeD) (ps : List PodD) (os : List OwnD) (P L : Option Addr) (cp cl : Nat) (p : List Int) (l : List S3T) (w : World) (h : SnapIn w A B C ca cb cc ns ps os) (hp : NumsIn w P cp p) (hL : La.SlAt w L (cells3 l)) (hcl : l.length ≤ cl) (_hcm : cl ≤ 9223372036854775807) :
    Calls Tryz.prog 8 #[snapV A B C ca cb cc ns ps os, .slice P p.length cp, .slice L l.length cl] w fun e w' => e = .returned (.bool true) ∧ Below w.heap.size w w' := by
  have HP9 := Lib.hid hp
  have HL9 := Lib.hid (slat_take3 hL 12)
  have hl12 : (l.take 12).length ≤ 12 := List.length_take_le _ _
  have hm0 : (0 : Int) ≤ min (l.length : Int) 12 := by omega
  have hm1 : min (l.length : Int) 12 ≤ (cl : Int) := by omega
  have hm2 : Hid ((min (l.length : Int) 12).toNat = (l.take 12).length) := Lib.hid (by simp; omega)
  clear hp hL
  have B0 : Hid (Below w.heap.size w (w.alloc (.cells (snapC A B C ca cb cc ns ps os) 26))) := Lib.hid (below1 w _)
  have S0 : Hid (Blk (w.alloc (.cells (snapC A B C ca cb cc ns ps os) 26)) w.heap.size (snapC A B C ca cb cc ns ps os) 26) := Lib.hid (Blk.new w _ _)
  have H := Lib.hid (h.take)
  have KW := Lib.hid works10_any
  have HIN := Lib.hid h
  have hn12 : (ns.take 12).length ≤ 12 := List.length_take_le _ _
  have hp30 : (ps.take 30).length ≤ 30 := List.length_take_le _ _
  have ho12 : (os.take 12).length ≤ 12 := List.length_take_le _ _
  have KC := Lib.hid (fun W' (hb : Below w.heap.size w W') => cut10_any A B C ca cb cc ns ps os W' (HIN.out.below8 hb))
  generalize ns.take 12 = n1 at H KC hn12
  generalize ps.take 30 = p1 at H KC hp30
  generalize os.take 12 = o1 at H KC ho12
  generalize l.take 12 = l1 at HL9 hl12 hm2
  clear h HIN
  go_enter Tryz.func8, Tryz.ntmps8
  go_upto_region 1 with fail
  try change Code.wp _ _ _ _ (w.alloc (.cells (snapC A B C ca cb cc ns ps os) 26))
  generalize (w.alloc (.cells (snapC A B C ca cb cc ns ps os) 26)) = W0 at B0 S0 ⊢
  have z0 : W0.drew.cell? ⟨w.heap.size, 0, none⟩ = some (.slice A ns.length ca) := Blk.cell S0.out 0
  have z1 : W0.drew.cell? ⟨w.heap.size, 1, none⟩ = some (.slice B ps.length cb) := Blk.cell S0.out 1
  have z2 : W0.drew.cell? ⟨w.heap.size, 2, none⟩ = some (.slice C os.length cc) := Blk.cell S0.out 2
  have D0 : Hid (Below w.heap.size w W0.drew) := Lib.hid B0.out.drew
  go_cut [2] (fun u wc => u = .slice L l1.length cl ∧ Blk wc w.heap.size (snapC A B C ca cb cc n1 p1 o1) 26 ∧ Below w.heap.size w wc)
  case first =>
    try simp only [List.append]
    refine wp_region_held_drew (S := (fun _ => True)) (by kernel_rfl) trivial (fun hHeld => ?_)
    refine wpAnyH_take (i := 2) (oi := ⟨some 19, .move (.tmp 2), 74, "law.go:34", #[], none⟩) (v := ?_) rfl (by kernel_rfl) (by kernel_rfl) (by kernel_rfl) (fun _ _ _ h => h) (Or.inl ⟨by rfl, ?_⟩) (by assumption) ?_
    rotate_left 1
    · (intro w hSw; (try dsimp only at hSw); go_simp; try with_reducible rfl)
    try simp only [Act.put, List.setIfInBounds_toArray, List.set_cons_zero, List.set_cons_succ]
    refine wpAnyH_take (i := 3) (oi := ⟨some 20, .move (.tmp 2), 74, "law.go:34", #[], none⟩) (v := ?_) rfl (by kernel_rfl) (by kernel_rfl) (by kernel_rfl) (fun _ _ _ h => h) (Or.inl ⟨by rfl, ?_⟩) (by assumption) ?_
    rotate_left 1
    · (intro w hSw; (try dsimp only at hSw); go_simp; try with_reducible rfl)
    try simp only [Act.put, List.setIfInBounds_toArray, List.set_cons_zero, List.set_cons_succ]
    refine wpAnyH_take (i := 4) (oi := ⟨some 21, .call { callee := .builtin .len, args := #[.tmp 20], argTypes := #[74] }, 3, "law.go:34", #[⟨3, .data⟩], none⟩) (v := ?_) rfl (by kernel_rfl) (by kernel_rfl) (by kernel_rfl) (fun _ _ _ h => h) (Or.inl ⟨by rfl, ?_⟩) (by assumption) ?_
    rotate_left 1
    · (intro w hSw; (try dsimp only at hSw); go_simp; try with_reducible rfl)
    try simp only [Act.put, List.setIfInBounds_toArray, List.set_cons_zero, List.set_cons_succ]
    refine wpAnyH_take (i := 5) (oi := ⟨some 22, .call { callee := .builtin .min, args := #[.tmp 21, .const (.int .i64 12)], argTypes := #[3, 3] }, 3, "law.go:34", #[⟨4, .data⟩], none⟩) (v := ?_) rfl (by kernel_rfl) (by kernel_rfl) (by kernel_rfl) (fun _ _ _ h => h) (Or.inl ⟨by rfl, ?_⟩) (by assumption) ?_
    rotate_left 1
    · (intro w hSw; (try dsimp only at hSw); go_simp; try with_reducible rfl)
    try simp only [Act.put, List.setIfInBounds_toArray, List.set_cons_zero, List.set_cons_succ]
    refine wpAnyH_take (i := 6) (oi := ⟨some 23, .slice 74 (.tmp 19) none (some (.tmp 22)) none, 74, "law.go:34", #[⟨2, .data⟩, ⟨5, .data⟩], none⟩) (v := ?_) rfl (by kernel_rfl) (by kernel_rfl) (by kernel_rfl) (fun _ _ _ h => h) (Or.inl ⟨by rfl, ?_⟩) (by assumption) ?_
    rotate_left 1
    · (intro w hSw; (try dsimp only at hSw); go_simp; try with_reducible rfl)
    try simp only [Act.put, List.setIfInBounds_toArray, List.set_cons_zero, List.set_cons_succ]
    refine wpAnyH_ready (rs := [0]) (by kernel_rfl) (by simp) ?_
    refine AllReadyH.cons (o := ⟨some 17, .load 26 (.tmp 3), 26, "law.go:34", #[], none⟩) rfl (fun K hK => ?_) AllReadyH.nil
    go_simp
    refine hK.out _ _ trivial (fun hHeld => ?_)
    clear hK K
    try simp only [Act.put, List.setIfInBounds_toArray, List.set_cons_zero, List.set_cons_succ]
    refine wpAnyH_ready (rs := [1]) (by kernel_rfl) (by simp) ?_
    refine AllReadyH.cons (o := ⟨some 18, .call { callee := .value (.func 34), args := #[.tmp 17], argTypes := #[26] }, 26, "law.go:34", #[⟨0, .data⟩], none⟩) rfl (fun K hK => ?_) AllReadyH.nil
    go_simp
    go_at_call 34
    with_reducible refine (KC.out _ D0.out).mono ?_
    rintro e w2 ⟨rfl, hb2⟩
    have S2 : Hid (Blk w2 w.heap.size (snapC A B C ca cb cc ns ps os) 26) := Lib.hid (S0.out.drew.below hb2 S0.out.drew.lt)
    have B2 : Hid (Below w.heap.size w w2) := Lib.hid (D0.out.trans (hb2.mono D0.out.size))
    have r0 : w2.cell? ⟨w.heap.size, 0, none⟩ = some (.slice A ns.length ca) := Blk.cell S2.out 0
    have r1 : w2.cell? ⟨w.heap.size, 1, none⟩ = some (.slice B ps.length cb) := Blk.cell S2.out 1
    have r2 : w2.cell? ⟨w.heap.size, 2, none⟩ = some (.slice C os.length cc) := Blk.cell S2.out 2
    have f0 := Blk.free S2.out 0
    have f1 := Blk.free S2.out 1
    have f2 := Blk.free S2.out 2
    clear hb2
    refine hK.out _ _ trivial (fun hHeld => ?_)
    clear hK K
    try simp only [Act.put, List.setIfInBounds_toArray, List.set_cons_zero, List.set_cons_succ]
    refine wpAnyH_ready (rs := [7]) (by kernel_rfl) (by simp) ?_
    refine AllReadyH.cons (o := ⟨none, .store 26 (.tmp 3) (.tmp 18), 0, "law.go:34", #[⟨1, .data⟩, ⟨1, .chain⟩, ⟨0, .phase⟩, ⟨1, .phase⟩, ⟨2, .textOnly .lateStores⟩, ⟨3, .textOnly .lateStores⟩, ⟨4, .textOnly .lateStoresUnsure⟩, ⟨5, .textOnly .lateStoresUnsure⟩, ⟨6, .textOnly .lateStoresUnsure⟩], none⟩) rfl (fun K hK => ?_) AllReadyH.nil
    go_simp
    refine hK.out _ _ trivial (fun hHeld => ?_)
    clear hK K
    try simp only [Act.put, List.setIfInBounds_toArray, List.set_cons_zero, List.set_cons_succ]
    refine wpAnyH_take (i := 8) (oi := ⟨some 2, .assign (.tmp 23), 74, "law.go:34", #[⟨6, .data⟩, ⟨7, .chain⟩, ⟨0, .phase⟩, ⟨1, .phase⟩, ⟨2, .phase⟩, ⟨3, .phase⟩, ⟨4, .phase⟩, ⟨5, .phase⟩, ⟨6, .phase⟩, ⟨7, .phase⟩], none⟩) (v := ?_) rfl (by kernel_rfl) (by kernel_rfl) (by kernel_rfl) (fun _ _ _ h => h) (Or.inl ⟨by rfl, ?_⟩) (by assumption) ?_
    rotate_left 1
    · (intro w hSw; (try dsimp only at hSw); go_simp; try with_reducible rfl)
    try simp only [Act.put, List.setIfInBounds_toArray, List.set_cons_zero, List.set_cons_succ]
    refine wpAnyH_done (by kernel_rfl) ?_ _
    have S3 : Hid (Blk (((w2.setCell ⟨w.heap.size, 0, none⟩ (.slice A n1.length ca)).setCell ⟨w.heap.size, 1, none⟩ (.slice B p1.length cb)).setCell ⟨w.heap.size, 2, none⟩ (.slice C o1.length cc)) w.heap.size (snapC A B C ca cb cc n1 p1 o1) 26) := Lib.hid (((S2.out.set 0 _).set 1 _).set 2 _)
    have B3 : Hid (Below w.heap.size w (((w2.setCell ⟨w.heap.size, 0, none⟩ (.slice A n1.length ca)).setCell ⟨w.heap.size, 1, none⟩ (.slice B p1.length cb)).setCell ⟨w.heap.size, 2, none⟩ (.slice C o1.length cc))) := Lib.hid (((B2.out.setCell (p := ⟨w.heap.size, 0, none⟩) (Nat.le_refl _) _).setCell (p := ⟨w.heap.size, 1, none⟩) (Nat.le_refl _) _).setCell (p := ⟨w.heap.size, 2, none⟩) (Nat.le_refl _) _)
    (try go_wp2_with fail)
    (try go_wp2_with fail)
    try rw [hm2.out]
    go_meet
    exact ⟨rfl, S3.out, B3.out⟩
  case' rest => obtain ⟨rfl, s3, b3⟩ := hcut
  obtain ⟨W, hV⟩ : ∃ W, W = wc := ⟨_, rfl⟩
  subst hV
  have S3 := Lib.hid s3
  have B3 := Lib.hid b3
  clear s3 b3 S0 B0 D0 z0 z1 z2 KC hm0 hm1 hm2
  have HW := Lib.hid (fun W' (hb : Below W.heap.size W W') => (show W'.cell? ⟨w.heap.size, 0, none⟩ = some (.slice A n1.length ca) ∧ W'.cell? ⟨w.heap.size, 1, none⟩ = some (.slice B p1.length cb) ∧ W'.cell? ⟨w.heap.size, 2, none⟩ = some (.slice C o1.length cc) from ⟨Blk.cell (S3.out.below hb S3.out.lt) 0, Blk.cell (S3.out.below hb S3.out.lt) 1, Blk.cell (S3.out.below hb S3.out.lt) 2⟩))
  have HT := Lib.hid (fun W' (hb : Below W.heap.size W W') => B3.out.trans (hb.mono B3.out.size))
  have HS := Lib.hid (fun W' (hb : Below W.heap.size W W') => H.out.below (HT.out W' hb))
  have HPW := Lib.hid (HP9.out.below B3.out)
  have HLW := Lib.hid (HL9.out.below B3.out)
  have K1 := Lib.hid (copyInts_any P cp p W HPW.out)
  clear H B3 S3 HP9 HL9
  go_wp2_with fail
  refine (K1.out).mono ?_
  rintro e V ⟨vx, rfl, hox, hb0⟩
  obtain ⟨I, ci, rfl, _⟩ := La.own_slice hox
  have HB0 := Lib.hid hb0
  have HFP := Lib.hid HPW.out.few
  have HIa := Lib.hid (own_at hox)
  have HI := Lib.hid (fun W' (hb' : Below V.heap.size V W') => (IntsAt.own hox).below hb')
  have HPN := Lib.hid (fun W' (hb' : Below V.heap.size V W') => (HPW.out.below hb0).below hb')
  have HL := Lib.hid (fun W' (hb' : Below V.heap.size V W') => La.SlAt.below (La.SlAt.below HLW.out hb0) hb')
  have HZ := Lib.hid (fun W' (hb : Below V.heap.size V W') => HW.out W' (HB0.out.trans (hb.mono HB0.out.size)))
  have HTV := Lib.hid (fun W' (hb : Below V.heap.size V W') => HT.out W' (HB0.out.trans (hb.mono HB0.out.size)))
  have HSV := Lib.hid (fun W' (hb : Below V.heap.size V W') => HS.out W' (HB0.out.trans (hb.mono HB0.out.size)))
  clear hox hb0 K1 HPW HB0 HW HT HS HLW
  have hfew : ∀ p', (all8 n1 p1 o1 p').length ≤ 1000 := fun p' => all8_few hn12 hp30 ho12
  have k1 := Lib.hid (fun W' (hb : Below V.heap.size V W') => run_anyA A B C I L ca cb cc ci cl n1 p1 o1 p l1 (by omega) W' (HSV.out W' hb) HIa.out (HI.out W' hb) (HL.out W' hb))
  have k2 := Lib.hid (fun W' (hb : Below V.heap.size V W') => run10_any A B C P L ca cb cc cp cl n1 p1 o1 p l1 (by omega) hfew W' (HSV.out W' hb) (HPN.out W' hb) (HL.out W' hb))
  have k3 := Lib.hid (fun W' (hb : Below V.heap.size V W') (pd : Int) => ways_anyA A B C I ca cb cc ci n1 p1 o1 p pd W' (HSV.out W' hb) (HI.out W' hb))
  have k4 := Lib.hid (fun W' (hb : Below V.heap.size V W') (pd : Int) => ways10_any A B C P ca cb cc cp n1 p1 o1 p pd hfew W' (HSV.out W' hb) (HPN.out W' hb).ints)
  generalize runR n1 p1 o1 p l1 = T at k1 k2
  obtain ⟨q, n, x⟩ := T
  simp only [RunNo] at k1 k2
  have hee : (x == x) = true := by simp
  have hed : decide (x = x) = true := by simp
  have hnn : ((n : Int) == (n : Int)) = true := by simp
  have hnd : decide ((n : Int) = (n : Int)) = true := by simp
  have HB := Lib.hid (Below.refl V.heap.size V)
  clear hn12 hp30 ho12 hfew
  obtain ⟨z0, z1, z2⟩ := HZ.out _ HB.out
  go_wp2_with fail
  refine (k1.out _ HB.out).mono ?_
  rintro e V1 ⟨va, rfl, hoa, hb⟩
  obtain ⟨Ga, ca2, rfl, _⟩ := La.own_slice hoa
  have B1 := Lib.hid (HB.out.trans (hb.mono HB.out.size))
  have O1 := Lib.hid hoa
  clear hb hoa z0 z1 z2 k1 HB
  obtain ⟨z0, z1, z2⟩ := HZ.out _ B1.out
  go_wp2_with fail
  refine (k2.out _ B1.out).mono ?_
  rintro e V4 ⟨vb, rfl, hob, hb⟩
  obtain ⟨Gb, cb2, rfl, _⟩ := La.own_slice hob
  have B4 := Lib.hid (B1.out.trans (hb.mono B1.out.size))
  have O4 := Lib.hid (La.own_below O1.out hb)
  have Q4 := Lib.hid (IntsAt.own hob)
  clear hb hob z0 z1 z2 k2 B1 O1
  have hql := Nat.le_trans Q4.out.le Q4.out.most
  have KE := Lib.hid (eqSame9 Ga Gb ca2 cb2 q V4 hql (IntsAt.own O4.out) Q4.out)
  clear Q4
  go_wp2_with fail
  refine (KE.out).mono ?_
  rintro e V5 ⟨rfl, hb⟩
  have B5 := Lib.hid (B4.out.trans (hb.mono B4.out.size))
  have O5 := Lib.hid (La.own_below O4.out hb)
  have KI := Lib.hid (fun W' (hb' : Below V.heap.size V W') => eqSame9 I P ci cp p W' (by have := HFP.out; omega) (HI.out _ hb') (HPN.out _ hb').ints)
  clear hb KE B4 O4
  go_wp2_with fail
  refine (KI.out _ B5.out).mono ?_
  rintro e V6 ⟨rfl, hb⟩
  have HB6 := Lib.hid (B5.out.trans (hb.mono B5.out.size))
  have O6 := Lib.hid (La.own_below O5.out hb)
  clear hb B5 O5 hnn hnd hee hed
  go_wp2_with fail
  go_loopw [14] (fun i wr => ∃ (m : Nat) (xs : List Int), m ≤ q.length ∧ xs.length = q.length ∧ i = .int .i64 m ∧ wr.ownsRow V.heap.size 3 1 (.slice Ga q.length ca2) q.length (intsC xs) ∧ Below V.heap.size V wr) (fun i _ => q.length - (intOf i).toNat)
  case atStart => exact ⟨0, q, by omega, rfl, rfl, O6.out, HB6.out⟩
  case round =>
    clear O6 HB6
    obtain ⟨m, xs, hm, hxs, rfl, ho1, hbw⟩ := hrel
    have U9 := Lib.hid hbw
    have HXs := Lib.hid hxs
    clear hbw hxs
    by_cases hml : m < q.length
    · obtain ⟨g, cap, hA1, hgb⟩ : ∃ g cap, (Value.slice Ga q.length ca2) = .slice (some ⟨g, 0, none⟩) q.length cap ∧ V.heap.size ≤ g := by
        rcases ho1.2 with ⟨_, h⟩ | ⟨g, cap, cur, hv, hb, _⟩
        · omega
        · exact ⟨g, cap, hv, hb⟩
      simp only [Value.slice.injEq] at hA1
      obtain ⟨rfl, _, rfl⟩ := hA1
      obtain ⟨y, hy⟩ : ∃ y, xs[m]? = some y := ⟨xs[m]'(by have := HXs.out; omega), List.getElem?_eq_getElem _⟩
      obtain ⟨b3, o3, hA3, hbl3, hcur⟩ := atI (La.own_slat ho1) hy
      cases hA3
      rw [Nat.zero_add] at hcur
      have hfr := own_free ho1 m
      have m0 : (0 : Int) ≤ (m : Int) := by omega
      have m1 : (m : Int) < (q.length : Int) := by omega
      have O10 := Lib.hid (by
        have q := own_put ho1 m (.int .i64 77)
        rwa [ints_set] at q)
      have U10 := Lib.hid (U9.out.setCell (p := ⟨g, m, none⟩) hgb (.int .i64 77))
      clear ho1 hy
      go_wp2_with fail
      go_roundw
      case rel => exact ⟨m + 1, xs.set m 77, by omega, by rw [List.length_set]; exact HXs.out, by go_num, O10.out, U10.out⟩
      case measure => simp [intOf]; omega
    · obtain rfl : m = q.length := by omega
      clear ho1
      go_wp2_with fail
      go_loopw [15] (fun i wr => ∃ d : Int, -1 ≤ d ∧ d ≤ 4 ∧ i = .int .i64 d ∧ Below V.heap.size V wr) (fun i _ => (4 - intOf i).toNat)
      case atStart => exact ⟨-1, by omega, by omega, rfl, U9.out⟩
      case round =>
        clear U9
        obtain ⟨d, hd0, hd1, rfl, hbw⟩ := hrel
        have HB := Lib.hid hbw
        clear hbw
        obtain ⟨z0, z1, z2⟩ := HZ.out _ HB.out
        by_cases hd : d < 4
        · by_cases h3 : d = 3
          · by_cases hl0 : 0 < l1.length
            · obtain ⟨s, hs⟩ : ∃ s, l1[0]? = some s := ⟨l1[0], List.getElem?_eq_getElem hl0⟩
              obtain ⟨tb, tf, hA, hbl, t0, t1, t2⟩ := atSt (HL.out _ HB.out) hs
              subst hA
              have j0 : (0 : Int) < (l1.length : Int) := by omega
              have j1 : decide (0 < l1.length) = true := decide_eq_true hl0
              simp only [Nat.zero_mul, Nat.add_zero] at t0 t1 t2
              have k3 := Lib.hid (fun W' hb => k3.out W' hb s.2.1)
              have k4 := Lib.hid (fun W' hb => k4.out W' hb s.2.1)
              clear hs hbl hl0
              subst h3
              generalize waysU n1 p1 o1 p s.2.1 n1.length = Wl at k3 k4
              go_upto_region 17 with fail
              have D0 : Hid (Below V.heap.size V wr.drew) := Lib.hid HB.out.drew
              have h0 := HZ.out _ D0.out
              go_cut [96] (fun u wc => u = .bool false ∧ Below V.heap.size V wc)
              case first =>
                go_region_held3 (fun w' => w'.cell? ⟨w.heap.size, 0, none⟩ = some (.slice A n1.length ca) ∧ w'.cell? ⟨w.heap.size, 1, none⟩ = some (.slice B p1.length cb) ∧ w'.cell? ⟨w.heap.size, 2, none⟩ = some (.slice C o1.length cc))
                  (first | (with_reducible exact h0) | (with_reducible exact h1) | (with_reducible exact h2) | (with_reducible exact h3))
                  (first
                    | (go_at_call 42; (with_reducible refine (k3.out _ D0.out).mono ?_); rintro e wA ⟨v1, rfl, ho1, hbA⟩; obtain ⟨G1, c1, rfl, _⟩ := La.own_slice ho1; have D1 := Lib.hid (D0.out.trans (hbA.mono D0.out.size)); have I1 := Lib.hid (IntsAt.own ho1); have h1 := HZ.out _ D1.out; clear hbA ho1)
                    | (go_at_call 43; (with_reducible refine (k4.out _ D1.out).mono ?_); rintro e wB ⟨v2, rfl, ho2, hbA⟩; obtain ⟨G2, c2, rfl, _⟩ := La.own_slice ho2; have D2 := Lib.hid (D1.out.trans (hbA.mono D1.out.size)); have I2 := Lib.hid (IntsAt.own ho2); have KEE := Lib.hid (eqSame9 G1 G2 c1 c2 Wl wB (Nat.le_trans I2.out.le I2.out.most) (I1.out.below hbA) I2.out); have h2 := HZ.out _ D2.out; clear hbA ho2)
                    | (go_at_call 28; (with_reducible refine (KEE.out).mono ?_); rintro e wC ⟨rfl, hbA⟩; have D3 := Lib.hid (D2.out.trans (hbA.mono D2.out.size)); have h3 := HZ.out _ D3.out; clear hbA))
                all_goals
                  (try go_wp2_with fail)
                  go_meet
                  exact ⟨rfl, D3.out⟩
              case' rest => obtain ⟨rfl, hcut⟩ := hcut
              have HB9 := Lib.hid hcut
              clear hcut
              go_wp2_with fail
              go_roundw
              case rel => exact ⟨4, by omega, by omega, by first | rfl | go_num, HB9.out⟩
              case measure => simp [intOf] <;> omega
            · have j0 : ¬ (0 : Int) < (l1.length : Int) := by omega
              have j1 : decide (0 < l1.length) = false := decide_eq_false hl0
              have k3 := Lib.hid (fun W' hb => k3.out W' hb 3)
              have k4 := Lib.hid (fun W' hb => k4.out W' hb 3)
              subst h3
              generalize waysU n1 p1 o1 p 3 n1.length = Wl at k3 k4
              go_upto_region 17 with fail
              have D0 : Hid (Below V.heap.size V wr.drew) := Lib.hid HB.out.drew
              have h0 := HZ.out _ D0.out
              go_cut [96] (fun u wc => u = .bool false ∧ Below V.heap.size V wc)
              case first =>
                go_region_held3 (fun w' => w'.cell? ⟨w.heap.size, 0, none⟩ = some (.slice A n1.length ca) ∧ w'.cell? ⟨w.heap.size, 1, none⟩ = some (.slice B p1.length cb) ∧ w'.cell? ⟨w.heap.size, 2, none⟩ = some (.slice C o1.length cc))
                  (first | (with_reducible exact h0) | (with_reducible exact h1) | (with_reducible exact h2) | (with_reducible exact h3))
                  (first
                    | (go_at_call 42; (with_reducible refine (k3.out _ D0.out).mono ?_); rintro e wA ⟨v1, rfl, ho1, hbA⟩; obtain ⟨G1, c1, rfl, _⟩ := La.own_slice ho1; have D1 := Lib.hid (D0.out.trans (hbA.mono D0.out.size)); have I1 := Lib.hid (IntsAt.own ho1); have h1 := HZ.out _ D1.out; clear hbA ho1)
                    | (go_at_call 43; (with_reducible refine (k4.out _ D1.out).mono ?_); rintro e wB ⟨v2, rfl, ho2, hbA⟩; obtain ⟨G2, c2, rfl, _⟩ := La.own_slice ho2; have D2 := Lib.hid (D1.out.trans (hbA.mono D1.out.size)); have I2 := Lib.hid (IntsAt.own ho2); have KEE := Lib.hid (eqSame9 G1 G2 c1 c2 Wl wB (Nat.le_trans I2.out.le I2.out.most) (I1.out.below hbA) I2.out); have h2 := HZ.out _ D2.out; clear hbA ho2)
                    | (go_at_call 28; (with_reducible refine (KEE.out).mono ?_); rintro e wC ⟨rfl, hbA⟩; have D3 := Lib.hid (D2.out.trans (hbA.mono D2.out.size)); have h3 := HZ.out _ D3.out; clear hbA))
                all_goals
                  (try go_wp2_with fail)
                  go_meet
                  exact ⟨rfl, D3.out⟩
              case' rest => obtain ⟨rfl, hcut⟩ := hcut
              have HB9 := Lib.hid hcut
              clear hcut
              go_wp2_with fail
              go_roundw
              case rel => exact ⟨4, by omega, by omega, by first | rfl | go_num, HB9.out⟩
              case measure => simp [intOf] <;> omega
          · have j0 : (d == 3) = false := by simpa using h3
            have j1 : decide (d = 3) = false := decide_eq_false h3
            have k3 := Lib.hid (fun W' hb => k3.out W' hb d)
            have k4 := Lib.hid (fun W' hb => k4.out W' hb d)
            generalize waysU n1 p1 o1 p d n1.length = Wl at k3 k4
            go_upto_region 17 with fail
            have D0 : Hid (Below V.heap.size V wr.drew) := Lib.hid HB.out.drew
            have h0 := HZ.out _ D0.out
            go_cut [96] (fun u wc => u = .bool false ∧ Below V.heap.size V wc)
            case first =>
              go_region_held3 (fun w' => w'.cell? ⟨w.heap.size, 0, none⟩ = some (.slice A n1.length ca) ∧ w'.cell? ⟨w.heap.size, 1, none⟩ = some (.slice B p1.length cb) ∧ w'.cell? ⟨w.heap.size, 2, none⟩ = some (.slice C o1.length cc))
                (first | (with_reducible exact h0) | (with_reducible exact h1) | (with_reducible exact h2) | (with_reducible exact h3))
                (first
                  | (go_at_call 42; (with_reducible refine (k3.out _ D0.out).mono ?_); rintro e wA ⟨v1, rfl, ho1, hbA⟩; obtain ⟨G1, c1, rfl, _⟩ := La.own_slice ho1; have D1 := Lib.hid (D0.out.trans (hbA.mono D0.out.size)); have I1 := Lib.hid (IntsAt.own ho1); have h1 := HZ.out _ D1.out; clear hbA ho1)
                  | (go_at_call 43; (with_reducible refine (k4.out _ D1.out).mono ?_); rintro e wB ⟨v2, rfl, ho2, hbA⟩; obtain ⟨G2, c2, rfl, _⟩ := La.own_slice ho2; have D2 := Lib.hid (D1.out.trans (hbA.mono D1.out.size)); have I2 := Lib.hid (IntsAt.own ho2); have KEE := Lib.hid (eqSame9 G1 G2 c1 c2 Wl wB (Nat.le_trans I2.out.le I2.out.most) (I1.out.below hbA) I2.out); have h2 := HZ.out _ D2.out; clear hbA ho2)
                  | (go_at_call 28; (with_reducible refine (KEE.out).mono ?_); rintro e wC ⟨rfl, hbA⟩; have D3 := Lib.hid (D2.out.trans (hbA.mono D2.out.size)); have h3 := HZ.out _ D3.out; clear hbA))
              all_goals
                (try go_wp2_with fail)
                go_meet
                exact ⟨rfl, D3.out⟩
            case' rest => obtain ⟨rfl, hcut⟩ := hcut
            have HB9 := Lib.hid hcut
            clear hcut
            go_wp2_with fail
            go_roundw
            case rel => exact ⟨d + 1, by omega, by omega, by first | rfl | go_num, HB9.out⟩
            case measure => simp [intOf] <;> omega
        · have j0 : ¬ d < 4 := hd
          have j1 : decide (d < 4) = false := decide_eq_false hd
          go_wp2_with fail
          refine (KI.out _ HB.out).mono ?_
          rintro e w10 ⟨rfl, hb10⟩
          have U11 := Lib.hid (HB.out.trans (hb10.mono HB.out.size))
          clear hb10
          go_wp2_with fail
          refine (KW.out _).mono ?_
          rintro e w11 ⟨rfl, hb10⟩
          have D := Lib.hid (HTV.out _ (U11.out.trans (hb10.mono U11.out.size)))
          clear hb10
          go_wp2
          go_ret
          exact ⟨rfl, D.out⟩
end Go.Proofs.YtpdaohkpgconkaaGreat
