/- All clauses of a placement, by the document's words: All. A contract. Condition: the cluster and the numbers lie in memory. All and Broken answer as the document says: the law's walk. Condition: the arguments lie in memory. What the document's Moves, SameMoves and Apply answer. Contracts. Condition: the arguments lie in memory. There and back, and along the moves: true. Condition: the arguments lie in memory. Apply and Moves answer as the document says: the law's walk. Condition: the arguments lie in memory. Numbers and steps as arguments, opened; how much they take. No conditions but the form's own. Of and Pod answer as the document says: the law's walk. Condition: the arguments lie in memory. An argument that is a clause, opened: four numbers. No conditions but the form's. A placement that may be, made out of numbers: the contract of fitted. Condition: the cluster and the numbers lie in memory. A placement in which all wait breaks none but ClauseMin; each owner's by its Min. In numbers only. A placement in which all wait breaks none but ClauseMin: the law's walk. Condition: the argument lies in memory. -/
import Derived.Test.YtfpbdfagcfdbbaaGreatC11
import Derived.Deep.RegionHeld3
import Derived.SizedLaws

namespace Go.Proofs.YtfpbdfagcfdbbaaGreat
open Go.RowKit

theorem cl4_cells (w : World) (a b c d : Int) : ∀ j u, ([.int .i64 a, .int .i64 b, .int .i64 c, .int .i64 d] : List Value)[j]? = some u → World.cell? (w.alloc (.cells #[.int .i64 a, .int .i64 b, .int .i64 c, .int .i64 d] 40)) ((⟨w.heap.size, 0, none⟩ : Addr).add j) = some u := by
  intro j u hj
  rw [WideShapes.add_plain, Nat.zero_add, ← hj, ← List.getElem?_toArray]
  exact Blk.cell (Blk.new w _ _) j
theorem cl4_one (a b c d : Int) : ∀ u ∈ ([.int .i64 a, .int .i64 b, .int .i64 c, .int .i64 d] : List Value), u.oneCell' = true := by
  intro u hu
  simp at hu
  rcases hu with rfl | rfl | rfl | rfl <;> rfl

set_option maxRecDepth 100000 in
set_option maxHeartbeats 8000000 in
theorem all8_any (A B C P : Option Addr) (ca cb cc cp : Nat) (ns : List NodeD) (ps : List PodD) (os : List OwnD) (p : List Int) (w : World) (h : SnapAt w A B C ca cb cc ns ps os) (hp : IntsAt w P cp p) :
    Calls Tryz.prog 15 #[snapV A B C ca cb cc ns ps os, .slice P p.length cp] w fun e w' => ∃ v, e = .returned (.tuple #[v, .int .i64 (placeE ns ps os p)]) ∧ w'.ownsRow w.heap.size 40 4 v (all8 ns ps os p).length (cells4 (all8 ns ps os p)) ∧ Below w.heap.size w w' := by
  have B0 : Hid (Below w.heap.size w (w.alloc (.cells (snapC A B C ca cb cc ns ps os) 26))) := Lib.hid (below1 w _)
  have S0 : Hid (Blk (w.alloc (.cells (snapC A B C ca cb cc ns ps os) 26)) w.heap.size (snapC A B C ca cb cc ns ps os) 26) := Lib.hid (Blk.new w _ _)
  have KC := Lib.hid (check7_any A B C P ca cb cc cp ns ps os p _ (h.below B0.out) (hp.below B0.out))
  obtain ⟨i0, hi0, hz0, hz1, hz2⟩ := info_parts cl_info
  by_cases hE : placeE ns ps os p = 0
  case neg =>
    have HE : Hid (all8 ns ps os p = []) := Lib.hid (by unfold all8; rw [if_neg hE])
    generalize placeE ns ps os p = er at KC hE ⊢
    have hne : (er != 0) = true := by simpa using hE
    have hnd : decide (er = 0) = false := decide_eq_false hE
    have hnb : (er == 0) = false := by simpa using hE
    clear h hp
    go_enter Tryz.func15, Tryz.ntmps15
    go_wp2_with fail
    refine (KC.out).mono ?_
    rintro e w1 ⟨rfl, hb⟩
    have B1 := Lib.hid (B0.out.trans (hb.mono B0.out.size))
    clear hb KC B0 S0
    go_wp2
    go_ret2
    rw [HE.out]
    exact ⟨_, rfl, World.ownsRow_nil _ _ _ _, B1.out⟩
  have HEE := Lib.hid hE
  have HPL := Lib.hid (placeE_len hE)
  have HA8 : Hid (all8 ns ps os p = capsU ns ps p ns.length ++ kindsU ns ps os p 5 ++ spreadsU ns ps os p os.length ++ minsU ns ps os p os.length) := Lib.hid (by unfold all8; rw [if_pos hE]; rfl)
  have hln := h.ln
  have hlp := h.lp
  have hlo := h.lo
  have hpl2 : p.length ≤ 1000 := by have := HPL.out; omega
  have H := Lib.hid (fun W' (hb : Below w.heap.size w W') => h.below hb)
  have HP := Lib.hid (fun W' (hb : Below w.heap.size w W') => hp.below hb)
  rw [hE] at KC ⊢
  clear h hp hE
  go_enter Tryz.func15, Tryz.ntmps15
  obtain ⟨W, hW⟩ : ∃ W, (w.alloc (.cells (snapC A B C ca cb cc ns ps os) 26)) = W := ⟨_, rfl⟩
  rw [hW] at B0 S0 KC
  have HZ := Lib.hid (fun W' (hb : Below W.heap.size W W') => (show W'.cell? ⟨w.heap.size, 0, none⟩ = some (.slice A ns.length ca) ∧ W'.cell? ⟨w.heap.size, 1, none⟩ = some (.slice B ps.length cb) ∧ W'.cell? ⟨w.heap.size, 2, none⟩ = some (.slice C os.length cc) from ⟨Blk.cell (S0.out.below hb S0.out.lt) 0, Blk.cell (S0.out.below hb S0.out.lt) 1, Blk.cell (S0.out.below hb S0.out.lt) 2⟩))
  obtain ⟨z0, z1, z2⟩ := HZ.out _ (Below.refl _ W)
  go_wp2_with fail
  try rw [show (w.alloc (.cells #[.slice A ns.length ca, .slice B ps.length cb, .slice C os.length cc] 26)) = W from hW]
  clear hW
  refine (KC.out).mono ?_
  rintro e w1 ⟨rfl, hb1⟩
  clear z0 z1 z2
  have HT := Lib.hid (fun W' (hb : Below W.heap.size W W') => B0.out.trans (hb.mono B0.out.size))
  have HS := Lib.hid (fun W' (hb : Below W.heap.size W W') => H.out W' (HT.out W' hb))
  have HPp := Lib.hid (fun W' (hb : Below W.heap.size W W') => HP.out W' (HT.out W' hb))
  have HB0 := Lib.hid B0.out.size
  have HB1 := Lib.hid hb1
  clear H HP B0 S0 KC hb1
  obtain ⟨z0, z1, z2⟩ := HZ.out _ HB1.out
  go_wp2_with fail
  refine (caps_any A B C P ca cb cc cp ns ps os p HPL.out _ (HS.out _ HB1.out) (HPp.out _ HB1.out)).mono ?_
  rintro e w2 ⟨v2, rfl, ho2, hb2⟩
  have O2 := Lib.hid (own_base ho2 HB1.out.size)
  have HB2 := Lib.hid (HB1.out.trans (hb2.mono HB1.out.size))
  have hcl := capsU_len ns ps p ns.length
  generalize capsU ns ps p ns.length = CL at O2 HA8 hcl
  clear ho2 hb2 HB1 z0 z1 z2
  go_wp2_with fail
  go_loopw [7, 8] (fun v kd wr => ∃ k : Nat, 2 ≤ k ∧ k ≤ 7 ∧ kd = .int .i64 (k : Int) ∧ wr.ownsRow W.heap.size 40 4 v (CL ++ kindsU ns ps os p (k - 2)).length (cells4 (CL ++ kindsU ns ps os p (k - 2))) ∧ Below W.heap.size W wr) (fun _ kd _ => 7 - (intOf kd).toNat)
  case atStart => exact ⟨2, by omega, by omega, rfl, by rw [show CL ++ kindsU ns ps os p (2 - 2) = CL from List.append_nil _]; exact O2.out, HB2.out⟩
  case round =>
    clear O2 HB2
    obtain ⟨k, hk2, hk7, rfl, ho, hb⟩ := hrel
    have HO := Lib.hid ho
    have HB := Lib.hid hb
    clear ho hb
    have hkl := kindsU_len ns ps os p (k - 2)
    have hkl2 : (kindsU ns ps os p (k - 2)).length ≤ 5 * 1000 := Nat.le_trans hkl (Nat.mul_le_mul (by omega) hpl2)
    have hkl3 : (CL ++ kindsU ns ps os p (k - 2)).length ≤ 10000 := by rw [List.length_append]; omega
    clear hkl hkl2
    by_cases hlt : k < 7
    case neg =>
      have ek : k = 7 := by omega
      have e7 : (k : Int) = 7 := by omega
      rw [e7]
      rw [ek] at HO hkl3
      clear e7 ek
      have HA9 : Hid (all8 ns ps os p = (CL ++ kindsU ns ps os p (7 - 2)) ++ spreadsU ns ps os p os.length ++ minsU ns ps os p os.length) := HA8
      generalize CL ++ kindsU ns ps os p (7 - 2) = M3 at HO HA9 hkl3
      clear hk2 hk7 hlt HA8 hcl
      go_wp2_with fail
      go_loopw [7, 12] (fun v i wr => ∃ i' : Nat, i' ≤ os.length ∧ i = .int .i64 (i' : Int) ∧ wr.ownsRow W.heap.size 40 4 v (M3 ++ spreadsU ns ps os p i').length (cells4 (M3 ++ spreadsU ns ps os p i')) ∧ Below W.heap.size W wr) (fun _ i _ => os.length - (intOf i).toNat)
      case atStart => exact ⟨0, by omega, rfl, by rw [show M3 ++ spreadsU ns ps os p 0 = M3 from List.append_nil _]; exact HO.out, HB.out⟩
      case round =>
        clear HO HB
        obtain ⟨i', hi', rfl, ho, hb⟩ := hrel
        have HO := Lib.hid ho
        have HB := Lib.hid hb
        clear ho hb
        obtain ⟨z0, z1, z2⟩ := HZ.out _ HB.out
        have hsl := spreadsU_len ns ps os p i'
        have hsl3 : (M3 ++ spreadsU ns ps os p i').length ≤ 11000 := by rw [List.length_append]; omega
        by_cases hlt : i' < os.length
        case neg =>
          obtain rfl : i' = os.length := by omega
          generalize M3 ++ spreadsU ns ps os p os.length = M4 at HO HA9 hsl3
          clear hi' hlt hkl3 hsl
          go_wp2_with fail
          go_loopw [7, 13] (fun v i wr => ∃ i' : Nat, i' ≤ os.length ∧ i = .int .i64 (i' : Int) ∧ wr.ownsRow W.heap.size 40 4 v (M4 ++ minsU ns ps os p i').length (cells4 (M4 ++ minsU ns ps os p i')) ∧ Below W.heap.size W wr) (fun _ i _ => os.length - (intOf i).toNat)
          case atStart => exact ⟨0, by omega, rfl, by rw [show M4 ++ minsU ns ps os p 0 = M4 from List.append_nil _]; exact HO.out, HB.out⟩
          case round =>
            clear HO HB z0 z1 z2
            obtain ⟨i', hi', rfl, ho, hb⟩ := hrel
            have HO := Lib.hid ho
            have HB := Lib.hid hb
            clear ho hb
            obtain ⟨z0, z1, z2⟩ := HZ.out _ HB.out
            have hml := minsU_len ns ps os p i'
            have hml3 : (M4 ++ minsU ns ps os p i').length ≤ 12000 := by rw [List.length_append]; omega
            by_cases hlt : i' < os.length
            case neg =>
              obtain rfl : i' = os.length := by omega
              go_wp2
              go_ret2
              rw [HA9.out]
              exact ⟨_, rfl, own_base HO.out HB0.out, HT.out _ HB.out⟩
            obtain ⟨o, ho⟩ : ∃ o, os[i']? = some o := ⟨os[i'], List.getElem?_eq_getElem hlt⟩
            have HOo := Lib.hid ho
            have Hd : Hid (M4 ++ minsU ns ps os p (i' + 1) = (M4 ++ minsU ns ps os p i') ++ [(8, (i' : Int), 0, max 0 (wrap64 (o.min - placedF ns ps os p (i' : Int))))]) := Lib.hid (by
              rw [minsU, ← List.append_assoc]
              congr 1
              unfold minR
              rw [HOo.out])
            have hPV : placedF ns ps os p (i' : Int) = ((offL p (membersF ps o.name)).length : Int) := by
              have hR : ownerB ns ps os p (i' : Int) = true := by
                unfold ownerB
                rw [decide_eq_true HEE.out, decide_eq_true (⟨by omega, by omega⟩ : 0 ≤ (i' : Int) ∧ (i' : Int) < (os.length : Int))]
                rfl
              obtain ⟨ko, xo, e1, hxo, _, _, hC, _⟩ := owned_is hR
              have e2 : ko = i' := by omega
              subst e2
              rw [HOo.out] at hxo
              cases hxo
              exact hC
            rw [hPV] at Hd
            have KM := Lib.hid (fun W' (hb : Below W.heap.size W W') => placedOf7_any A B C P ca cb cc cp ns ps os p i' o HOo.out HEE.out W' (HS.out W' hb) (HPp.out W' hb))
            generalize ((offL p (membersF ps o.name)).length : Int) = m at KM Hd
            obtain ⟨b, oo, hC, _, d0, d1, _⟩ := atO (HS.out _ HB.out).o ho
            subst hC
            have k0 : (0 : Int) ≤ (i' : Int) := by omega
            have k1 : (i' : Int) < (os.length : Int) := by omega
            generalize M4 ++ minsU ns ps os p i' = M at HO Hd hml3
            clear ho hPV d0
            have HB : Hid (Below W.heap.size W wr.drew) := Lib.hid HB.out.drew
            have HO : Hid (World.ownsRow wr.drew W.heap.size 40 4 u7 M.length (cells4 M)) := Lib.hid (show World.ownsRow _ _ _ _ _ _ _ from HO.out)
            have SF : Hid (∀ w', Below W.heap.size W w' → w'.cell? ⟨w.heap.size, 0, none⟩ = some (.slice A ns.length ca) ∧ w'.cell? ⟨w.heap.size, 1, none⟩ = some (.slice B ps.length cb) ∧ w'.cell? ⟨w.heap.size, 2, none⟩ = some (.slice (some ⟨b, oo, none⟩) os.length cc) ∧ w'.cell? ⟨b, oo + i' * 5 + 1, none⟩ = some (.int .i64 o.min)) := Lib.hid (fun w' hb => by
              obtain ⟨z0, z1, z2⟩ := HZ.out _ hb
              obtain ⟨b1, o1, e1, _, d0, d1, _⟩ := atO (HS.out _ hb).o HOo.out
              cases e1
              exact ⟨z0, z1, z2, d1⟩)
            go_upto_region 22 with fail
            clear z0 z1 z2 d1
            go_region_held3 (fun w' => w'.cell? ⟨w.heap.size, 0, none⟩ = some (.slice A ns.length ca) ∧ w'.cell? ⟨w.heap.size, 1, none⟩ = some (.slice B ps.length cb) ∧ w'.cell? ⟨w.heap.size, 2, none⟩ = some (.slice (some ⟨b, oo, none⟩) os.length cc) ∧ w'.cell? ⟨b, oo + i' * 5 + 1, none⟩ = some (.int .i64 o.min)) (first | exact SF.out _ HB.out | exact SF.out _ (HB.out.alloc HB.out.size _) | exact SF.out _ D4.out)
              (first
                | (go_at_call 47
                   refine (KM.out _ HB.out).mono ?_
                   rintro e w3 ⟨rfl, hb3⟩
                   have HO := Lib.hid (La.own_below HO.out hb3)
                   have HB := Lib.hid (HB.out.trans (hb3.mono HB.out.size))
                   clear hb3)
                | (refine step_append_own rfl (.tmp 79) (.tmp 94) 30 rfl W.heap.size 40 i0 (.agg #[.int .i64 0, .int .i64 0, .int .i64 0, .int .i64 0]) 4 32 Tryz.underlying30 hi0 hz0 hz1 hz2 rfl (by decide) u7 M.length (cells4 M) rfl (show World.ownsRow _ _ _ _ _ _ _ from HO.out.alloc _) ⟨_, 0, none⟩ 1 1 [.int .i64 8, .int .i64 (i' : Int), .int .i64 0, .int .i64 (max 0 (IntKind.i64.wrap (o.min - m)))] rfl rfl (cl4_cells _ _ _ _ _) (cl4_one _ _ _ _) (by unfold maxLen; omega) (by omega) (by have := HB.out.size; simp; omega) (fun v4 w4 hown4 hgrow4 => ?_)
                   have P4 := Lib.hid hown4
                   have D4 := Lib.hid ((HB.out.alloc HB.out.size (.cells #[.int .i64 8, .int .i64 (i' : Int), .int .i64 0, .int .i64 (max 0 (IntKind.i64.wrap (o.min - m)))] 40)).grown hgrow4 (by have := HB.out.size; simp; omega) (fun j hj => own_gem HO.out hj))
                   clear hown4 hgrow4))
            all_goals
              go_wp2_with fail
              go_roundw
              case rel =>
                refine ⟨i' + 1, by omega, by go_num, ?_, D4.out⟩
                rw [Hd.out, List.length_append, cells4_snoc]
                have e : IntKind.i64.wrap (o.min - m) = wrap64 (o.min - m) := IntWalk.i64_left _
                rw [← e]
                exact P4.out
              case measure => simp [intOf]; omega
        obtain ⟨o, ho⟩ : ∃ o, os[i']? = some o := ⟨os[i'], List.getElem?_eq_getElem hlt⟩
        have HOo := Lib.hid ho
        have Hd : Hid (spreadsU ns ps os p (i' + 1) = spreadsU ns ps os p i' ++ (if o.topo = [] then [] else [(7, (i' : Int), 0, skewO (spreadF ns ps os p (i' : Int)) o.skew)])) := Lib.hid (by
          rw [spreadsU]
          congr 1
          unfold spreadR
          rw [HOo.out])
        have KS := Lib.hid (fun W' (hb : Below W.heap.size W W') => skew_any A B C P ca cb cc cp ns ps os p i' o HOo.out HEE.out W' (HS.out W' hb) (HPp.out W' hb))
        generalize skewO (spreadF ns ps os p (i' : Int)) o.skew = sk at KS Hd
        obtain ⟨b, oo, hC, _, d0, d1, d2, d3, d4⟩ := atO (HS.out _ HB.out).o ho
        subst hC
        have k0 : (0 : Int) ≤ (i' : Int) := by omega
        have k1 : (i' : Int) < (os.length : Int) := by omega
        by_cases ht : o.topo = []
        case pos =>
          have hE2 : Hid (M3 ++ spreadsU ns ps os p (i' + 1) = M3 ++ spreadsU ns ps os p i') := Lib.hid (by rw [Hd.out, if_pos ht, List.append_nil])
          rw [ht] at d2
          clear ho Hd KS ht hsl d0 d1 d3 d4
          go_wp2_with fail
          go_roundw
          case rel => exact ⟨i' + 1, by omega, by go_num, by rw [hE2.out]; exact HO.out, HB.out⟩
          case measure => simp [intOf]; omega
        have hE2 : Hid (M3 ++ spreadsU ns ps os p (i' + 1) = (M3 ++ spreadsU ns ps os p i') ++ [(7, (i' : Int), 0, sk)]) := Lib.hid (by rw [Hd.out, if_neg ht, List.append_assoc])
        have htb : (o.topo == []) = false := by simpa using ht
        have htn : (o.topo != []) = true := by simp [ht]
        generalize M3 ++ spreadsU ns ps os p i' = M at HO hE2 hsl3
        clear ho Hd hsl d0 d1 d3 d4
        go_wp2_with fail
        refine (KS.out _ HB.out).mono ?_
        rintro e w3 ⟨rfl, hb3⟩
        have HO3 := Lib.hid (La.own_below HO.out hb3)
        have HB3 := Lib.hid (HB.out.trans (hb3.mono HB.out.size))
        clear hb3 KS HO HB z0 z1 z2 d2 htb htn ht
        go_wp2_with (at_builtin; refine wpList_append_own _ rfl _ _ 30 rfl W.heap.size 40 i0 (.agg #[.int .i64 0, .int .i64 0, .int .i64 0, .int .i64 0]) 4 32 Tryz.underlying30 hi0 hz0 hz1 hz2 rfl (by decide) _ _ _ rfl (show World.ownsRow _ _ _ _ _ _ _ from HO3.out.alloc _) ⟨w3.heap.size, 0, none⟩ 1 1 [.int .i64 7, .int .i64 (i' : Int), .int .i64 0, .int .i64 sk] rfl rfl ?c1s ?c2s ?c3s ?c4s ?c5s ?_)
        case c1s =>
          intro j u hj
          match j, hj with
          | 0, hj => simp at hj; subst hj; simp [Addr.add]
          | 1, hj => simp at hj; subst hj; simp [Addr.add]
          | 2, hj => simp at hj; subst hj; simp [Addr.add]
          | 3, hj => simp at hj; subst hj; simp [Addr.add]
        case c2s => first | rfl | (intro u hu; simp at hu; rcases hu with rfl | rfl | rfl | rfl <;> rfl)
        case c3s => unfold maxLen; omega
        case c4s => omega
        case c5s => have := HB3.out.size; simp; omega
        intro v4 w4 hown4 hgrow4 _
        have P4 := Lib.hid hown4
        have D4 := Lib.hid ((HB3.out.alloc HB3.out.size (.cells #[.int .i64 7, .int .i64 (i' : Int), .int .i64 0, .int .i64 sk] 40)).grown hgrow4 (by have := HB3.out.size; simp; omega) (fun j hj => own_gem HO3.out hj))
        clear hown4 hgrow4
        go_wp2_with fail
        go_roundw
        case rel =>
          refine ⟨i' + 1, by omega, by go_num, ?_, D4.out⟩
          rw [hE2.out, List.length_append, cells4_snoc]
          exact P4.out
        case measure => simp [intOf]; omega
    have Hk : Hid (CL ++ kindsU ns ps os p (k + 1 - 2) = (CL ++ kindsU ns ps os p (k - 2)) ++ podsU ns ps os p k p.length) := Lib.hid (by
      obtain ⟨j, rfl⟩ : ∃ j, k = j + 2 := ⟨k - 2, by omega⟩
      show CL ++ (kindsU ns ps os p j ++ podsU ns ps os p (j + 2) p.length) = _
      rw [← List.append_assoc]
      rfl)
    generalize CL ++ kindsU ns ps os p (k - 2) = M2 at HO Hk hkl3
    clear hcl HA8
    have e6 : (k : Int) ≤ 6 := by omega
    go_wp2_with fail
    go_loopw [7, 9] (fun v i wr => ∃ i' : Nat, i' ≤ p.length ∧ i = .int .i64 (i' : Int) ∧ wr.ownsRow W.heap.size 40 4 v (M2 ++ podsU ns ps os p k i').length (cells4 (M2 ++ podsU ns ps os p k i')) ∧ Below W.heap.size W wr) (fun _ i _ => p.length - (intOf i).toNat)
    case atStart => exact ⟨0, by omega, rfl, by rw [show M2 ++ podsU ns ps os p k 0 = M2 from List.append_nil _]; exact HO.out, HB.out⟩
    case round =>
      clear HO HB
      obtain ⟨i', hi', rfl, ho, hb⟩ := hrel
      have HO := Lib.hid ho
      have HB := Lib.hid hb
      clear ho hb
      obtain ⟨z0, z1, z2⟩ := HZ.out _ HB.out
      have hsl := podsU_len ns ps os p k i'
      have hsl3 : (M2 ++ podsU ns ps os p k i').length ≤ 11000 := by rw [List.length_append]; omega
      by_cases hlt2 : i' < p.length
      case neg =>
        obtain rfl : i' = p.length := by omega
        go_wp2_with fail
        go_roundw
        case rel => exact ⟨k + 1, by omega, by omega, by go_num, by rw [Hk.out]; exact HO.out, HB.out⟩
        case measure => simp [intOf]; omega
      have KO := Lib.hid (fun W' (hb : Below W.heap.size W W') => ofR_any A B C P ca cb cc cp ns ps os p k i' hk2 (by omega) HEE.out hlt2 W' (HS.out W' hb) (HPp.out W' hb))
      have Hd : Hid (M2 ++ podsU ns ps os p k (i' + 1) = (M2 ++ podsU ns ps os p k i') ++ (match ofU ns ps os p k i' with | some b => [((k : Int), (i' : Int), 0, (b : Int))] | none => [])) := Lib.hid (by
        rw [podsU, ← List.append_assoc]
        rfl)
      have k0 : (0 : Int) ≤ (i' : Int) := by omega
      have k1 : (i' : Int) < (p.length : Int) := by omega
      generalize M2 ++ podsU ns ps os p k i' = M at HO Hd hsl3
      generalize ofU ns ps os p k i' = R at KO Hd
      clear hsl
      go_wp2_with fail
      refine (KO.out _ HB.out).mono ?_
      rintro e w3 ⟨rfl, hb3⟩
      have HO3 := Lib.hid (La.own_below HO.out hb3)
      have HB3 := Lib.hid (HB.out.trans (hb3.mono HB.out.size))
      clear hb3 KO HO HB z0 z1 z2
      cases R with
      | none =>
        have hE2 : Hid (M2 ++ podsU ns ps os p k (i' + 1) = M) := Lib.hid (by rw [Hd.out]; simp)
        clear Hd
        go_wp2_with fail
        go_roundw
        case rel => exact ⟨i' + 1, by omega, by go_num, by rw [hE2.out]; exact HO3.out, HB3.out⟩
        case measure => simp [intOf]; omega
      | some b =>
        have hE2 : Hid (M2 ++ podsU ns ps os p k (i' + 1) = M ++ [((k : Int), (i' : Int), 0, (b : Int))]) := Hd
        clear Hd
        go_wp2_with (at_builtin; refine wpList_append_own _ rfl _ _ 30 rfl W.heap.size 40 i0 (.agg #[.int .i64 0, .int .i64 0, .int .i64 0, .int .i64 0]) 4 32 Tryz.underlying30 hi0 hz0 hz1 hz2 rfl (by decide) _ _ _ rfl (show World.ownsRow _ _ _ _ _ _ _ from HO3.out.alloc _) ⟨w3.heap.size, 0, none⟩ 1 1 [.int .i64 (k : Int), .int .i64 (i' : Int), .int .i64 0, .int .i64 (b : Int)] rfl rfl ?c1p ?c2p ?c3p ?c4p ?c5p ?_)
        case c1p =>
          intro j u hj
          match j, hj with
          | 0, hj => simp at hj; subst hj; simp [Addr.add]
          | 1, hj => simp at hj; subst hj; simp [Addr.add]
          | 2, hj => simp at hj; subst hj; simp [Addr.add]
          | 3, hj => simp at hj; subst hj; simp [Addr.add]
        case c2p => first | rfl | (intro u hu; simp at hu; rcases hu with rfl | rfl | rfl | rfl <;> rfl)
        case c3p => unfold maxLen; omega
        case c4p => omega
        case c5p => have := HB3.out.size; simp; omega
        intro v4 w4 hown4 hgrow4 _
        have P4 := Lib.hid hown4
        have D4 := Lib.hid ((HB3.out.alloc HB3.out.size (.cells #[.int .i64 (k : Int), .int .i64 (i' : Int), .int .i64 0, .int .i64 (b : Int)] 40)).grown hgrow4 (by have := HB3.out.size; simp; omega) (fun j hj => own_gem HO3.out hj))
        clear hown4 hgrow4
        go_wp2_with fail
        go_roundw
        case rel =>
          refine ⟨i' + 1, by omega, by go_num, ?_, D4.out⟩
          rw [hE2.out, List.length_append, cells4_snoc]
          exact P4.out
        case measure => simp [intOf]; omega
end Go.Proofs.YtfpbdfagcfdbbaaGreat

namespace Go.Proofs.YtfpbdfagcfdbbaaGreat
open Go.RowKit

theorem SnapIn.below8 {w w' : World} {A B C : Option Addr} {ca cb cc : Nat} {ns : List NodeD} {ps : List PodD} {os : List OwnD} (h : SnapIn w A B C ca cb cc ns ps os) (hb : Below w.heap.size w w') : SnapIn w' A B C ca cb cc ns ps os :=
  ⟨⟨h.n.cells.below hb, fun x hx => (h.n.fit x hx).below hb⟩, ⟨h.p.cells.below hb, fun x hx => (h.p.fit x hx).below hb⟩, h.o.below hb, h.fo, h.can, h.cap, h.cao⟩
theorem eqSame8 (A B : Option Addr) (ca cb : Nat) (l : List Int) (w : World) (hl : l.length ≤ 9223372036854775807) (ha : IntsAt w A ca l) (hb : IntsAt w B cb l) :
    Calls Tryz.prog 19 #[.slice A l.length ca, .slice B l.length cb] w fun e w' => e = .returned (.bool true) ∧ Below w.heap.size w w' := by
  have q := eqInts_anyL A B ca cb l l w hl ha hb
  rwa [decide_eq_true (rfl : l = l)] at q
theorem all8_few {ns : List NodeD} {ps : List PodD} {os : List OwnD} {p : List Int} (hn : ns.length ≤ 12) (hp : ps.length ≤ 30) (ho : os.length ≤ 12) : (all8 ns ps os p).length ≤ 1000 := by
  by_cases hE : placeE ns ps os p = 0
  · have := all8_len ns ps os p
    have := placeE_len hE
    omega
  · unfold all8
    rw [if_neg hE]
    simp
theorem filt_few {α : Type} (f : α → Bool) {l : List α} {n : Nat} (h : l.length ≤ n) : (l.filter f).length ≤ n := Nat.le_trans (List.length_filter_le _ _) h

set_option maxRecDepth 100000 in
set_option maxHeartbeats 16000000 in
theorem clauseAll_law (A B C P : Option Addr) (ca cb cc cp : Nat) (ns : List NodeD) (ps : List PodD) (os : List OwnD) (p : List Int) (w : World) (h : SnapIn w A B C ca cb cc ns ps os) (hp : NumsIn w P cp p) :
    Calls Tryz.prog 3 #[snapV A B C ca cb cc ns ps os, .slice P p.length cp] w fun e w' => e = .returned (.bool true) ∧ Below w.heap.size w w' := by
  have HP9 := Lib.hid hp
  clear hp
  have B0 : Hid (Below w.heap.size w (w.alloc (.cells (snapC A B C ca cb cc ns ps os) 26))) := Lib.hid (below1 w _)
  have S0 : Hid (Blk (w.alloc (.cells (snapC A B C ca cb cc ns ps os) 26)) w.heap.size (snapC A B C ca cb cc ns ps os) 26) := Lib.hid (Blk.new w _ _)
  have H := Lib.hid (h.take)
  have KW := Lib.hid works8_any
  have KC := Lib.hid (cut8_any A B C ca cb cc ns ps os _ (h.below8 B0.out))
  have hn12 : (ns.take 12).length ≤ 12 := List.length_take_le _ _
  have hp30 : (ps.take 30).length ≤ 30 := List.length_take_le _ _
  have ho12 : (os.take 12).length ≤ 12 := List.length_take_le _ _
  generalize ns.take 12 = n1 at H KC hn12
  generalize ps.take 30 = p1 at H KC hp30
  generalize os.take 12 = o1 at H KC ho12
  clear h
  go_enter Tryz.func3, Tryz.ntmps3
  go_wp2_with fail
  refine (KC.out).mono ?_
  rintro e w2 ⟨rfl, hb2⟩
  have S2 : Hid (Blk w2 w.heap.size (snapC A B C ca cb cc ns ps os) 26) := Lib.hid (S0.out.below hb2 S0.out.lt)
  have B2 : Hid (Below w.heap.size w w2) := Lib.hid (B0.out.trans (hb2.mono B0.out.size))
  clear hb2 S0 B0 KC
  have r0 : w2.cell? ⟨w.heap.size, 0, none⟩ = some (.slice A ns.length ca) := Blk.cell S2.out 0
  have r1 : w2.cell? ⟨w.heap.size, 1, none⟩ = some (.slice B ps.length cb) := Blk.cell S2.out 1
  have r2 : w2.cell? ⟨w.heap.size, 2, none⟩ = some (.slice C os.length cc) := Blk.cell S2.out 2
  have f0 := Blk.free S2.out 0
  have f1 := Blk.free S2.out 1
  have f2 := Blk.free S2.out 2
  have S3 : Hid (Blk (((w2.setCell ⟨w.heap.size, 0, none⟩ (.slice A n1.length ca)).setCell ⟨w.heap.size, 1, none⟩ (.slice B p1.length cb)).setCell ⟨w.heap.size, 2, none⟩ (.slice C o1.length cc)) w.heap.size (snapC A B C ca cb cc n1 p1 o1) 26) := Lib.hid (((S2.out.set 0 _).set 1 _).set 2 _)
  have B3 : Hid (Below w.heap.size w (((w2.setCell ⟨w.heap.size, 0, none⟩ (.slice A n1.length ca)).setCell ⟨w.heap.size, 1, none⟩ (.slice B p1.length cb)).setCell ⟨w.heap.size, 2, none⟩ (.slice C o1.length cc))) := Lib.hid (((B2.out.setCell (p := ⟨w.heap.size, 0, none⟩) (Nat.le_refl _) _).setCell (p := ⟨w.heap.size, 1, none⟩) (Nat.le_refl _) _).setCell (p := ⟨w.heap.size, 2, none⟩) (Nat.le_refl _) _)
  go_upto_region 2 with fail
  clear r0 r1 r2 f0 f1 f2
  generalize (((w2.setCell ⟨w.heap.size, 0, none⟩ (.slice A n1.length ca)).setCell ⟨w.heap.size, 1, none⟩ (.slice B p1.length cb)).setCell ⟨w.heap.size, 2, none⟩ (.slice C o1.length cc)) = W at S3 B3 ⊢
  clear S2 B2
  have HW := Lib.hid (fun W' (hb : Below W.heap.size W W') => (show W'.cell? ⟨w.heap.size, 0, none⟩ = some (.slice A n1.length ca) ∧ W'.cell? ⟨w.heap.size, 1, none⟩ = some (.slice B p1.length cb) ∧ W'.cell? ⟨w.heap.size, 2, none⟩ = some (.slice C o1.length cc) from ⟨Blk.cell (S3.out.below hb S3.out.lt) 0, Blk.cell (S3.out.below hb S3.out.lt) 1, Blk.cell (S3.out.below hb S3.out.lt) 2⟩))
  have HG : Hid (w.heap.size < W.heap.size) := Lib.hid S3.out.lt
  have HT := Lib.hid (fun W' (hb : Below W.heap.size W W') => B3.out.trans (hb.mono B3.out.size))
  have HS := Lib.hid (fun W' (hb : Below W.heap.size W W') => H.out.below (HT.out W' hb))
  have hln := H.out.ln
  have hlp := H.out.lp
  have K1 := Lib.hid (copyInts_any P cp p W (HP9.out.below B3.out))
  have HPW := Lib.hid (HP9.out.below B3.out)
  clear H B3 S3 HP9
  go_wp2_with fail
  refine (K1.out).mono ?_
  rintro e V ⟨v, rfl, ho, hb⟩
  obtain ⟨Q, cq, rfl, _⟩ := La.own_slice ho
  have HfewP := Lib.hid HPW.out.few
  have HQ := Lib.hid (fun W' (hb : Below V.heap.size V W') => (IntsAt.own ho).below hb)
  have HP := Lib.hid (fun W' (hb' : Below V.heap.size V W') => (HPW.out.below hb).ints.below hb')
  have HB0 := Lib.hid hb
  clear ho hb K1 HPW
  have HZ := Lib.hid (fun W' (hb : Below V.heap.size V W') => HW.out W' (HB0.out.trans (hb.mono HB0.out.size)))
  have HTV := Lib.hid (fun W' (hb : Below V.heap.size V W') => HT.out W' (HB0.out.trans (hb.mono HB0.out.size)))
  have HSV := Lib.hid (fun W' (hb : Below V.heap.size V W') => HS.out W' (HB0.out.trans (hb.mono HB0.out.size)))
  clear HW HT HS HB0 HG
  have hL := all8_few (p := p) hn12 hp30 ho12
  have KA1 := Lib.hid (fun W' (hb : Below V.heap.size V W') => allP_any A B C Q ca cb cc cq n1 p1 o1 p W' (HSV.out W' hb) (HQ.out W' hb))
  have KA2 := Lib.hid (fun W' (hb : Below V.heap.size V W') => all8_any A B C P ca cb cc cp n1 p1 o1 p W' (HSV.out W' hb) (HP.out W' hb))
  have KB1 := Lib.hid (fun W' (hb : Below V.heap.size V W') => brokenP_any A B C Q ca cb cc cq n1 p1 o1 p (by omega) W' (HSV.out W' hb) (HQ.out W' hb))
  have KB2 := Lib.hid (fun W' (hb : Below V.heap.size V W') => broken8_any A B C P ca cb cc cp n1 p1 o1 p (all8 n1 p1 o1 p) (placeE n1 p1 o1 p) W' hL (all8_any A B C P ca cb cc cp n1 p1 o1 p _ (HSV.out _ (hb.trans ((below1 W' _).mono hb.size))) (HP.out _ (hb.trans ((below1 W' _).mono hb.size)))))
  have hLB := filt_few brokC hL
  generalize (all8 n1 p1 o1 p).filter brokC = LB at KB1 KB2 hLB
  generalize all8 n1 p1 o1 p = L at KA1 KA2 hL
  generalize placeE n1 p1 o1 p = E at KA1 KA2
  have hEE : (E == E) = true := by simp
  have hEd : decide (E = E) = true := by simp
  obtain ⟨z0, z1, z2⟩ := HZ.out _ (Below.refl _ V)
  clear hn12 hp30 ho12
  go_wp2_with fail
  refine (KA1.out _ (Below.refl _ V)).mono ?_
  rintro e V2 ⟨va, rfl, hoa, hb2⟩
  obtain ⟨Ga, ca2, rfl, _⟩ := La.own_slice hoa
  have TA := Lib.hid (La.own_slat hoa)
  have HB := Lib.hid (show Below V.heap.size V V2 from hb2)
  clear hoa hb2 z0 z1 z2 KA1
  obtain ⟨z0, z1, z2⟩ := HZ.out _ HB.out
  go_wp2_with fail
  refine (KA2.out _ HB.out).mono ?_
  rintro e V3 ⟨vb, rfl, hob, hb3⟩
  obtain ⟨Gb, cb2, rfl, _⟩ := La.own_slice hob
  have TB := Lib.hid (La.own_slat hob)
  have TA := Lib.hid (La.SlAt.below TA.out hb3)
  have HB := Lib.hid (HB.out.trans (hb3.mono HB.out.size))
  clear hob hb3 z0 z1 z2 KA2
  obtain ⟨z0, z1, z2⟩ := HZ.out _ HB.out
  go_upto_region 5 with fail
  have HB : Hid (Below V.heap.size V V3.drew) := Lib.hid HB.out.drew
  have TE := Lib.hid (same_cl Ga Gb ca2 cb2 L.length L V3.drew rfl hL (show La.SlAt V3 _ _ from TA.out) (show La.SlAt V3 _ _ from TB.out))
  clear z0 z1 z2 TA TB
  obtain ⟨z0, z1, z2⟩ := HZ.out _ HB.out
  go_region_held3 (fun w' => w'.cell? ⟨w.heap.size, 0, none⟩ = some (.slice A n1.length ca) ∧ w'.cell? ⟨w.heap.size, 1, none⟩ = some (.slice B p1.length cb) ∧ w'.cell? ⟨w.heap.size, 2, none⟩ = some (.slice C o1.length cc)) (first | exact ⟨z0, z1, z2⟩ | exact ⟨by assumption, by assumption, by assumption⟩)
    (first
      | (go_at_call 16
         with_reducible refine (TE.out).mono ?_
         rintro e wA ⟨rfl, hbA⟩
         have HB := Lib.hid (HB.out.trans (hbA.mono HB.out.size))
         obtain ⟨z0, z1, z2⟩ := HZ.out _ HB.out
         clear hbA TE)
      | (go_at_call 17
         with_reducible refine (KB1.out _ HB.out).mono ?_
         rintro e wA ⟨vA, rfl, hoA, hbA⟩
         obtain ⟨QTA, cTA, rfl, _⟩ := La.own_slice hoA
         have TA := Lib.hid (La.own_slat hoA)
         have HB := Lib.hid (HB.out.trans (hbA.mono HB.out.size))
         obtain ⟨z0, z1, z2⟩ := HZ.out _ HB.out
         clear hoA hbA)
      | (go_at_call 18
         with_reducible refine (KB2.out _ HB.out).mono ?_
         rintro e wA ⟨vA, rfl, hoA, hbA⟩
         obtain ⟨QTB, cTB, rfl, _⟩ := La.own_slice hoA
         have TA := Lib.hid (La.SlAt.below TA.out hbA)
         have TB := Lib.hid (La.own_slat hoA)
         have TE := Lib.hid (same_cl _ _ cTA cTB LB.length LB _ rfl hLB TA.out TB.out)
         have HB := Lib.hid (HB.out.trans (hbA.mono HB.out.size))
         obtain ⟨z0, z1, z2⟩ := HZ.out _ HB.out
         clear hoA hbA)
      | (go_at_call 19
         refine (eqSame8 Q P cq cp p _ (by have := HfewP.out; omega) (HQ.out _ HB.out) (HP.out _ HB.out)).mono ?_
         rintro e wA ⟨rfl, hbA⟩
         have HB := Lib.hid (HB.out.trans (hbA.mono HB.out.size))
         obtain ⟨z0, z1, z2⟩ := HZ.out _ HB.out
         clear hbA)
      | (go_at_call 20
         refine (KW.out _).mono ?_
         rintro e wA ⟨rfl, hbA⟩
         have HB := Lib.hid (HB.out.trans (hbA.mono HB.out.size))
         obtain ⟨z0, z1, z2⟩ := HZ.out _ HB.out
         clear hbA))
  all_goals
    have D := Lib.hid (HTV.out _ HB.out)
    go_wp2
    go_ret
    exact ⟨rfl, D.out⟩
end Go.Proofs.YtfpbdfagcfdbbaaGreat

namespace Go.Proofs.YtfpbdfagcfdbbaaGreat
open Go.RowKit

theorem own_empty (w : World) (base : Nat) (e : TypeId) (hb : base ≤ w.heap.size) : (w.alloc (.cells #[] e)).ownsRow base e 1 (.slice (some ⟨w.heap.size, 0, none⟩) 0 0) 0 [] :=
  ⟨rfl, .inr ⟨w.heap.size, 0, #[], rfl, hb, Blk.new w _ _, Nat.le_refl _, by unfold maxLen; omega, rfl, rfl⟩⟩

end Go.Proofs.YtfpbdfagcfdbbaaGreat

namespace Go.Proofs.YtfpbdfagcfdbbaaGreat
open Go.RowKit

theorem SnapIn.below {w w' : World} {A B C : Option Addr} {ca cb cc : Nat} {ns : List NodeD} {ps : List PodD} {os : List OwnD} (h : SnapIn w A B C ca cb cc ns ps os) (hb : Below w.heap.size w w') : SnapIn w' A B C ca cb cc ns ps os :=
  ⟨⟨h.n.cells.below hb, fun x hx => (h.n.fit x hx).below hb⟩, ⟨h.p.cells.below hb, fun x hx => (h.p.fit x hx).below hb⟩, h.o.below hb, h.fo, h.can, h.cap, h.cao⟩
/-- A row of numbers that a call answered, lying in memory. -/
abbrev Ints (w : World) (l : List Int) (e : Ending) (w' : World) : Prop := ∃ A c, e = .returned (.slice A l.length c) ∧ IntsAt w' A c l ∧ Below w.heap.size w w'
theorem apply_ints {A B C P : Option Addr} {ca cb cc cp : Nat} {ns : List NodeD} {ps : List PodD} {os : List OwnD} {p r : List Int} {kd pd nd : Int} (hF : applyF ns ps os p kd pd nd = (r, 0)) (w : World) (h : SnapAt w A B C ca cb cc ns ps os) (hp : IntsAt w P cp p) :
    Calls Tryz.prog 27 #[snapV A B C ca cb cc ns ps os, .slice P p.length cp, stepV kd pd nd] w fun e w' => ∃ A c, e = .returned (.tuple #[.slice A r.length c, .int .i64 0]) ∧ IntsAt w' A c r ∧ Below w.heap.size w w' := by
  refine (apply_any A B C P ca cb cc cp ns ps os p kd pd nd w h hp).mono ?_
  rw [hF]
  rintro e w' ⟨v, rfl, ho, hb⟩
  obtain ⟨g, c, rfl, _⟩ := La.own_slice ho
  exact ⟨g, c, rfl, IntsAt.own ho, hb⟩
theorem apply_len {A B C P : Option Addr} {ca cb cc cp N : Nat} {ns : List NodeD} {ps : List PodD} {os : List OwnD} {p r : List Int} {kd pd nd : Int} (hp1 : p.length = N) (hr : r.length = N) (hF : applyF ns ps os p kd pd nd = (r, 0)) (w : World) (h : SnapAt w A B C ca cb cc ns ps os) (hp : IntsAt w P cp p) :
    Calls Tryz.prog 27 #[snapV A B C ca cb cc ns ps os, .slice P N cp, stepV kd pd nd] w fun e w' => ∃ A c, e = .returned (.tuple #[.slice A N c, .int .i64 0]) ∧ IntsAt w' A c r ∧ Below w.heap.size w w' := by
  have := apply_ints hF w h hp
  rw [hr, hp1] at this
  exact this

end Go.Proofs.YtfpbdfagcfdbbaaGreat

namespace Go.Proofs.YtfpbdfagcfdbbaaGreat
open Go.RowKit

abbrev S3T := Int × Int × Int
def cells3 (l : List S3T) : List Value := l.flatMap fun x => [.int .i64 x.1, .int .i64 x.2.1, .int .i64 x.2.2]
theorem cells3_at : ∀ (l : List S3T) (k : Nat) (x : S3T), l[k]? = some x → (cells3 l)[k * 3]? = some (.int .i64 x.1) ∧ (cells3 l)[k * 3 + 1]? = some (.int .i64 x.2.1) ∧ (cells3 l)[k * 3 + 2]? = some (.int .i64 x.2.2)
  | [], k, x, h => by simp at h
  | y :: t, 0, x, h => by
    simp only [List.getElem?_cons_zero, Option.some.injEq] at h
    subst h
    exact ⟨rfl, rfl, rfl⟩
  | y :: t, k + 1, x, h => by
    obtain ⟨h0, h1, h2⟩ := cells3_at t k x (by simpa using h)
    have e : cells3 (y :: t) = [.int .i64 y.1, .int .i64 y.2.1, .int .i64 y.2.2] ++ cells3 t := rfl
    rw [e]
    refine ⟨?_, ?_, ?_⟩
    · rw [List.getElem?_append_right (by simp; omega), ← h0]; congr 1; simp; omega
    · rw [List.getElem?_append_right (by simp; omega), ← h1]; congr 1; simp; omega
    · rw [List.getElem?_append_right (by simp; omega), ← h2]; congr 1; simp; omega
theorem atSt {w : World} {A : Option Addr} {l : List S3T} (h : La.SlAt w A (cells3 l)) {k : Nat} {x : S3T} (hk : l[k]? = some x) :
    ∃ b o, A = some ⟨b, o, none⟩ ∧ b < w.heap.size ∧ w.cell? ⟨b, o + k * 3, none⟩ = some (.int .i64 x.1) ∧ w.cell? ⟨b, o + k * 3 + 1, none⟩ = some (.int .i64 x.2.1) ∧ w.cell? ⟨b, o + k * 3 + 2, none⟩ = some (.int .i64 x.2.2) := by
  obtain ⟨h0, h1, h2⟩ := cells3_at l k x hk
  obtain ⟨b, o, hA, hc⟩ := h _ _ h0
  obtain ⟨b', o', hA', hc'⟩ := h _ _ h1
  rw [hA] at hA'
  cases hA'
  obtain ⟨b', o', hA', hc''⟩ := h _ _ h2
  rw [hA] at hA'
  cases hA'
  exact ⟨b, o, hA, World.block_lt_of_cell? w _ hc, hc, by rw [Nat.add_assoc]; exact hc', by rw [Nat.add_assoc]; exact hc''⟩

theorem applyF_few {ns : List NodeD} {ps : List PodD} {os : List OwnD} {q : List Int} {kd pd nd : Int} (hl : ps.length ≤ 1000) : (applyF ns ps os q kd pd nd).1.length ≤ 1000 := by
  unfold applyF
  split
  · rename_i h
    have := (placeE_zero h).2.1
    unfold evictF bindF
    repeat' split
    all_goals simp
    all_goals omega
  · simp
theorem own_keptR {w w' : World} {base g : Nat} {e : TypeId} {size n : Nat} {v : Value} {xs : List Value} (h : w.ownsRow base e size v n xs) (hg : w.grownBy w' (some g)) (hne : g < base) : w'.ownsRow base e size v n xs := by
  obtain ⟨hl, h1 | ⟨g', cap, cur, hv, h0, hc, hr⟩⟩ := h
  · exact ⟨hl, .inl h1⟩
  · exact ⟨hl, .inr ⟨g', cap, cur, hv, h0, (hg.block g' (Array.getElem?_eq_some_iff.1 hc).1 (by intro e; cases e; omega)).trans hc, hr⟩⟩

end Go.Proofs.YtfpbdfagcfdbbaaGreat

namespace Go.Proofs.YtfpbdfagcfdbbaaGreat
open Go.ChangeShapes Go.WideShapes Go.ChangeAt Go.RowKit Go.Deep

theorem bytes_int : Tryz.prog.bytesOf 3 = 8 := by kernel_rfl
set_option maxRecDepth 100000 in
theorem open_intsN {H : Type} {enc : TypeId × Value → H} {W : World} {r : Reach} {b0 : Nat} {held : Bool} {v : Value} {d : DataW H} {p : List MemPlace}
    (hv : Value.okWide Tryz.prog W r b0 27 v) (h : DataW.Trod enc Tryz.prog W 0 (fun _ => true) held 27 v d p) :
    ∃ A c l, v = .slice A (List.length l) c ∧ IntsAt W A c l ∧ (A = none → c = 0) ∧ (l.length = 0 ∨ ∃ es sp, d = .slice es sp ∧ es.length = l.length) := by
  obtain ⟨A, c, l, rfl, hi⟩ := open_intsK hv h
  obtain ⟨fuel, hf⟩ := h
  have hf' : DataW.trod enc Tryz.prog W 0 (fun _ => true) held fuel 27 [.slice A l.length c] = some (d, p) := hf
  rcases open_slice Tryz.underlying27 hf' with ⟨hcs, _⟩ | ⟨a, len, cap, m, n, D, Pl, hcs, _, hl, hm, hmm, hx, _⟩
  · simp only [List.cons.injEq, Value.slice.injEq, and_true] at hcs
    exact ⟨A, c, l, rfl, hi, fun _ => hcs.2.2, .inl hcs.2.1⟩
  · simp only [List.cons.injEq, Value.slice.injEq, and_true] at hcs
    simp only [Prod.mk.injEq] at hx
    refine ⟨A, c, l, rfl, hi, fun e => ?_, .inr ⟨_, _, hx.1, by simp [hcs.2.1]⟩⟩
    rw [hcs.1] at e
    cases e
theorem few_ints {H : Type} {ts : List TypeId} {ds : List (DataW H)} {d : DataW H} {n : Nat} (h : (DataW.weightsEach Tryz.prog ts ds).all (· ≤ reachBytes) = true) {j : Nat} (ht : ts[j]? = some 27) (hd : ds[j]? = some d) (hs : n = 0 ∨ ∃ es sp, d = .slice es sp ∧ es.length = n) :
    n * 8 ≤ 140737488355328 := by
  rcases hs with rfl | ⟨es, sp, rfl, rfl⟩
  · omega
  · have := sized_slice h ht hd Tryz.underlying27
    rw [bytes_int] at this
    simp only [reachBytes] at this
    omega

theorem kcStep : Tryz.prog.cellsOf 50 = 3 := by kernel_rfl
section
variable {H : Type} {enc : TypeId × Value → H} {W : World} {held : Bool}
set_option maxRecDepth 100000 in
theorem step_row (n : Nat) (cs : List Value) (x : DataW H × List MemPlace) (h : DataW.trod enc Tryz.prog W 0 (fun _ => true) held n 50 cs = some x) : ∃ y : S3T, cs = [.int .i64 y.1, .int .i64 y.2.1, .int .i64 y.2.2] := by
  obtain ⟨xs, m, _, _, hl, hxl, hf⟩ := DataW.trod_struct Tryz.underlying50 h
  rw [kcStep] at hl
  match cs, hl, xs, hxl with
  | [c0, c1, c2], _, [y0, y1, y2], _ =>
    have h0 : DataW.trod enc Tryz.prog W 0 (fun _ => true) held m 3 ((([c0, c1, c2] : List Value).drop 0).take (Tryz.prog.cellsOf 3)) = some y0 := hf 0 _ rfl
    have h1 : DataW.trod enc Tryz.prog W 0 (fun _ => true) held m 3 ((([c0, c1, c2] : List Value).drop 1).take (Tryz.prog.cellsOf 3)) = some y1 := hf 1 _ rfl
    have h2 : DataW.trod enc Tryz.prog W 0 (fun _ => true) held m 3 ((([c0, c1, c2] : List Value).drop 2).take (Tryz.prog.cellsOf 3)) = some y2 := hf 2 _ rfl
    rw [kcInt] at h0 h1 h2
    obtain ⟨i0, e0⟩ := int_one (enc := enc) (W := W) (held := held) (n := m) (c := c0) (x := y0) h0
    obtain ⟨i1, e1⟩ := int_one (enc := enc) (W := W) (held := held) (n := m) (c := c1) (x := y1) h1
    obtain ⟨i2, e2⟩ := int_one (enc := enc) (W := W) (held := held) (n := m) (c := c2) (x := y2) h2
    exact ⟨(i0, i1, i2), by rw [e0, e1, e2]⟩
end
end Go.Proofs.YtfpbdfagcfdbbaaGreat

namespace Go.Proofs.YtfpbdfagcfdbbaaGreat
open Go.RowKit

set_option maxRecDepth 100000 in
set_option maxHeartbeats 16000000 in
theorem clauseOne_law (A B C P : Option Addr) (ca cb cc cp : Nat) (ns : List NodeD) (ps : List PodD) (os : List OwnD) (p : List Int) (c : ClT) (w : World) (h : SnapIn w A B C ca cb cc ns ps os) (hp : NumsIn w P cp p) :
    Calls Tryz.prog 4 #[snapV A B C ca cb cc ns ps os, .slice P p.length cp, clV c] w fun e w' => e = .returned (.bool true) ∧ Below w.heap.size w w' := by
  have HP9 := Lib.hid hp
  clear hp
  have B0 : Hid (Below w.heap.size w ((w.alloc (.cells (snapC A B C ca cb cc ns ps os) 26)).alloc (.cells #[.int .i64 c.1, .int .i64 c.2.1, .int .i64 c.2.2.1, .int .i64 c.2.2.2] 40))) := Lib.hid (Qu.below2 w _ _)
  have S0 : Hid (Blk ((w.alloc (.cells (snapC A B C ca cb cc ns ps os) 26)).alloc (.cells #[.int .i64 c.1, .int .i64 c.2.1, .int .i64 c.2.2.1, .int .i64 c.2.2.2] 40)) w.heap.size (snapC A B C ca cb cc ns ps os) 26) := Lib.hid (Blk.alloc (Blk.new w _ _) _)
  have Q0 : Hid (Blk ((w.alloc (.cells (snapC A B C ca cb cc ns ps os) 26)).alloc (.cells #[.int .i64 c.1, .int .i64 c.2.1, .int .i64 c.2.2.1, .int .i64 c.2.2.2] 40)) (w.heap.size + 1) #[.int .i64 c.1, .int .i64 c.2.1, .int .i64 c.2.2.1, .int .i64 c.2.2.2] 40) := Lib.hid (blk2 w _ _ _)
  have H := Lib.hid (h.take)
  have KW := Lib.hid works8_any
  have KC := Lib.hid (cut8_any A B C ca cb cc ns ps os _ (h.below8 B0.out))
  have hn12 : (ns.take 12).length ≤ 12 := List.length_take_le _ _
  have hp30 : (ps.take 30).length ≤ 30 := List.length_take_le _ _
  have ho12 : (os.take 12).length ≤ 12 := List.length_take_le _ _
  generalize ns.take 12 = n1 at H KC hn12
  generalize ps.take 30 = p1 at H KC hp30
  generalize os.take 12 = o1 at H KC ho12
  clear h
  go_enter Tryz.func4, Tryz.ntmps4
  go_wp2_with fail
  refine (KC.out).mono ?_
  rintro e w2 ⟨rfl, hb2⟩
  have S2 : Hid (Blk w2 w.heap.size (snapC A B C ca cb cc ns ps os) 26) := Lib.hid (S0.out.below hb2 S0.out.lt)
  have B2 : Hid (Below w.heap.size w w2) := Lib.hid (B0.out.trans (hb2.mono B0.out.size))
  have Q2 := Lib.hid (Q0.out.below hb2 Q0.out.lt)
  have hne : w.heap.size + 1 ≠ w.heap.size := by omega
  clear hb2 S0 B0 KC Q0
  have r0 : w2.cell? ⟨w.heap.size, 0, none⟩ = some (.slice A ns.length ca) := Blk.cell S2.out 0
  have r1 : w2.cell? ⟨w.heap.size, 1, none⟩ = some (.slice B ps.length cb) := Blk.cell S2.out 1
  have r2 : w2.cell? ⟨w.heap.size, 2, none⟩ = some (.slice C os.length cc) := Blk.cell S2.out 2
  have f0 := Blk.free S2.out 0
  have f1 := Blk.free S2.out 1
  have f2 := Blk.free S2.out 2
  have S3 : Hid (Blk (((w2.setCell ⟨w.heap.size, 0, none⟩ (.slice A n1.length ca)).setCell ⟨w.heap.size, 1, none⟩ (.slice B p1.length cb)).setCell ⟨w.heap.size, 2, none⟩ (.slice C o1.length cc)) w.heap.size (snapC A B C ca cb cc n1 p1 o1) 26) := Lib.hid (((S2.out.set 0 _).set 1 _).set 2 _)
  have B3 : Hid (Below w.heap.size w (((w2.setCell ⟨w.heap.size, 0, none⟩ (.slice A n1.length ca)).setCell ⟨w.heap.size, 1, none⟩ (.slice B p1.length cb)).setCell ⟨w.heap.size, 2, none⟩ (.slice C o1.length cc))) := Lib.hid (((B2.out.setCell (p := ⟨w.heap.size, 0, none⟩) (Nat.le_refl _) _).setCell (p := ⟨w.heap.size, 1, none⟩) (Nat.le_refl _) _).setCell (p := ⟨w.heap.size, 2, none⟩) (Nat.le_refl _) _)
  have Q3 : Hid (Blk (((w2.setCell ⟨w.heap.size, 0, none⟩ (.slice A n1.length ca)).setCell ⟨w.heap.size, 1, none⟩ (.slice B p1.length cb)).setCell ⟨w.heap.size, 2, none⟩ (.slice C o1.length cc)) (w.heap.size + 1) #[.int .i64 c.1, .int .i64 c.2.1, .int .i64 c.2.2.1, .int .i64 c.2.2.2] 40) := Lib.hid (((Q2.out.oth hne 0 _).oth hne 1 _).oth hne 2 _)
  go_upto_region 2 with fail
  clear r0 r1 r2 f0 f1 f2
  generalize (((w2.setCell ⟨w.heap.size, 0, none⟩ (.slice A n1.length ca)).setCell ⟨w.heap.size, 1, none⟩ (.slice B p1.length cb)).setCell ⟨w.heap.size, 2, none⟩ (.slice C o1.length cc)) = W at S3 B3 Q3 ⊢
  clear S2 B2 Q2 hne
  have HW := Lib.hid (fun W' (hb : Below W.heap.size W W') => (show W'.cell? ⟨w.heap.size, 0, none⟩ = some (.slice A n1.length ca) ∧ W'.cell? ⟨w.heap.size, 1, none⟩ = some (.slice B p1.length cb) ∧ W'.cell? ⟨w.heap.size, 2, none⟩ = some (.slice C o1.length cc) ∧ W'.cell? ⟨w.heap.size + 1, 0, none⟩ = some (.int .i64 c.1) ∧ W'.cell? ⟨w.heap.size + 1, 1, none⟩ = some (.int .i64 c.2.1) ∧ W'.cell? ⟨w.heap.size + 1, 2, none⟩ = some (.int .i64 c.2.2.1) from ⟨Blk.cell (S3.out.below hb S3.out.lt) 0, Blk.cell (S3.out.below hb S3.out.lt) 1, Blk.cell (S3.out.below hb S3.out.lt) 2, Blk.cell (Q3.out.below hb Q3.out.lt) 0, Blk.cell (Q3.out.below hb Q3.out.lt) 1, Blk.cell (Q3.out.below hb Q3.out.lt) 2⟩))
  have HG : Hid (w.heap.size < W.heap.size) := Lib.hid S3.out.lt
  have HT := Lib.hid (fun W' (hb : Below W.heap.size W W') => B3.out.trans (hb.mono B3.out.size))
  have HS := Lib.hid (fun W' (hb : Below W.heap.size W W') => H.out.below (HT.out W' hb))
  have hln := H.out.ln
  have hlp := H.out.lp
  have hL := all8_few (p := p) hn12 hp30 ho12
  have HPi := Lib.hid (fun W' (hb : Below W.heap.size W W') => (HP9.out.below (HT.out W' hb)).ints)
  have KA1 := Lib.hid (fun W' (hb : Below W.heap.size W W') => ofP_any A B C P ca cb cc cp n1 p1 o1 p c.1 c.2.1 c.2.2.1 W' (HS.out W' hb) (HPi.out W' hb))
  have KA2 := Lib.hid (fun W' (hb : Below W.heap.size W W') => of8_any A B C P ca cb cc cp n1 p1 o1 p (all8 n1 p1 o1 p) (placeE n1 p1 o1 p) c.1 c.2.1 c.2.2.1 W' hL (all8_any A B C P ca cb cc cp n1 p1 o1 p _ (HS.out _ (hb.trans ((below1 W' _).mono hb.size))) (HPi.out _ (hb.trans ((below1 W' _).mono hb.size)))))
  have KB1 := Lib.hid (fun W' (hb : Below W.heap.size W W') => podP_any A B C P ca cb cc cp n1 p1 o1 p c.2.1 W' (HS.out W' hb) (HPi.out W' hb))
  have KB2 := Lib.hid (fun W' (hb : Below W.heap.size W W') => pod8_any A B C P ca cb cc cp n1 p1 o1 p (all8 n1 p1 o1 p) (placeE n1 p1 o1 p) c.2.1 W' hL (all8_any A B C P ca cb cc cp n1 p1 o1 p _ (HS.out _ (hb.trans ((below1 W' _).mono hb.size))) (HPi.out _ (hb.trans ((below1 W' _).mono hb.size)))))
  have hLB := filt_few (podC c.2.1) hL
  generalize (all8 n1 p1 o1 p).filter (podC c.2.1) = LB at KB1 KB2 hLB
  generalize findC (all8 n1 p1 o1 p) c.1 c.2.1 c.2.2.1 = R at KA1 KA2
  generalize R.getD 0 = rv at KA1 KA2
  generalize R.isSome = rb at KA1 KA2
  have hEE : (rv == rv) = true := by simp
  have hEd : decide (rv = rv) = true := by simp
  have hbb : (rb == rb) = true := by simp
  obtain ⟨z0, z1, z2, q0, q1, q2⟩ := HW.out _ (Below.refl _ W)
  clear hn12 hp30 ho12 hL H B3 S3 Q3 HP9
  go_wp2_with fail
  refine (KA1.out _ (Below.refl _ W)).mono ?_
  rintro e V2 ⟨rfl, hb2⟩
  have HB := Lib.hid (show Below W.heap.size W V2 from hb2)
  clear hb2 z0 z1 z2 q0 q1 q2 KA1
  obtain ⟨z0, z1, z2, q0, q1, q2⟩ := HW.out _ HB.out
  go_wp2_with fail
  refine (KA2.out _ HB.out).mono ?_
  rintro e V3 ⟨rfl, hb3⟩
  have HB := Lib.hid (HB.out.trans (hb3.mono HB.out.size))
  clear hb3 z0 z1 z2 q0 q1 q2 KA2
  obtain ⟨z0, z1, z2, q0, q1, q2⟩ := HW.out _ HB.out
  go_upto_region 4 with fail
  have HB : Hid (Below W.heap.size W V3.drew) := Lib.hid HB.out.drew
  clear z0 z1 z2 q0 q1 q2
  obtain ⟨z0, z1, z2, q0, q1, q2⟩ := HW.out _ HB.out
  go_region_held3 (fun w' => w'.cell? ⟨w.heap.size, 0, none⟩ = some (.slice A n1.length ca) ∧ w'.cell? ⟨w.heap.size, 1, none⟩ = some (.slice B p1.length cb) ∧ w'.cell? ⟨w.heap.size, 2, none⟩ = some (.slice C o1.length cc) ∧ w'.cell? ⟨w.heap.size + 1, 0, none⟩ = some (.int .i64 c.1) ∧ w'.cell? ⟨w.heap.size + 1, 1, none⟩ = some (.int .i64 c.2.1) ∧ w'.cell? ⟨w.heap.size + 1, 2, none⟩ = some (.int .i64 c.2.2.1)) (first | exact ⟨z0, z1, z2, q0, q1, q2⟩ | exact ⟨by assumption, by assumption, by assumption, by assumption, by assumption, by assumption⟩)
    (first
      | (go_at_call 16
         with_reducible refine (TE.out).mono ?_
         rintro e wA ⟨rfl, hbA⟩
         have HB := Lib.hid (HB.out.trans (hbA.mono HB.out.size))
         obtain ⟨z0, z1, z2, q0, q1, q2⟩ := HW.out _ HB.out
         clear hbA TE)
      | (go_at_call 23
         with_reducible refine (KB1.out _ HB.out).mono ?_
         rintro e wA ⟨vA, rfl, hoA, hbA⟩
         obtain ⟨QTA, cTA, rfl, _⟩ := La.own_slice hoA
         have TA := Lib.hid (La.own_slat hoA)
         have HB := Lib.hid (HB.out.trans (hbA.mono HB.out.size))
         obtain ⟨z0, z1, z2, q0, q1, q2⟩ := HW.out _ HB.out
         clear hoA hbA)
      | (go_at_call 24
         with_reducible refine (KB2.out _ HB.out).mono ?_
         rintro e wA ⟨vA, rfl, hoA, hbA⟩
         obtain ⟨QTB, cTB, rfl, _⟩ := La.own_slice hoA
         have TA := Lib.hid (La.SlAt.below TA.out hbA)
         have TB := Lib.hid (La.own_slat hoA)
         have TE := Lib.hid (same_cl _ _ cTA cTB LB.length LB _ rfl hLB TA.out TB.out)
         have HB := Lib.hid (HB.out.trans (hbA.mono HB.out.size))
         obtain ⟨z0, z1, z2, q0, q1, q2⟩ := HW.out _ HB.out
         clear hoA hbA)
      | (go_at_call 20
         refine (KW.out _).mono ?_
         rintro e wA ⟨rfl, hbA⟩
         have HB := Lib.hid (HB.out.trans (hbA.mono HB.out.size))
         obtain ⟨z0, z1, z2, q0, q1, q2⟩ := HW.out _ HB.out
         clear hbA))
  all_goals
    have D := Lib.hid (HT.out _ HB.out)
    go_wp2
    go_ret
    exact ⟨rfl, D.out⟩
end Go.Proofs.YtfpbdfagcfdbbaaGreat

namespace Go.Proofs.YtfpbdfagcfdbbaaGreat
open Go.ChangeShapes Go.WideShapes Go.ChangeAt Go.RowKit

theorem kcCl : Tryz.prog.cellsOf 40 = 4 := by kernel_rfl
set_option maxRecDepth 100000 in
theorem cl_row {H : Type} {enc : TypeId × Value → H} {W : World} {held : Bool} (n : Nat) (cs : List Value) (x : DataW H × List MemPlace) (h : DataW.trod enc Tryz.prog W 0 (fun _ => true) held n 40 cs = some x) : ∃ y : ClT, cs = [.int .i64 y.1, .int .i64 y.2.1, .int .i64 y.2.2.1, .int .i64 y.2.2.2] := by
  obtain ⟨xs, m, _, _, hl, hxl, hf⟩ := DataW.trod_struct Tryz.underlying40 h
  rw [kcCl] at hl
  match cs, hl, xs, hxl with
  | [c0, c1, c2, c3], _, [y0, y1, y2, y3], _ =>
    have h0 : DataW.trod enc Tryz.prog W 0 (fun _ => true) held m 3 ((([c0, c1, c2, c3] : List Value).drop 0).take (Tryz.prog.cellsOf 3)) = some y0 := hf 0 _ rfl
    have h1 : DataW.trod enc Tryz.prog W 0 (fun _ => true) held m 3 ((([c0, c1, c2, c3] : List Value).drop 1).take (Tryz.prog.cellsOf 3)) = some y1 := hf 1 _ rfl
    have h2 : DataW.trod enc Tryz.prog W 0 (fun _ => true) held m 3 ((([c0, c1, c2, c3] : List Value).drop 2).take (Tryz.prog.cellsOf 3)) = some y2 := hf 2 _ rfl
    have h3 : DataW.trod enc Tryz.prog W 0 (fun _ => true) held m 3 ((([c0, c1, c2, c3] : List Value).drop 3).take (Tryz.prog.cellsOf 3)) = some y3 := hf 3 _ rfl
    rw [kcInt] at h0 h1 h2 h3
    obtain ⟨i0, e0⟩ := int_one (enc := enc) (W := W) (held := held) (n := m) (c := c0) (x := y0) h0
    obtain ⟨i1, e1⟩ := int_one (enc := enc) (W := W) (held := held) (n := m) (c := c1) (x := y1) h1
    obtain ⟨i2, e2⟩ := int_one (enc := enc) (W := W) (held := held) (n := m) (c := c2) (x := y2) h2
    obtain ⟨i3, e3⟩ := int_one (enc := enc) (W := W) (held := held) (n := m) (c := c3) (x := y3) h3
    exact ⟨(i0, i1, i2, i3), by rw [e0, e1, e2, e3]⟩
set_option maxRecDepth 100000 in
theorem open_cl {H : Type} {enc : TypeId × Value → H} {W : World} {r : Reach} {b0 : Nat} {held : Bool} {v : Value} {d : DataW H} {p : List MemPlace}
    (hv : Value.okWide Tryz.prog W r b0 40 v) (h : DataW.Trod enc Tryz.prog W 0 (fun _ => true) held 40 v d p) :
    ∃ x : ClT, v = clV x := by
  simp only [Value.okWide, Tryz.underlying40] at hv
  obtain ⟨cs, rfl, _, _⟩ := hv
  obtain ⟨fuel, hf⟩ := h
  obtain ⟨x, e⟩ := cl_row _ _ _ hf
  refine ⟨x, ?_⟩
  have e2 : cs.toList = [.int .i64 x.1, .int .i64 x.2.1, .int .i64 x.2.2.1, .int .i64 x.2.2.2] := e
  show Value.agg cs = .agg #[.int .i64 x.1, .int .i64 x.2.1, .int .i64 x.2.2.1, .int .i64 x.2.2.2]
  congr 1
  apply Array.ext'
  rw [e2]
end Go.Proofs.YtfpbdfagcfdbbaaGreat

namespace Go.Proofs.YtfpbdfagcfdbbaaGreat
open Go.RowKit

set_option maxRecDepth 100000 in
set_option maxHeartbeats 4000000 in
theorem fitted8_any (A B C P : Option Addr) (ca cb cc cp : Nat) (ns : List NodeD) (ps : List PodD) (os : List OwnD) (l : List Int) (w : World) (h : SnapAt w A B C ca cb cc ns ps os) (hp : IntsAt w P cp l) :
    Calls Tryz.prog 25 #[snapV A B C ca cb cc ns ps os, .slice P l.length cp] w fun e w' => ∃ v, e = .returned v ∧ w'.ownsRow w.heap.size 3 1 v ps.length (intsC (fitU ns l ps.length)) ∧ Below w.heap.size w w' := by
  have H := Lib.hid h
  have HP := Lib.hid hp
  have hlp := h.lp
  have hln := h.ln
  have hll : l.length ≤ 9223372036854775807 := Nat.le_trans hp.le hp.most
  have B0 : Hid (Below w.heap.size w (w.alloc (.cells (snapC A B C ca cb cc ns ps os) 26))) := Lib.hid (below1 w _)
  have S0 : Hid (Blk (w.alloc (.cells (snapC A B C ca cb cc ns ps os) 26)) w.heap.size (snapC A B C ca cb cc ns ps os) 26) := Lib.hid (Blk.new w _ _)
  obtain ⟨i0, hi0, hz0, hz1, hz2⟩ := info_parts Qu.int_info
  clear h hp
  go_enter Tryz.func25, Tryz.ntmps25
  go_wp2_with fail
  go_loopw [6, 5] (fun i v wr => ∃ k : Nat, k ≤ ps.length ∧ i = .int .i64 k ∧ wr.ownsRow w.heap.size 3 1 v k (intsC (fitU ns l k)) ∧ Below w.heap.size w wr ∧ Blk wr w.heap.size (snapC A B C ca cb cc ns ps os) 26) (fun i _ _ => ps.length - (intOf i).toNat)
  case atStart => exact ⟨0, by omega, rfl, World.ownsRow_nil _ _ _ _, B0.out, S0.out⟩
  case round =>
    clear B0 S0
    obtain ⟨k, hk, rfl, ho, hb, hs⟩ := hrel
    have HO := Lib.hid ho
    have HB := Lib.hid hb
    have HS := Lib.hid hs
    clear ho hb hs
    have s0 : wr.cell? ⟨w.heap.size, 0, none⟩ = some (.slice A ns.length ca) := Blk.cell HS.out 0
    have s1 : wr.cell? ⟨w.heap.size, 1, none⟩ = some (.slice B ps.length cb) := Blk.cell HS.out 1
    by_cases hlt : k < ps.length
    · have E : Hid (fitU ns l (k + 1) = fitU ns l k ++ [fit1 ns l k]) := Lib.hid rfl
      have E1 : Hid (fit1 ns l k = if tpB ns (fitN ns l k) then fitN ns l k else -1) := Lib.hid rfl
      have EN := Lib.hid (fitN_in ns l k)
      have k0 : (0 : Int) ≤ (k : Int) := by omega
      have k1 : (k : Int) < (ps.length : Int) := by omega
      have hkm : Hid (k + 1 ≤ maxLen) := Lib.hid (by unfold maxLen; omega)
      have hkc : Hid ((k + 1) * 8 ≤ 140737488355328) := Lib.hid (by omega)
      go_upto_if 18 with fail
      go_cut [7] (fun v wc => v = .int .i64 (fitN ns l k) ∧ (wc = wr ∨ wc = wr.drew))
      case first =>
        by_cases hkl : k < l.length
        · obtain ⟨x, hx⟩ : ∃ x, l[k]? = some x := ⟨l[k], List.getElem?_eq_getElem hkl⟩
          have FX : Hid (fitN ns l k = x % ((ns.length : Int) + 1) - 1) := Lib.hid (by unfold fitN; rw [hx])
          obtain ⟨b, o, hA, hbl, c0⟩ := atI (HP.out.below (HB.out.mono (Nat.le_refl _))).cells hx
          subst hA
          have k2 : (k : Int) < (l.length : Int) := by omega
          have hw1 : Hid (IntKind.i64.wrap ((ns.length : Int) + 1) = (ns.length : Int) + 1) := Lib.hid (IntWalk.i64_in _ (by omega))
          have BR := Lib.hid (fun W => Qu.bring_any x ((ns.length : Int) + 1) W (by omega) (by omega))
          have S0 : wr.drew.cell? ⟨w.heap.size, 0, none⟩ = some (.slice (A) ns.length ca) := s0
          have C0 : wr.drew.cell? ⟨b, o + k, none⟩ = some (.int .i64 x) := c0
          have em0 := Int.emod_nonneg x (show (ns.length : Int) + 1 ≠ 0 by omega)
          have em1 := Int.emod_lt_of_pos x (show (0 : Int) < (ns.length : Int) + 1 by omega)
          have hw2 : Hid (IntKind.i64.wrap (x % ((ns.length : Int) + 1) - 1) = x % ((ns.length : Int) + 1) - 1) := Lib.hid (IntWalk.i64_in _ (by omega))
          go_upto_region 7 with fail
          go_region_held3 (fun w' => w'.cell? ⟨w.heap.size, 0, none⟩ = some (.slice A ns.length ca) ∧ w'.cell? ⟨b, o + k, none⟩ = some (.int .i64 x))
            (first | (with_reducible exact ⟨S0, C0⟩) | (with_reducible exact ⟨s0, c0⟩) | go_keep)
            ((go_at_call 50; (rw [hw1.out]); (with_reducible refine (BR.out _).mono ?_); rintro e w3 ⟨rfl, rfl⟩))
          all_goals
            go_wp2_with fail
            go_meet
            exact ⟨by rw [FX.out, hw2.out], .inr rfl⟩
        · have FX : Hid (fitN ns l k = -1) := Lib.hid (by unfold fitN; rw [List.getElem?_eq_none (by omega)])
          go_wp2_with fail
          go_meet
          exact ⟨by rw [FX.out], .inl rfl⟩
      case rest =>
        obtain ⟨rfl, hwc⟩ := hcut
        have HO1 : Hid (wc.ownsRow w.heap.size 3 1 u5 k (intsC (fitU ns l k))) := by
          rcases hwc with rfl | rfl
          · exact HO
          · exact Lib.hid (show World.ownsRow wr.drew _ _ _ _ _ _ from HO.out)
        have HB1 : Hid (Below w.heap.size w wc) := by
          rcases hwc with rfl | rfl
          · exact HB
          · exact Lib.hid HB.out.drew
        have HS1 : Hid (Blk wc w.heap.size (snapC A B C ca cb cc ns ps os) 26) := by
          rcases hwc with rfl | rfl
          · exact HS
          · exact Lib.hid (show Blk wr.drew _ _ _ from HS.out)
        have z0 : wc.cell? ⟨w.heap.size, 0, none⟩ = some (.slice A ns.length ca) := Blk.cell HS1.out 0
        clear HO HB HS s0 s1 hwc
        obtain ⟨N, hN⟩ : ∃ N, fitN ns l k = N := ⟨_, rfl⟩
        rw [hN] at E1 EN
        rw [hN]
        clear hN
        by_cases hn : 0 ≤ N ∧ N < (ns.length : Int)
        · obtain ⟨hn0, hn1⟩ := hn
          obtain ⟨n, rfl⟩ : ∃ n : Nat, N = (n : Int) := ⟨N.toNat, by omega⟩
          have hnl : n < ns.length := by omega
          obtain ⟨x, hx⟩ : ∃ x, ns[n]? = some x := ⟨ns[n], List.getElem?_eq_getElem hnl⟩
          obtain ⟨b, o, hA, hbl, c0, c1, c2, c3, c4, c5, c6, c7, c8, c9⟩ := atN (H.out.below HB1.out).n.cells hx
          subst hA
          have T : Hid (tpB ns (n : Int) = !x.lost) := Lib.hid (by unfold tpB; rw [Int.toNat_natCast, hx]; simp)
          clear hx c0 c1 c2 c3 c4 c5 c6 c7 c8
          obtain ⟨r, hr⟩ : ∃ r, x.lost = r := ⟨_, rfl⟩
          rw [hr] at c9 T
          clear hr
          cases r with
          | false =>
            have F : Hid (fit1 ns l k = (n : Int)) := Lib.hid (by rw [E1.out, T.out]; rfl)
            go_wp2_with (at_builtin; refine wpList_append_own _ rfl _ _ 27 rfl w.heap.size 3 i0 (.int .i64 0) 1 8 Tryz.underlying27 hi0 hz0 hz1 hz2 rfl (by decide) _ _ _ rfl (show World.ownsRow _ _ _ _ _ _ _ from HO1.out.alloc _) ⟨wc.heap.size, 0, none⟩ 1 1 [.int .i64 (n : Int)] rfl rfl ?c1 ?c2 ?c3 ?c4 ?c5 ?_)
            case c1 =>
              intro j u hj
              match j, hj with
              | 0, hj => simp at hj; subst hj; simp [Addr.add]
            case c2 => first | rfl | (intro u hu; simp at hu; subst hu; rfl)
            case c3 => have := hkm.out; omega
            case c4 => have := hkc.out; omega
            case c5 => have := HB1.out.size; simp; omega
            intro v' w2 hown' hgrow' _
            have hwz : w.heap.size < wc.heap.size := Blk.lt HS1.out
            have HO2 := Lib.hid hown'
            have HW2 := Lib.hid ((HB1.out.alloc HB1.out.size (.cells #[.int .i64 (n : Int)] 3)).grown hgrow' (by have := HB1.out.size; simp; omega) (fun j hj => own_gem HO1.out hj))
            have HS2 : Hid (Blk w2 w.heap.size (snapC (some ⟨b, o, none⟩) B C ca cb cc ns ps os) 26) := Lib.hid (Blk.kept (Blk.alloc HS1.out (.cells #[.int .i64 (n : Int)] 3)) hgrow' (fun e => by
              have he := e.symm
              rcases HO1.out.2 with ⟨hv, _⟩ | ⟨g, cap, cur, hv, hbg, hg, _⟩
              · rw [hv] at he; cases he
              · rw [hv] at he
                simp only [Value.ownBlock, Option.some.injEq] at he
                subst he
                have h1 := HS1.out
                unfold Blk at h1
                rw [hg] at h1
                cases h1))
            clear hown' hgrow'
            go_wp2
            go_roundw
            case rel =>
              refine ⟨k + 1, by omega, by go_num, ?_, HW2.out, HS2.out⟩
              rw [E.out, F.out]
              simpa [intsC] using HO2.out
            case measure => simp [intOf]; omega
          | true =>
            have F : Hid (fit1 ns l k = -1) := Lib.hid (by rw [E1.out, T.out]; rfl)
            go_wp2_with (at_builtin; refine wpList_append_own _ rfl _ _ 27 rfl w.heap.size 3 i0 (.int .i64 0) 1 8 Tryz.underlying27 hi0 hz0 hz1 hz2 rfl (by decide) _ _ _ rfl (show World.ownsRow _ _ _ _ _ _ _ from HO1.out.alloc _) ⟨wc.heap.size, 0, none⟩ 1 1 [.int .i64 (-1)] rfl rfl ?c1 ?c2 ?c3 ?c4 ?c5 ?_)
            case c1 =>
              intro j u hj
              match j, hj with
              | 0, hj => simp at hj; subst hj; simp [Addr.add]
            case c2 => first | rfl | (intro u hu; simp at hu; subst hu; rfl)
            case c3 => have := hkm.out; omega
            case c4 => have := hkc.out; omega
            case c5 => have := HB1.out.size; simp; omega
            intro v' w2 hown' hgrow' _
            have hwz : w.heap.size < wc.heap.size := Blk.lt HS1.out
            have HO2 := Lib.hid hown'
            have HW2 := Lib.hid ((HB1.out.alloc HB1.out.size (.cells #[.int .i64 (-1)] 3)).grown hgrow' (by have := HB1.out.size; simp; omega) (fun j hj => own_gem HO1.out hj))
            have HS2 : Hid (Blk w2 w.heap.size (snapC (some ⟨b, o, none⟩) B C ca cb cc ns ps os) 26) := Lib.hid (Blk.kept (Blk.alloc HS1.out (.cells #[.int .i64 (-1)] 3)) hgrow' (fun e => by
              have he := e.symm
              rcases HO1.out.2 with ⟨hv, _⟩ | ⟨g, cap, cur, hv, hbg, hg, _⟩
              · rw [hv] at he; cases he
              · rw [hv] at he
                simp only [Value.ownBlock, Option.some.injEq] at he
                subst he
                have h1 := HS1.out
                unfold Blk at h1
                rw [hg] at h1
                cases h1))
            clear hown' hgrow'
            go_wp2
            go_roundw
            case rel =>
              refine ⟨k + 1, by omega, by go_num, ?_, HW2.out, HS2.out⟩
              rw [E.out, F.out]
              simpa [intsC] using HO2.out
            case measure => simp [intOf]; omega
        · obtain rfl : N = -1 := by have := EN.out; omega
          have F : Hid (fit1 ns l k = -1) := Lib.hid (by rw [E1.out, ite_self])
          clear hn
          go_wp2_with (at_builtin; refine wpList_append_own _ rfl _ _ 27 rfl w.heap.size 3 i0 (.int .i64 0) 1 8 Tryz.underlying27 hi0 hz0 hz1 hz2 rfl (by decide) _ _ _ rfl (show World.ownsRow _ _ _ _ _ _ _ from HO1.out.alloc _) ⟨wc.heap.size, 0, none⟩ 1 1 [.int .i64 (-1)] rfl rfl ?c1 ?c2 ?c3 ?c4 ?c5 ?_)
          try case c1 =>
            intro j u hj
            match j, hj with
            | 0, hj => simp at hj; subst hj; simp [Addr.add]
          case c2 => first | rfl | (intro u hu; simp at hu; subst hu; rfl)
          case c3 => have := hkm.out; omega
          case c4 => have := hkc.out; omega
          case c5 => have := HB1.out.size; simp; omega
          intro v' w2 hown' hgrow' _
          have hwz : w.heap.size < wc.heap.size := Blk.lt HS1.out
          have HO2 := Lib.hid hown'
          have HW2 := Lib.hid ((HB1.out.alloc HB1.out.size (.cells #[.int .i64 (-1)] 3)).grown hgrow' (by have := HB1.out.size; simp; omega) (fun j hj => own_gem HO1.out hj))
          have HS2 : Hid (Blk w2 w.heap.size (snapC A B C ca cb cc ns ps os) 26) := Lib.hid (Blk.kept (Blk.alloc HS1.out (.cells #[.int .i64 (-1)] 3)) hgrow' (fun e => by
            have he := e.symm
            rcases HO1.out.2 with ⟨hv, _⟩ | ⟨g, cap, cur, hv, hbg, hg, _⟩
            · rw [hv] at he; cases he
            · rw [hv] at he
              simp only [Value.ownBlock, Option.some.injEq] at he
              subst he
              have h1 := HS1.out
              unfold Blk at h1
              rw [hg] at h1
              cases h1))
          clear hown' hgrow'
          go_wp2
          go_roundw
          case rel =>
            refine ⟨k + 1, by omega, by go_num, ?_, HW2.out, HS2.out⟩
            rw [E.out, F.out]
            simpa [intsC] using HO2.out
          case measure => simp [intOf]; omega
    · obtain rfl : k = ps.length := by omega
      go_wp2
      go_ret
      exact ⟨_, rfl, HO.out, HB.out⟩
end Go.Proofs.YtfpbdfagcfdbbaaGreat

namespace Go.Proofs.YtfpbdfagcfdbbaaGreat
open Go.RowKit

abbrev allW (n : Nat) : List Int := List.replicate n (-1)
theorem fit_nil (ns : List NodeD) : ∀ k, fitU ns [] k = allW k
  | 0 => rfl
  | k + 1 => by
    rw [fitU, fit_nil ns k]
    have : fit1 ns [] k = -1 := by
      unfold fit1 fitN
      simp [tpB]
    rw [this]
    exact (List.replicate_succ' ..).symm
theorem allW_at {n k : Nat} (h : k < n) : (allW n)[k]? = some (-1) := by
  rw [List.getElem?_replicate, if_pos h]
theorem none_place {ns : List NodeD} {ps : List PodD} {os : List OwnD} (h : checkS ns ps os = 0) : placeE ns ps os (allW ps.length) = 0 := by
  unfold placeE
  rw [if_pos h, if_pos (by simp), if_pos]
  rw [List.all_eq_true]
  intro x hx
  rw [(List.mem_replicate.1 hx).2]
  simp [okB]
theorem none_on (m n : Nat) : ∀ k, onU (allW m) (n : Int) k = []
  | 0 => rfl
  | k + 1 => by
    rw [onU, none_on m n k, if_neg]
    · rfl
    · rw [List.getElem?_replicate]
      split
      · intro e
        have := Option.some.inj e
        omega
      · intro e
        cases e
theorem none_kinds (ns : List NodeD) (ps : List PodD) (os : List OwnD) (m : Nat) : ∀ k, kindsU ns ps os (allW m) k = [] := by
  have h1 : ∀ kind i, podR ns ps os (allW m) kind i = [] := by
    intro kind i
    unfold podR
    by_cases hi : i < m
    · rw [ofU_wait (allW_at hi)]
    · have : ofU ns ps os (allW m) kind i = none := by
        unfold ofU
        rw [List.getElem?_eq_none (by simp; omega)]
      rw [this]
  have h2 : ∀ kind i, podsU ns ps os (allW m) kind i = [] := by
    intro kind i
    induction i with
    | zero => rfl
    | succ i ih => rw [podsU, ih, h1]; rfl
  intro k
  induction k with
  | zero => rfl
  | succ k ih => rw [kindsU, ih, h2]; rfl
theorem none_placed (ns : List NodeD) (ps : List PodD) (os : List OwnD) (m : Nat) (k : Int) : placedF ns ps os (allW m) k = 0 ∨ m < ps.length := by
  by_cases hm : m < ps.length
  · exact .inr hm
  left
  unfold placedF
  split
  · have : ofF ps os (allW m) k = [] := by
      unfold ofF
      split
      · unfold offL
        rw [List.filter_eq_nil_iff]
        intro y hy
        obtain ⟨z, hz, rfl⟩ := List.mem_map.1 hy
        have hmem : ∀ k, ∀ z ∈ membersU ps (by assumption : OwnD).name k, 0 ≤ z ∧ z < (k : Int) := by
          intro k
          induction k with
          | zero => intro z h; simp [membersU] at h
          | succ k ih =>
            intro z h
            rw [membersU, List.mem_append] at h
            rcases h with h | h
            · have := ih z h
              omega
            · split at h
              · split at h
                · simp at h
                  omega
                · simp at h
              · simp at h
        have := hmem ps.length z hz
        rw [allW_at (by omega)]
        simp
      · rfl
    rw [this]
    rfl
  · rfl
theorem zeros_of {l : List Int} (h0 : ∀ z ∈ l, 0 ≤ z) (hs : l.sum ≤ 0) : ∀ z ∈ l, z = 0 := by
  induction l with
  | nil => intro z h; cases h
  | cons a t ih =>
    have ha := h0 a (by simp)
    have ht : 0 ≤ t.sum := by
      have : ∀ l : List Int, (∀ z ∈ l, 0 ≤ z) → 0 ≤ l.sum := by
        intro l
        induction l with
        | nil => intro _; simp
        | cons b u ih2 =>
          intro h
          have := h b (by simp)
          have := ih2 (fun z hz => h z (by simp [hz]))
          simp only [List.sum_cons]
          omega
      exact this t (fun z hz => h0 z (by simp [hz]))
    simp only [List.sum_cons] at hs
    intro z hz
    rcases List.mem_cons.1 hz with rfl | hz
    · omega
    · exact ih (fun z hz => h0 z (by simp [hz])) (by omega) z hz
theorem fold_zero (f : Int → Int → Int) (hf : f 0 0 = 0) : ∀ (l : List Int), (∀ z ∈ l, z = 0) → l.foldl f 0 = 0
  | [], _ => rfl
  | a :: t, h => by
    rw [List.foldl_cons, h a (by simp), hf]
    exact fold_zero f hf t (fun z hz => h z (by simp [hz]))
theorem skew_zero {l : List Int} (h : ∀ z ∈ l, z = 0) {s : Int} (hs : 0 ≤ s) (hs2 : s ≤ 1000) : skewO l s = 0 := by
  unfold skewO
  split
  · rfl
  · rename_i hl
    have hh : l.headD 0 = 0 := by
      cases l with
      | nil => rfl
      | cons a t => exact h a (by simp)
    have h1 : maxL l = 0 := by
      unfold maxL
      rw [hh]
      exact fold_zero _ rfl l h
    have h2 : minL l = 0 := by
      unfold minL
      rw [hh]
      exact fold_zero _ rfl l h
    rw [h1, h2]
    unfold wrap64
    omega
theorem own_bounds {ns : List NodeD} {ps : List PodD} {os : List OwnD} (h : checkS ns ps os = 0) {x : OwnD} (hx : x ∈ os) : 0 ≤ x.min ∧ x.min ≤ 24 ∧ 0 ≤ x.skew ∧ x.skew ≤ 24 := by
  unfold checkS at h
  split at h
  · rename_i hc
    unfold clusB at hc
    simp only [Bool.and_eq_true, List.all_eq_true] at hc
    have h1 := hc.2 x hx
    unfold ownB at h1
    split at h1
    · cases h1
    · split at h1
      · simp at h1
        omega
      · simp only [Bool.and_eq_true, decide_eq_true_eq] at h1
        omega
  · cases h
/-- What each clause is where all wait. -/
def NoneOk (os : List OwnD) (c : ClT) : Prop := (c.1 = 8 ∧ ∃ (i : Nat) (o : OwnD), os[i]? = some o ∧ c.2.1 = (i : Int) ∧ c.2.2.2 = o.min) ∨ (c.1 ≠ 8 ∧ c.2.2.2 = 0)
theorem none_all {ns : List NodeD} {ps : List PodD} {os : List OwnD} (h : checkS ns ps os = 0) (hl : ps.length ≤ 1000) : ∀ c ∈ all8 ns ps os (allW ps.length), NoneOk os c := by
  have hE := none_place h
  have hcap : ∀ k, ∀ c ∈ capsU ns ps (allW ps.length) k, NoneOk os c := by
    intro k
    induction k with
    | zero => intro c hc; simp [capsU] at hc
    | succ k ih =>
      intro c hc
      rw [capsU, List.mem_append] at hc
      rcases hc with hc | hc
      · exact ih c hc
      · split at hc
        · rename_i x hx
          unfold capN at hc
          obtain ⟨q, hq, rfl⟩ := List.mem_map.1 hc
          refine .inr ⟨by show (1 : Int) ≠ 8; decide, ?_⟩
          show max 0 (wrap64 (addW ps (onU (allW ps.length) (k : Int) (allW ps.length).length) q - x.cap q)) = 0
          rw [none_on]
          have hb := cap_bounds h (List.mem_of_getElem? hx) q (by simpa using hq)
          show max 0 (wrap64 (0 - x.cap q)) = 0
          unfold wrap64
          omega
        · simp at hc
  have hsp : ∀ k, ∀ c ∈ spreadsU ns ps os (allW ps.length) k, NoneOk os c := by
    intro k
    induction k with
    | zero => intro c hc; simp [spreadsU] at hc
    | succ k ih =>
      intro c hc
      rw [spreadsU, List.mem_append] at hc
      rcases hc with hc | hc
      · exact ih c hc
      · unfold spreadR at hc
        split at hc
        · rename_i o ho
          split at hc
          · simp at hc
          · simp at hc
            subst hc
            refine .inr ⟨by show (7 : Int) ≠ 8; decide, ?_⟩
            obtain ⟨_, _, _, _, hs, _, h0⟩ := sums_of hE hl ho
            have hp : placedF ns ps os (allW ps.length) (k : Int) = 0 := by
              rcases none_placed ns ps os ps.length (k : Int) with hp | hp
              · exact hp
              · omega
            obtain ⟨_, _, o3, o4⟩ := own_bounds h (List.mem_of_getElem? ho)
            exact skew_zero (zeros_of h0 (by omega)) o3 (by omega)
        · simp at hc
  have hmn : ∀ k, ∀ c ∈ minsU ns ps os (allW ps.length) k, NoneOk os c := by
    intro k
    induction k with
    | zero => intro c hc; simp [minsU] at hc
    | succ k ih =>
      intro c hc
      rw [minsU, List.mem_append] at hc
      rcases hc with hc | hc
      · exact ih c hc
      · unfold minR at hc
        split at hc
        · rename_i o ho
          simp at hc
          subst hc
          refine .inl ⟨rfl, k, o, ho, rfl, ?_⟩
          have hp : placedF ns ps os (allW ps.length) (k : Int) = 0 := by
            rcases none_placed ns ps os ps.length (k : Int) with hp | hp
            · exact hp
            · omega
          obtain ⟨o1, o2, _, _⟩ := own_bounds h (List.mem_of_getElem? ho)
          show max 0 (wrap64 (o.min - placedF ns ps os (allW ps.length) (k : Int))) = o.min
          rw [hp]
          unfold wrap64
          omega
        · simp at hc
  intro c hc
  unfold all8 at hc
  rw [if_pos hE] at hc
  unfold allU at hc
  rw [none_kinds] at hc
  simp only [List.append_nil, List.mem_append] at hc
  rcases hc with (hc | hc) | hc
  · exact hcap _ c hc
  · exact hsp _ c hc
  · exact hmn _ c hc
theorem caps_length (ns : List NodeD) (ps : List PodD) (p : List Int) : ∀ k, k ≤ ns.length → (capsU ns ps p k).length = 5 * k
  | 0, _ => rfl
  | k + 1, h => by
    obtain ⟨x, hx⟩ : ∃ x, ns[k]? = some x := ⟨ns[k], List.getElem?_eq_getElem h⟩
    rw [capsU, List.length_append, caps_length ns ps p k (by omega), hx]
    dsimp only
    rw [capN_len]
    omega
theorem mins_length (ns : List NodeD) (ps : List PodD) (os : List OwnD) (p : List Int) : ∀ k, k ≤ os.length → (minsU ns ps os p k).length = k
  | 0, _ => rfl
  | k + 1, h => by
    obtain ⟨x, hx⟩ : ∃ x, os[k]? = some x := ⟨os[k], List.getElem?_eq_getElem h⟩
    rw [minsU, List.length_append, mins_length ns ps os p k (by omega)]
    unfold minR
    rw [hx]
    rfl
theorem all8_least {ns : List NodeD} {ps : List PodD} {os : List OwnD} {p : List Int} (hE : placeE ns ps os p = 0) : 5 * ns.length + os.length ≤ (all8 ns ps os p).length := by
  unfold all8
  rw [if_pos hE]
  unfold allU
  simp only [List.length_append]
  rw [caps_length ns ps p ns.length (Nat.le_refl _), mins_length ns ps os p os.length (Nat.le_refl _)]
  omega
end Go.Proofs.YtfpbdfagcfdbbaaGreat

namespace Go.Proofs.YtfpbdfagcfdbbaaGreat
open Go.RowKit

set_option maxRecDepth 100000 in
set_option maxHeartbeats 16000000 in
theorem clauseNone_law (A B C : Option Addr) (ca cb cc : Nat) (ns : List NodeD) (ps : List PodD) (os : List OwnD) (w : World) (h : SnapIn w A B C ca cb cc ns ps os) :
    Calls Tryz.prog 6 #[snapV A B C ca cb cc ns ps os] w fun e w' => e = .returned (.bool true) ∧ Below w.heap.size w w' := by
  have B0 : Hid (Below w.heap.size w (w.alloc (.cells (snapC A B C ca cb cc ns ps os) 26))) := Lib.hid (below1 w _)
  have S0 : Hid (Blk (w.alloc (.cells (snapC A B C ca cb cc ns ps os) 26)) w.heap.size (snapC A B C ca cb cc ns ps os) 26) := Lib.hid (Blk.new w _ _)
  have H := Lib.hid (h.take)
  have KW := Lib.hid works8_any
  have KC := Lib.hid (cut8_any A B C ca cb cc ns ps os _ (h.below8 B0.out))
  have hn12 : (ns.take 12).length ≤ 12 := List.length_take_le _ _
  have hp30 : (ps.take 30).length ≤ 30 := List.length_take_le _ _
  have ho12 : (os.take 12).length ≤ 12 := List.length_take_le _ _
  generalize ns.take 12 = n1 at H KC hn12
  generalize ps.take 30 = p1 at H KC hp30
  generalize os.take 12 = o1 at H KC ho12
  clear h
  go_enter Tryz.func6, Tryz.ntmps6
  go_wp2_with fail
  refine (KC.out).mono ?_
  rintro e w2 ⟨rfl, hb2⟩
  have S2 : Hid (Blk w2 w.heap.size (snapC A B C ca cb cc ns ps os) 26) := Lib.hid (S0.out.below hb2 S0.out.lt)
  have B2 : Hid (Below w.heap.size w w2) := Lib.hid (B0.out.trans (hb2.mono B0.out.size))
  clear hb2 S0 B0 KC
  have r0 : w2.cell? ⟨w.heap.size, 0, none⟩ = some (.slice A ns.length ca) := Blk.cell S2.out 0
  have r1 : w2.cell? ⟨w.heap.size, 1, none⟩ = some (.slice B ps.length cb) := Blk.cell S2.out 1
  have r2 : w2.cell? ⟨w.heap.size, 2, none⟩ = some (.slice C os.length cc) := Blk.cell S2.out 2
  have f0 := Blk.free S2.out 0
  have f1 := Blk.free S2.out 1
  have f2 := Blk.free S2.out 2
  have S3 : Hid (Blk (((w2.setCell ⟨w.heap.size, 0, none⟩ (.slice A n1.length ca)).setCell ⟨w.heap.size, 1, none⟩ (.slice B p1.length cb)).setCell ⟨w.heap.size, 2, none⟩ (.slice C o1.length cc)) w.heap.size (snapC A B C ca cb cc n1 p1 o1) 26) := Lib.hid (((S2.out.set 0 _).set 1 _).set 2 _)
  have B3 : Hid (Below w.heap.size w (((w2.setCell ⟨w.heap.size, 0, none⟩ (.slice A n1.length ca)).setCell ⟨w.heap.size, 1, none⟩ (.slice B p1.length cb)).setCell ⟨w.heap.size, 2, none⟩ (.slice C o1.length cc))) := Lib.hid (((B2.out.setCell (p := ⟨w.heap.size, 0, none⟩) (Nat.le_refl _) _).setCell (p := ⟨w.heap.size, 1, none⟩) (Nat.le_refl _) _).setCell (p := ⟨w.heap.size, 2, none⟩) (Nat.le_refl _) _)
  go_upto_region 2 with fail
  clear r0 r1 r2 f0 f1 f2
  generalize (((w2.setCell ⟨w.heap.size, 0, none⟩ (.slice A n1.length ca)).setCell ⟨w.heap.size, 1, none⟩ (.slice B p1.length cb)).setCell ⟨w.heap.size, 2, none⟩ (.slice C o1.length cc)) = W at S3 B3 ⊢
  clear S2 B2
  have HW := Lib.hid (fun W' (hb : Below W.heap.size W W') => (show W'.cell? ⟨w.heap.size, 0, none⟩ = some (.slice A n1.length ca) ∧ W'.cell? ⟨w.heap.size, 1, none⟩ = some (.slice B p1.length cb) ∧ W'.cell? ⟨w.heap.size, 2, none⟩ = some (.slice C o1.length cc) from ⟨Blk.cell (S3.out.below hb S3.out.lt) 0, Blk.cell (S3.out.below hb S3.out.lt) 1, Blk.cell (S3.out.below hb S3.out.lt) 2⟩))
  have HG : Hid (w.heap.size < W.heap.size) := Lib.hid S3.out.lt
  have HT := Lib.hid (fun W' (hb : Below W.heap.size W W') => B3.out.trans (hb.mono B3.out.size))
  have HS := Lib.hid (fun W' (hb : Below W.heap.size W W') => H.out.below (HT.out W' hb))
  have hln := H.out.ln
  have hlp := H.out.lp
  have hlo := H.out.lo
  have hln12 := hn12
  have hlo12 := ho12
  have K1 := Lib.hid (fun W' (hb : Below W.heap.size W W') => fitted8_any A B C none ca cb cc 0 n1 p1 o1 [] W' (HS.out W' hb) ⟨fun j y hj => by simp [intsC] at hj, by simp, by omega⟩)
  rw [fit_nil] at K1
  have hL := all8_few (p := allW p1.length) hn12 hp30 ho12
  have KA := Lib.hid (fun W' (hb : Below W.heap.size W W') (Q : Option Addr) (cq : Nat) (hq : IntsAt W' Q cq (allW p1.length)) => allP_any A B C Q ca cb cc cq n1 p1 o1 (allW p1.length) W' (HS.out W' hb) hq)
  have KPC := Lib.hid (fun W' (hb : Below W.heap.size W W') (Q : Option Addr) (cq : Nat) (hq : IntsAt W' Q cq (allW p1.length)) => pcheck_any A B C Q ca cb cc cq n1 p1 o1 (allW p1.length) W' (HS.out W' hb) hq)
  have HOK : Hid (placeE n1 p1 o1 (allW p1.length) = 0 → ∀ c ∈ all8 n1 p1 o1 (allW p1.length), NoneOk o1 c) := Lib.hid (fun hE => none_all (placeE_chk hE) hlp)
  have HLE : Hid (placeE n1 p1 o1 (allW p1.length) = 0 → 5 * n1.length + o1.length ≤ (all8 n1 p1 o1 (allW p1.length)).length) := Lib.hid all8_least
  have HWl : Hid ((allW p1.length).length = p1.length) := Lib.hid (List.length_replicate ..)
  generalize all8 n1 p1 o1 (allW p1.length) = L at KA hL HOK HLE
  generalize placeE n1 p1 o1 (allW p1.length) = E at KA KPC HOK HLE
  generalize allW p1.length = p at K1 KA KPC HWl
  obtain ⟨z0, z1, z2⟩ := HW.out _ (Below.refl _ W)
  clear hn12 hp30 ho12 H B3 S3
  go_wp2_with fail
  refine (K1.out _ (Below.refl _ W)).mono ?_
  rintro e V ⟨v, rfl, ho, hb⟩
  obtain ⟨Q, cq, rfl, _⟩ := La.own_slice ho
  rw [← HWl.out] at ho
  have IQ := Lib.hid (IntsAt.own ho)
  have HB := Lib.hid (show Below W.heap.size W V from hb)
  clear ho hb K1 z0 z1 z2
  obtain ⟨z0, z1, z2⟩ := HW.out _ HB.out
  have KA1 := Lib.hid (KA.out _ HB.out Q cq IQ.out)
  rw [HWl.out] at KA1
  go_wp2_with fail
  refine (KA1.out).mono ?_
  rintro e V2 ⟨va, rfl, hoa, hb2⟩
  obtain ⟨Ga, ca2, rfl, _⟩ := La.own_slice hoa
  have TA := Lib.hid (La.own_slat hoa)
  have IQ := Lib.hid (IQ.out.below hb2)
  have HB := Lib.hid (HB.out.trans (hb2.mono HB.out.size))
  clear hoa hb2 z0 z1 z2 KA1 KA
  obtain ⟨z0, z1, z2⟩ := HW.out _ HB.out
  by_cases hE : E = 0
  case neg =>
    have hne : (E != 0) = true := by simpa using hE
    have hnd : decide (E = 0) = false := decide_eq_false hE
    have hnb : (E == 0) = false := by simpa using hE
    have hEE : (E == E) = true := by simp
    have hEd : decide (E = E) = true := by simp
    have KP1 := Lib.hid (KPC.out _ HB.out Q cq IQ.out)
    rw [HWl.out] at KP1
    clear KPC HOK HLE hE
    go_wp2_with fail
    refine (KP1.out).mono ?_
    rintro e V3 ⟨rfl, hb3⟩
    have HB := Lib.hid (HB.out.trans (hb3.mono HB.out.size))
    clear hb3 KP1 z0 z1 z2
    go_wp2_with fail
    refine (KW.out _).mono ?_
    rintro e V4 ⟨rfl, hb4⟩
    have D := Lib.hid (HT.out _ (HB.out.trans (hb4.mono HB.out.size)))
    clear hb4
    go_wp2
    go_ret
    exact ⟨rfl, D.out⟩
  have HOK2 := Lib.hid (HOK.out hE)
  have HLE2 := Lib.hid (HLE.out hE)
  clear HOK HLE
  have HO1 := Lib.hid (fun W' (hb : Below W.heap.size W W') => (HS.out W' hb).o)
  subst hE
  clear KPC IQ
  go_wp2_with fail
  clear z0 z1 z2
  have HB2 := HB
  clear HB
  go_loopw [6] (fun i wr => ∃ k : Nat, k ≤ L.length ∧ i = .int .i64 (k : Int) ∧ Below V2.heap.size V2 wr) (fun i _ => L.length - (intOf i).toNat)
  case atStart => exact ⟨0, by omega, rfl, Below.refl _ _⟩
  case round =>
    obtain ⟨k, hk, rfl, hbr⟩ := hrel
    have HBR := Lib.hid hbr
    have HB3 := Lib.hid (HB2.out.trans (hbr.mono HB2.out.size))
    clear hbr
    obtain ⟨z0, z1, z2⟩ := HW.out _ HB3.out
    by_cases hlt : k < L.length
    case neg =>
      obtain rfl : k = L.length := by omega
      have hle := HLE2.out
      have hw1 : IntKind.i64.wrap (5 * (n1.length : Int)) = 5 * (n1.length : Int) := IntWalk.i64_in _ (by omega)
      have hw2 : IntKind.i64.wrap (5 * (n1.length : Int) + (o1.length : Int)) = 5 * (n1.length : Int) + (o1.length : Int) := IntWalk.i64_in _ (by omega)
      have hge : 5 * (n1.length : Int) + (o1.length : Int) ≤ (L.length : Int) := by omega
      go_wp2_with fail
      refine (KW.out _).mono ?_
      rintro e V4 ⟨rfl, hb4⟩
      have D := Lib.hid (HT.out _ (HB3.out.trans (hb4.mono HB3.out.size)))
      clear hb4
      go_wp2
      go_ret
      exact ⟨rfl, D.out⟩
    obtain ⟨y, hy⟩ : ∃ y, L[k]? = some y := ⟨L[k], List.getElem?_eq_getElem hlt⟩
    obtain ⟨g, o, hG, hbl, c0, c1, c2, c3⟩ := atC (La.SlAt.below TA.out HBR.out) hy
    subst hG
    have k0 : (0 : Int) ≤ (k : Int) := by omega
    have k1 : (k : Int) < (L.length : Int) := by omega
    have hok := HOK2.out y (List.mem_of_getElem? hy)
    clear hy
    rcases hok with ⟨h8, i, x, hx, hA, hby⟩ | ⟨h8, hby⟩
    · obtain ⟨bo, oo, hAo, _, d0, d1, _⟩ := atO (HO1.out _ HB3.out) hx
      subst hAo
      have i0 : (0 : Int) ≤ (i : Int) := by omega
      have i1 : (i : Int) < (o1.length : Int) := by have := (List.getElem?_eq_some_iff.1 hx).1; omega
      rw [h8] at c0
      rw [hA] at c1
      rw [hby] at c3
      have hmm : (x.min != x.min) = false := by simp
      have i2 : ¬ ((i : Int) < 0) := by omega
      have i3 : ¬ ((o1.length : Int) ≤ (i : Int)) := by omega
      clear hx h8 hA hby
      go_upto_region 11 with fail
      go_quiet (fail)
      go_wp2_with fail
      (try go_quiet (fail))
      (try go_wp2_with fail)
      go_roundw
      case rel => exact ⟨k + 1, by omega, by go_num, by first | exact HBR.out | exact HBR.out.drew | exact below_drewN HBR.out _ | exact below_drewN (below_drewN HBR.out _) _⟩
      case measure => simp [intOf]; omega
    · have h8b : (y.1 == 8) = false := by simpa using h8
      have h8d : decide (y.1 = 8) = false := decide_eq_false h8
      rw [hby] at c3
      clear hby
      go_wp2_with fail
      go_roundw
      case rel => exact ⟨k + 1, by omega, by go_num, by first | exact HBR.out | exact HBR.out.drew | exact below_drewN HBR.out _ | exact below_drewN (below_drewN HBR.out _) _⟩
      case measure => simp [intOf]; omega
end Go.Proofs.YtfpbdfagcfdbbaaGreat
