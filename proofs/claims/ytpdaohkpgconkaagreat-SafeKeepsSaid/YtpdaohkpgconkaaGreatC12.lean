/- Whether a placement is safe, what it makes worse, by how much it is broken, by the document's words: Safe, Worse, Sum. Contracts. Condition: the cluster and the numbers lie in memory. A placement in which all wait breaks none but ClauseMin; each owner's by its Min. In numbers only. If a pod is taken off its node, no clause of nodes, of terms, of taints, of those apart, of doubles is broken by more than ahead. In numbers only. What a step makes worse is about its pod, its node, its pod's owner, or about a pod that asks for somebody near, or is of the same owner. In numbers only. Clauses are broken by little: their sum is nothing just if none is broken. In numbers only. -/
import Derived.Test.YtpdaohkpgconkaaGreatC11

namespace Go.Proofs.YtpdaohkpgconkaaGreat
open Go.RowKit Go.Maps Go.Shelf

set_option maxRecDepth 100000 in
set_option maxHeartbeats 8000000 in
theorem worse9_any (A B C P Q : Option Addr) (ca cb cc cp cq : Nat) (ns : List NodeD) (ps : List PodD) (os : List OwnD) (p q : List Int) (hl : (all8 ns ps os p).length ≤ 1000) (hlq : (all8 ns ps os q).length ≤ 1000) (w : World) (h : SnapAt w A B C ca cb cc ns ps os) (hp : IntsAt w P cp p) (hq : IntsAt w Q cq q) :
    Calls Tryz.prog 24 #[snapV A B C ca cb cc ns ps os, .slice P p.length cp, .slice Q q.length cq] w fun e w' => ∃ v, e = .returned (.tuple #[v, .int .i64 (worseE ns ps os p q)]) ∧ w'.ownsRow w.heap.size 47 4 v (worseF ns ps os p q).length (cells4 (worseF ns ps os p q)) ∧ Below w.heap.size w w' := by
  have B0 : Hid (Below w.heap.size w (w.alloc (.cells (snapC A B C ca cb cc ns ps os) 26))) := Lib.hid (below1 w _)
  have S0 : Hid (Blk (w.alloc (.cells (snapC A B C ca cb cc ns ps os) 26)) w.heap.size (snapC A B C ca cb cc ns ps os) 26) := Lib.hid (Blk.new w _ _)
  have HA := Lib.hid (all8_any A B C P ca cb cc cp ns ps os p _ (h.below B0.out) (hp.below B0.out))
  have HB := Lib.hid (fun W' (hb : Below w.heap.size w W') => all8_any A B C Q ca cb cc cq ns ps os q W' (h.below hb) (hq.below hb))
  obtain ⟨i0, hi0, hz0, hz1, hz2⟩ := info_parts cl_info
  have HF : Hid (worseF ns ps os p q = if placeE ns ps os p = 0 then (all8 ns ps os q).filter (worC (all8 ns ps os p)) else []) := Lib.hid rfl
  have HF0 : Hid (placeE ns ps os q ≠ 0 → all8 ns ps os q = []) := Lib.hid (fun h => by unfold all8; rw [if_neg h])
  have HE : Hid (worseE ns ps os p q = if placeE ns ps os p = 0 then placeE ns ps os q else placeE ns ps os p) := Lib.hid rfl
  generalize worseF ns ps os p q = R at HF ⊢
  generalize worseE ns ps os p q = e9 at HE ⊢
  generalize all8 ns ps os p = L at HA HF hl
  generalize all8 ns ps os q = l at HB HF HF0 hlq
  generalize placeE ns ps os p = Ep at HA HF HE
  generalize placeE ns ps os q = Eq at HB HE HF0
  clear h hp hq
  go_enter Tryz.func24, Tryz.ntmps24
  go_wp2_with fail
  refine (HA.out).mono ?_
  rintro e w1 ⟨vA, rfl, hoA, hb⟩
  obtain ⟨Ga, cga, rfl, _⟩ := La.own_slice hoA
  have OA := Lib.hid (La.own_slat hoA)
  have B1 := Lib.hid (B0.out.trans (hb.mono B0.out.size))
  have S1 := Lib.hid (S0.out.below hb S0.out.lt)
  clear hoA hb HA B0 S0
  by_cases hE : Ep = 0
  case neg =>
    have hne : (Ep != 0) = true := by simpa using hE
    have hR : R = [] := by rw [HF.out, if_neg hE]
    have h9 : e9 = Ep := by rw [HE.out, if_neg hE]
    clear hE HF HE
    go_wp2
    go_ret2
    subst hR h9
    exact ⟨_, rfl, World.ownsRow_nil _ _ _ _, B1.out⟩
  subst hE
  have h9 : Hid (e9 = Eq) := Lib.hid (by rw [HE.out, if_pos rfl])
  have hR : Hid (R = l.filter (worC L)) := Lib.hid (by rw [HF.out, if_pos rfl])
  clear HF HE
  have KB := Lib.hid (HB.out _ B1.out)
  have z0 : w1.cell? ⟨w.heap.size, 0, none⟩ = some (.slice A ns.length ca) := Blk.cell S1.out 0
  have z1 : w1.cell? ⟨w.heap.size, 1, none⟩ = some (.slice B ps.length cb) := Blk.cell S1.out 1
  have z2 : w1.cell? ⟨w.heap.size, 2, none⟩ = some (.slice C os.length cc) := Blk.cell S1.out 2
  go_wp2_with fail
  refine (KB.out).mono ?_
  rintro e w2 ⟨v, rfl, ho, hb⟩
  obtain ⟨Gl, cg, rfl, _⟩ := La.own_slice ho
  have O2 := Lib.hid (La.own_slat ho)
  have OA2 := Lib.hid (La.SlAt.below OA.out hb)
  have B2 := Lib.hid (B1.out.trans (hb.mono B1.out.size))
  clear ho hb KB HB B1 S1 OA z0 z1 z2
  by_cases hE : Eq = 0
  case neg =>
    have hne : (Eq != 0) = true := by simpa using hE
    have hR2 : R = [] := by rw [hR.out, HF0.out hE]; rfl
    have h92 := h9.out
    clear hE hR h9 HF0
    go_wp2
    go_ret2
    subst hR2 h92
    exact ⟨_, rfl, World.ownsRow_nil _ _ _ _, B2.out⟩
  subst hE
  clear HF0
  have KW := Lib.hid (fun (W' : World) (hb : Below w2.heap.size w2 W') (y : ClT) => find9_any Ga cga L y W' hl (La.SlAt.below OA2.out hb))
  clear OA2
  go_wp2_with fail
  go_loopw [12, 13] (fun v i wr => ∃ k : Nat, k ≤ l.length ∧ i = .int .i64 k ∧ wr.ownsRow w2.heap.size 47 4 v ((l.take k).filter (worC L)).length (cells4 ((l.take k).filter (worC L))) ∧ Below w2.heap.size w2 wr) (fun _ i _ => l.length - (intOf i).toNat)
  case atStart => exact ⟨0, by omega, rfl, World.ownsRow_nil _ _ _ _, Below.refl _ _⟩
  case round =>
    obtain ⟨k, hk, rfl, ho, hb⟩ := hrel
    have HO := Lib.hid ho
    have HB := Lib.hid hb
    clear ho hb
    by_cases hlt : k < l.length
    case neg =>
      obtain rfl : k = l.length := by omega
      rw [List.take_length, ← hR.out] at HO
      have h92 := h9.out
      clear h9
      go_wp2
      go_ret2
      subst h92
      exact ⟨_, rfl, own_base HO.out B2.out.size, B2.out.trans (HB.out.mono B2.out.size)⟩
    obtain ⟨y, hy⟩ : ∃ y, l[k]? = some y := ⟨l[k], List.getElem?_eq_getElem hlt⟩
    obtain ⟨gy, oy, hGy, hbl, _⟩ := atC (La.SlAt.below O2.out HB.out) hy
    subst hGy
    have k0 : (0 : Int) ≤ (k : Int) := by omega
    have k1 : (k : Int) < (l.length : Int) := by omega
    have HF := Lib.hid (filt_snoc (worC L) hy)
    have hfl : ((l.take k).filter (worC L)).length ≤ k := Nat.le_trans (List.length_filter_le _ _) (by rw [List.length_take]; omega)
    have HX := Lib.hid (fun (W' : World) (hb : Below w2.heap.size w2 W') => (by
      obtain ⟨g', o', hG', _, x0, x1, x2, x3⟩ := atC (La.SlAt.below O2.out hb) hy
      cases hG'
      exact ⟨x0, x1, x2, x3⟩ : W'.cell? ⟨gy, oy + k * 4, none⟩ = some (.int .i64 y.1) ∧ W'.cell? ⟨gy, oy + k * 4 + 1, none⟩ = some (.int .i64 y.2.1) ∧ W'.cell? ⟨gy, oy + k * 4 + 2, none⟩ = some (.int .i64 y.2.2.1) ∧ W'.cell? ⟨gy, oy + k * 4 + 3, none⟩ = some (.int .i64 y.2.2.2)))
    have KY := Lib.hid (fun W' hb => KW.out W' hb y)
    have Hwc : Hid (worC L y = decide ((findC L y.1 y.2.1 y.2.2.1).getD 0 < y.2.2.2)) := Lib.hid rfl
    clear hy
    generalize (l.take k).filter (worC L) = M at HO HF hfl
    generalize worC L y = wb at Hwc HF
    generalize (findC L y.1 y.2.1 y.2.2.1).getD 0 = fz at Hwc KY
    go_upto_region 11 with fail
    have HD : Hid (Below w2.heap.size w2 wr.drew) := Lib.hid HB.out.drew
    obtain ⟨c0, c1, c2, c3⟩ := HX.out _ HD.out
    have hcase : (fz < y.2.2.2 ∧ wb = true) ∨ (y.2.2.2 ≤ fz ∧ wb = false) := by
      by_cases h : fz < y.2.2.2
      · exact .inl ⟨h, by rw [Hwc.out]; exact decide_eq_true h⟩
      · exact .inr ⟨by omega, by rw [Hwc.out]; exact decide_eq_false h⟩
    clear Hwc
    have Hcase := Lib.hid hcase
    have hgt : decide (fz < y.2.2.2) = wb := by
      rcases hcase with ⟨h, e⟩ | ⟨h, e⟩
      · rw [e]; exact decide_eq_true h
      · rw [e]; exact decide_eq_false (by omega)
    clear hcase
    have HGr := Lib.hid (fun W' (hb : Below wr.heap.size wr W') => La.own_below HO.out hb)
    go_cut [49] (fun v wc => v = .bool wb ∧ Below wr.heap.size wr wc)
    case first =>
      have HR0 : Hid (Below wr.heap.size wr wr.drew) := Lib.hid ((Below.refl _ wr).drew)
      go_region_held3 (fun w' => w'.cell? ⟨gy, oy + k * 4, none⟩ = some (.int .i64 y.1) ∧ w'.cell? ⟨gy, oy + k * 4 + 1, none⟩ = some (.int .i64 y.2.1) ∧ w'.cell? ⟨gy, oy + k * 4 + 2, none⟩ = some (.int .i64 y.2.2.1) ∧ w'.cell? ⟨gy, oy + k * 4 + 3, none⟩ = some (.int .i64 y.2.2.2))
        (first | exact ⟨c0, c1, c2, c3⟩ | exact ⟨by assumption, by assumption, by assumption, by assumption⟩)
        (first
          | (go_at_call 58
             refine (KY.out _ HD.out).mono ?_
             rintro e wA ⟨rfl, hbA⟩
             have HDA := Lib.hid (HD.out.trans (hbA.mono HD.out.size))
             have HRA := Lib.hid (HR0.out.trans (hbA.mono HR0.out.size))
             obtain ⟨y0, y1, y2, y3⟩ := HX.out _ HDA.out
             clear hbA))
      all_goals
        (try go_wp2_with fail)
        go_meet
        exact ⟨by first | rfl | exact congrArg Value.bool hgt | (simp only [hgt]), HRA.out⟩
    case' rest => obtain ⟨rfl, hbc⟩ := hcut
    have HO9 := Lib.hid (HGr.out _ hbc)
    have HB9 := Lib.hid (HB.out.trans (hbc.mono HB.out.size))
    clear hbc c0 c1 c2 c3 HD HO HB hgt KY
    obtain ⟨c0, c1, c2, c3⟩ := HX.out _ HB9.out
    rcases Hcase.out with ⟨_, rfl⟩ | ⟨_, rfl⟩
    · have HE : Hid ((l.take (k + 1)).filter (worC L) = M ++ [y]) := Lib.hid (by rw [HF.out]; simp)
      clear HF Hcase HGr
      go_wp2_with (at_builtin; refine wpList_append_own _ rfl _ _ 48 rfl w2.heap.size 47 i0 (.agg #[.int .i64 0, .int .i64 0, .int .i64 0, .int .i64 0]) 4 32 Tryz.underlying48 hi0 hz0 hz1 hz2 rfl (by decide) _ _ _ rfl (show World.ownsRow _ _ _ _ _ _ _ from HO9.out.alloc _) ⟨wc.heap.size, 0, none⟩ 1 1 [.int .i64 y.1, .int .i64 y.2.1, .int .i64 y.2.2.1, .int .i64 y.2.2.2] rfl rfl ?c1z ?c2z ?c3z ?c4z ?c5z ?_)
      case c1z =>
        intro j u hj
        match j, hj with
        | 0, hj => simp at hj; subst hj; simp [Addr.add]
        | 1, hj => simp at hj; subst hj; simp [Addr.add]
        | 2, hj => simp at hj; subst hj; simp [Addr.add]
        | 3, hj => simp at hj; subst hj; simp [Addr.add]
      case c2z => first | rfl | (intro u hu; simp at hu; rcases hu with rfl | rfl | rfl | rfl <;> rfl)
      case c3z => unfold maxLen; omega
      case c4z => omega
      case c5z => have := HB9.out.size; simp; omega
      intro v4 w4 hown4 hgrow4 _
      have P4 := Lib.hid hown4
      have D4 := Lib.hid ((HB9.out.alloc HB9.out.size (.cells #[.int .i64 y.1, .int .i64 y.2.1, .int .i64 y.2.2.1, .int .i64 y.2.2.2] 47)).grown hgrow4 (by have := HB9.out.size; simp; omega) (fun j hj => own_gem HO9.out hj))
      clear hown4 hgrow4 c0 c1 c2 c3
      go_wp2_with fail
      go_roundw
      case rel =>
        refine ⟨k + 1, by omega, by go_num, ?_, D4.out⟩
        rw [HE.out, List.length_append, cells4_snoc]
        exact P4.out
      case measure => simp [intOf]; omega
    · have HE : Hid ((l.take (k + 1)).filter (worC L) = M) := Lib.hid (by rw [HF.out]; simp)
      clear HF Hcase HGr
      go_wp2_with fail
      go_roundw
      case rel => exact ⟨k + 1, by omega, by go_num, by rw [HE.out]; exact HO9.out, HB9.out⟩
      case measure => simp [intOf]; omega

theorem sum9_snoc : ∀ (l : List ClT) (c : ClT), sum9 (l ++ [c]) = sum9 l + wt9 c
  | [], c => by simp [sum9]
  | d :: t, c => by
    rw [List.cons_append, sum9, sum9, sum9_snoc t c]
    omega
set_option maxRecDepth 100000 in
set_option maxHeartbeats 4000000 in
theorem sum9_any (A B C P : Option Addr) (ca cb cc cp : Nat) (ns : List NodeD) (ps : List PodD) (os : List OwnD) (p : List Int) (hl : (all8 ns ps os p).length ≤ 1000) (w : World) (h : SnapAt w A B C ca cb cc ns ps os) (hp : IntsAt w P cp p) :
    Calls Tryz.prog 26 #[snapV A B C ca cb cc ns ps os, .slice P p.length cp] w fun e w' => e = .returned (.tuple #[.int .i64 (sumF ns ps os p), .int .i64 (placeE ns ps os p)]) ∧ Below w.heap.size w w' := by
  have B0 : Hid (Below w.heap.size w (w.alloc (.cells (snapC A B C ca cb cc ns ps os) 26))) := Lib.hid (below1 w _)
  have HA := Lib.hid (all8_any A B C P ca cb cc cp ns ps os p _ (h.below B0.out) (hp.below B0.out))
  have HS : Hid (sumF ns ps os p = wrap64 (sum9 (all8 ns ps os p))) := Lib.hid rfl
  generalize sumF ns ps os p = R at HS ⊢
  generalize all8 ns ps os p = l at HA HS hl
  generalize placeE ns ps os p = E at HA ⊢
  clear h hp
  go_enter Tryz.func26, Tryz.ntmps26
  go_wp2_with fail
  refine (HA.out).mono ?_
  rintro e w1 ⟨v, rfl, ho, hb⟩
  obtain ⟨G, cg, rfl, _⟩ := La.own_slice ho
  have O1 := Lib.hid (La.own_slat ho)
  have B1 := Lib.hid (B0.out.trans (hb.mono B0.out.size))
  clear ho hb HA B0
  go_wp2_with fail
  go_loopw [8, 9] (fun v i wr => ∃ k : Nat, k ≤ l.length ∧ i = .int .i64 k ∧ v = .int .i64 (wrap64 (sum9 (l.take k))) ∧ Below w1.heap.size w1 wr) (fun _ i _ => l.length - (intOf i).toNat)
  case atStart => exact ⟨0, by omega, rfl, (congrArg (Value.int .i64) (show wrap64 (sum9 (l.take 0)) = 0 from IntWalk.wrap64_in 0 (by omega))).symm, Below.refl _ _⟩
  case round =>
    obtain ⟨k, hk, rfl, rfl, hb⟩ := hrel
    have HB := Lib.hid hb
    clear hb
    by_cases hlt : k < l.length
    case neg =>
      obtain rfl : k = l.length := by omega
      rw [List.take_length, ← HS.out]
      go_wp2
      go_ret2
      exact ⟨rfl, B1.out.trans (HB.out.mono B1.out.size)⟩
    obtain ⟨y, hy⟩ : ∃ y, l[k]? = some y := ⟨l[k], List.getElem?_eq_getElem hlt⟩
    obtain ⟨g, o, hG, hbl, c0, c1, c2, c3⟩ := atC (La.SlAt.below O1.out HB.out) hy
    subst hG
    have k0 : (0 : Int) ≤ (k : Int) := by omega
    have k1 : (k : Int) < (l.length : Int) := by omega
    have HSn : Hid (wrap64 (sum9 (l.take (k + 1))) = wrap64 (wrap64 (sum9 (l.take k)) + wt9 y)) := Lib.hid (by
      rw [List.take_add_one, hy]
      show wrap64 (sum9 (l.take k ++ [y])) = _
      rw [sum9_snoc, wrap_step])
    have Hwt : Hid (wt9 y = if y.1 = 1 then min y.2.2.2 1 else y.2.2.2) := Lib.hid rfl
    clear hy
    generalize wrap64 (sum9 (l.take k)) = s at HSn ⊢
    generalize hs' : wrap64 (sum9 (l.take (k + 1))) = s' at HSn
    have Hs' := Lib.hid hs'
    clear hs'
    by_cases h1 : y.1 = 1
    · have HT : Hid (s' = wrap64 (s + min y.2.2.2 1)) := Lib.hid (by rw [HSn.out, Hwt.out, if_pos h1])
      rw [h1] at c0
      clear h1 HSn Hwt
      go_wp2_with fail
      go_roundw
      case rel => exact ⟨k + 1, by omega, by go_num, by rw [Hs'.out, HT.out], HB.out⟩
      case measure => simp [intOf]; omega
    · have HT : Hid (s' = wrap64 (s + y.2.2.2)) := Lib.hid (by rw [HSn.out, Hwt.out, if_neg h1])
      have h1b : (y.1 == 1) = false := by simpa using h1
      have h1d : decide (y.1 = 1) = false := decide_eq_false h1
      clear h1 HSn Hwt
      go_wp2_with fail
      go_roundw
      case rel => exact ⟨k + 1, by omega, by go_num, by rw [Hs'.out, HT.out], HB.out⟩
      case measure => simp [intOf]; omega

set_option maxRecDepth 100000 in
set_option maxHeartbeats 2000000 in
theorem safe9_any (A B C P : Option Addr) (ca cb cc cp : Nat) (ns : List NodeD) (ps : List PodD) (os : List OwnD) (p : List Int) (hl : (all8 ns ps os p).length ≤ 1000) (hz : placeE ns ps os p = 0 → (sumF ns ps os p = 0 ↔ (all8 ns ps os p).filter brokC = [])) (w : World) (h : SnapAt w A B C ca cb cc ns ps os) (hp : IntsAt w P cp p) :
    Calls Tryz.prog 22 #[snapV A B C ca cb cc ns ps os, .slice P p.length cp] w fun e w' => e = .returned (.tuple #[.bool (safeB ns ps os p), .int .i64 (placeE ns ps os p)]) ∧ Below w.heap.size w w' := by
  have B0 : Hid (Below w.heap.size w (w.alloc (.cells (snapC A B C ca cb cc ns ps os) 26))) := Lib.hid (below1 w _)
  have HA := Lib.hid (sum9_any A B C P ca cb cc cp ns ps os p hl _ (h.below B0.out) (hp.below B0.out))
  have HS : Hid (safeB ns ps os p = (decide (placeE ns ps os p = 0) && decide (sumF ns ps os p = 0))) := Lib.hid (by
    unfold safeB
    by_cases hE : placeE ns ps os p = 0
    · rw [decide_eq_true hE, Bool.true_and, Bool.true_and]
      have := hz hE
      cases hf : (all8 ns ps os p).filter brokC with
      | nil => rw [decide_eq_true (this.2 hf)]; rfl
      | cons a t => rw [decide_eq_false (fun e => by have := this.1 e; rw [hf] at this; cases this)]; rfl
    · rw [decide_eq_false hE]
      rfl)
  generalize safeB ns ps os p = R at HS ⊢
  generalize sumF ns ps os p = s at HA HS
  generalize placeE ns ps os p = E at HA HS ⊢
  clear h hp hl hz
  go_enter Tryz.func22, Tryz.ntmps22
  go_wp2_with fail
  refine (HA.out).mono ?_
  rintro e w1 ⟨rfl, hb⟩
  have B1 := Lib.hid (B0.out.trans (hb.mono B0.out.size))
  clear hb HA B0
  by_cases hE : E = 0
  case neg =>
    have hne : (E == 0) = false := by simpa using hE
    have hnd : decide (E = 0) = false := decide_eq_false hE
    have hR : R = false := by rw [HS.out, hnd]; rfl
    clear hE HS
    go_wp2
    go_ret2
    subst hR
    exact ⟨rfl, B1.out⟩
  subst hE
  by_cases hs : s = 0
  · have hR : R = true := by rw [HS.out, decide_eq_true hs]; rfl
    clear HS
    subst hs
    go_wp2
    go_ret2
    subst hR
    exact ⟨rfl, B1.out⟩
  · have hR : R = false := by rw [HS.out, decide_eq_false hs]; rfl
    have h1 : (s == 0) = false := by simpa using hs
    have h2 : decide (s = 0) = false := decide_eq_false hs
    clear HS hs
    go_wp2
    go_ret2
    subst hR
    exact ⟨rfl, B1.out⟩
end Go.Proofs.YtpdaohkpgconkaaGreat

namespace Go.Proofs.YtpdaohkpgconkaaGreat
open Go.RowKit

theorem own_bounds {ns : List NodeD} {ps : List PodD} {os : List OwnD} (h : checkS ns ps os = 0) {x : OwnD} (hx : x ∈ os) : 0 ≤ x.min ∧ x.min ≤ 24 ∧ 0 ≤ x.skew ∧ x.skew ≤ 24 := by
  unfold checkS at h
  split at h
  · rename_i hc
    unfold clusB at hc
    simp only [Bool.and_eq_true, List.all_eq_true] at hc
    have h1 := hc.2 x hx
    unfold ownB at h1
    split at h1
    · cases h1
    · split at h1
      · simp at h1
        omega
      · simp only [Bool.and_eq_true, decide_eq_true_eq] at h1
        omega
  · cases h
end Go.Proofs.YtpdaohkpgconkaaGreat

namespace Go.Proofs.YtpdaohkpgconkaaGreat
open Go.RowKit

section
variable {ns : List NodeD} {ps : List PodD} {os : List OwnD} {p : List Int} {i : Nat}
theorem off_at (hi : i < p.length) (k : Nat) : (p.set i (-1))[k]? = if k = i then some (-1) else p[k]? := by
  rw [List.getElem?_set]
  by_cases h : i = k
  · subst h
    simp [hi]
  · rw [if_neg h, if_neg (fun e => h e.symm)]
theorem off_place (hE : placeE ns ps os p = 0) : placeE ns ps os (p.set i (-1)) = 0 := by
  obtain ⟨h1, h2, h3⟩ := placeE_zero hE
  unfold placeE
  rw [if_pos h1, if_pos (by simpa using h2), if_pos]
  rw [List.all_eq_true]
  intro x hx
  rcases List.mem_or_eq_of_mem_set hx with h | rfl
  · exact h3 x h
  · simp [okB]
theorem reqAt_pos {j : Nat} (h : ∀ x ∈ ps, 0 ≤ x.req j ∧ x.req j ≤ 1099511627776) (y : Nat) : 0 ≤ reqAt ps j y := by
  unfold reqAt
  split
  · rename_i x hx
    exact (h x (List.mem_of_getElem? hx)).1
  · omega
theorem off_req (hi : i < p.length) {n : Int} (hn : 0 ≤ n) {j : Nat} (h : ∀ x ∈ ps, 0 ≤ x.req j ∧ x.req j ≤ 1099511627776) : ∀ k, reqS ps j (onU (p.set i (-1)) n k) ≤ reqS ps j (onU p n k)
  | 0 => Int.le_refl _
  | k + 1 => by
    have ih := off_req hi hn h k
    rw [onU, onU, reqS_append, reqS_append, off_at hi]
    have hz : reqS ps j [] = 0 := rfl
    have h1 : reqS ps j [k] = reqAt ps j k := by simp [reqS]
    have hp := reqAt_pos h k
    by_cases hk : k = i
    · rw [if_pos hk, if_neg (by intro e; have := Option.some.inj e; omega), hz]
      split
      · rw [h1]
        omega
      · rw [hz]
        omega
    · rw [if_neg hk]
      omega
theorem off_addW (hi : i < p.length) {n : Int} (hn : 0 ≤ n) {j : Nat} (h : ∀ x ∈ ps, 0 ≤ x.req j ∧ x.req j ≤ 1099511627776) (hl : p.length ≤ 1000) : addW ps (onU (p.set i (-1)) n (p.set i (-1)).length) j ≤ addW ps (onU p n p.length) j := by
  rw [List.length_set]
  have h1 := off_req hi hn h p.length
  have h2 := reqS_bounds h (onU (p.set i (-1)) n p.length)
  have h3 := reqS_bounds h (onU p n p.length)
  have l2 := onU_len (p.set i (-1)) n p.length
  have l3 := onU_len p n p.length
  rw [addW_is, addW_is]
  unfold wrap64
  omega
theorem off_about (hi : i < p.length) {pod : Nat} (hpod : pod ≠ i) (topo : List UInt8) (terms : List T3) (others : Bool) (k : Nat) (h : aboutB ns ps (p.set i (-1)) pod topo terms others k = true) : aboutB ns ps p pod topo terms others k = true := by
  unfold aboutB at h ⊢
  rw [off_at hi, off_at hi, if_neg hpod] at h
  by_cases hk : k = i
  · rw [if_pos hk] at h
    exfalso
    revert h
    cases p[pod]? with
    | none => simp
    | some xp =>
      cases ps[k]? with
      | none => simp
      | some y => simp
  · rwa [if_neg hk] at h
theorem off_aboutU (hi : i < p.length) {pod : Nat} (hpod : pod ≠ i) (topo : List UInt8) (terms : List T3) (others : Bool) : ∀ k, aboutU ns ps (p.set i (-1)) pod topo terms others k ≤ aboutU ns ps p pod topo terms others k
  | 0 => Nat.le_refl _
  | k + 1 => by
    have ih := off_aboutU hi hpod topo terms others k
    rw [aboutU, aboutU]
    by_cases h : aboutB ns ps (p.set i (-1)) pod topo terms others k = true
    · rw [if_pos h, if_pos (off_about hi hpod topo terms others k h)]
      omega
    · rw [if_neg h]
      split <;> omega
theorem off_doub (hi : i < p.length) {pod q : Nat} (hpod : pod ≠ i) (hq : p[pod]? = some (q : Int)) : ∀ k, doubU ps (p.set i (-1)) pod k ≤ doubU ps p pod k
  | 0 => Nat.le_refl _
  | k + 1 => by
    have ih := off_doub hi hpod hq k
    rw [doubU, doubU, off_at hi, off_at hi, if_neg hpod]
    by_cases hk : k = i
    · rw [if_pos hk, if_neg (by
        rintro ⟨_, h, _⟩
        rw [hq] at h
        have := Option.some.inj h
        omega)]
      split <;> omega
    · rw [if_neg hk]
      omega
/-- A clause about a pod that is still there: it was there, and by no less. -/
theorem off_of (hi : i < p.length) (kind j : Nat) (h4 : kind ≠ 4) {b : Nat} (hb : ofU ns ps os (p.set i (-1)) kind j = some b) : ∃ b', ofU ns ps os p kind j = some b' ∧ b ≤ b' := by
  have hne : j ≠ i := by
    rintro rfl
    rw [ofU_wait (by rw [off_at hi, if_pos rfl])] at hb
    cases hb
  have hqj : (p.set i (-1))[j]? = p[j]? := by rw [off_at hi, if_neg hne]
  unfold ofU at hb
  rw [hqj] at hb
  cases hpj : p[j]? with
  | none => rw [hpj] at hb; cases hb
  | some v =>
    rw [hpj] at hb
    cases hx : ps[j]? with
    | none => rw [hx] at hb; cases hb
    | some x =>
      rw [hx] at hb
      dsimp only at hb
      by_cases hv : v < 0
      · rw [if_pos hv] at hb
        cases hb
      · rw [if_neg hv] at hb
        obtain ⟨q, rfl⟩ : ∃ q : Nat, v = (q : Int) := ⟨v.toNat, by omega⟩
        rw [Int.toNat_natCast] at hb
        cases hn : ns[q]? with
        | none => rw [hn] at hb; cases hb
        | some n =>
          rw [hn] at hb
          dsimp only at hb
          rw [ofU_at hpj hx hn]
          split at hb
          · rename_i e
            rw [if_pos e]
            exact ⟨_, rfl, by rw [← Option.some.inj hb]; exact Nat.le_refl _⟩
          · rename_i e2
            rw [if_neg e2]
            split at hb
            · rename_i e
              rw [if_pos e]
              exact ⟨_, rfl, by rw [← Option.some.inj hb]; exact Nat.le_refl _⟩
            · rename_i e3
              rw [if_neg e3, if_neg h4]
              try rw [if_neg h4] at hb
              split at hb
              · rename_i e
                rw [if_pos e]
                split at hb
                · cases hb
                · rename_i ha
                  rw [if_neg ha]
                  refine ⟨_, rfl, ?_⟩
                  rw [← Option.some.inj hb, List.length_set]
                  exact off_aboutU hi hne x.ap x.apm true p.length
              · rename_i e5
                rw [if_neg e5]
                split at hb
                · cases hb
                · rename_i ho
                  rw [if_neg ho]
                  split at hb
                  · rename_i hs
                    rw [if_pos hs]
                    refine ⟨_, rfl, ?_⟩
                    rw [← Option.some.inj hb, List.length_set]
                    exact off_doub hi hne hpj p.length
                  · cases hb
theorem off_some (hi : i < p.length) (kind j : Nat) : (ofU ns ps os (p.set i (-1)) kind j).isSome = true → (ofU ns ps os p kind j).isSome = true := by
  intro h
  by_cases h4 : kind = 4
  · subst h4
    have hne : j ≠ i := by
      rintro rfl
      rw [ofU_wait (by rw [off_at hi, if_pos rfl])] at h
      cases h
    have hqj : (p.set i (-1))[j]? = p[j]? := by rw [off_at hi, if_neg hne]
    unfold ofU at h ⊢
    rw [hqj] at h
    revert h
    cases p[j]? with
    | none => exact fun h => h
    | some v =>
      cases ps[j]? with
      | none => exact fun h => h
      | some x =>
        dsimp only
        split
        · exact fun h => h
        · cases ns[v.toNat]? with
          | none => exact fun h => h
          | some n =>
            simp only [show ¬ (4 = 2) by decide, show ¬ (4 = 3) by decide, if_false, if_true]
            by_cases hw : x.wt = []
            · rw [if_pos hw]
              exact fun h => by cases h
            · rw [if_neg hw, if_neg hw]
              exact fun _ => rfl
  · obtain ⟨b, hb⟩ := Option.isSome_iff_exists.1 h
    obtain ⟨b', hb', _⟩ := off_of hi kind j h4 hb
    rw [hb']
    rfl
theorem off_pods_len (hi : i < p.length) (kind : Nat) : ∀ k, (podsU ns ps os (p.set i (-1)) kind k).length ≤ (podsU ns ps os p kind k).length
  | 0 => Nat.le_refl _
  | k + 1 => by
    have ih := off_pods_len hi kind k
    rw [podsU, podsU, List.length_append, List.length_append]
    have : (podR ns ps os (p.set i (-1)) kind k).length ≤ (podR ns ps os p kind k).length := by
      unfold podR
      cases h : ofU ns ps os (p.set i (-1)) kind k with
      | none => exact Nat.zero_le _
      | some b =>
        have := off_some (ns := ns) (ps := ps) (os := os) hi kind k (by rw [h]; rfl)
        obtain ⟨b', hb'⟩ := Option.isSome_iff_exists.1 this
        rw [hb']
        exact Nat.le_refl _
    omega
theorem off_kinds_len (hi : i < p.length) : ∀ k, (kindsU ns ps os (p.set i (-1)) k).length ≤ (kindsU ns ps os p k).length
  | 0 => Nat.le_refl _
  | k + 1 => by
    have ih := off_kinds_len hi k
    have := off_pods_len (ns := ns) (ps := ps) (os := os) hi (k + 2) p.length
    rw [kindsU, kindsU, List.length_append, List.length_append, List.length_set]
    omega
theorem spreads_len_eq (p r : List Int) : ∀ k, (spreadsU ns ps os p k).length = (spreadsU ns ps os r k).length
  | 0 => rfl
  | k + 1 => by
    rw [spreadsU, spreadsU, List.length_append, List.length_append, spreads_len_eq p r k]
    unfold spreadR
    split
    · split <;> rfl
    · rfl
theorem mins_len_eq (p r : List Int) : ∀ k, (minsU ns ps os p k).length = (minsU ns ps os r k).length
  | 0 => rfl
  | k + 1 => by
    rw [minsU, minsU, List.length_append, List.length_append, mins_len_eq p r k]
    unfold minR
    split <;> rfl
theorem caps_len_eq (p r : List Int) : ∀ k, (capsU ns ps p k).length = (capsU ns ps r k).length
  | 0 => rfl
  | k + 1 => by
    rw [capsU, capsU, List.length_append, List.length_append, caps_len_eq p r k]
    split
    · rw [capN_len, capN_len]
    · rfl
theorem off_len (hE : placeE ns ps os p = 0) (hi : i < p.length) : (all8 ns ps os (p.set i (-1))).length ≤ (all8 ns ps os p).length := by
  unfold all8
  rw [if_pos hE, if_pos (off_place hE)]
  unfold allU
  simp only [List.length_append]
  have := off_kinds_len (ns := ns) (ps := ps) (os := os) hi 5
  have := spreads_len_eq (ns := ns) (ps := ps) (os := os) (p.set i (-1)) p os.length
  have := mins_len_eq (ns := ns) (ps := ps) (os := os) (p.set i (-1)) p os.length
  have := caps_len_eq (ns := ns) (ps := ps) (p.set i (-1)) p ns.length
  omega
theorem off_caps (hE : placeE ns ps os p = 0) (hi : i < p.length) (hl : p.length ≤ 1000) : ∀ k, k ≤ ns.length → ∀ c ∈ capsU ns ps (p.set i (-1)) k, ∃ b', (c.1, c.2.1, c.2.2.1, b') ∈ capsU ns ps p k ∧ c.2.2.2 ≤ b'
  | 0, _, c, h => by simp [capsU] at h
  | k + 1, hk, c, h => by
    obtain ⟨x, hx⟩ : ∃ x, ns[k]? = some x := ⟨ns[k], List.getElem?_eq_getElem hk⟩
    rw [capsU, hx, List.mem_append] at h
    rcases h with h | h
    · obtain ⟨b', h1, h2⟩ := off_caps hE hi hl k (by omega) c h
      exact ⟨b', by rw [capsU]; exact List.mem_append_left _ h1, h2⟩
    · dsimp only at h
      unfold capN at h
      obtain ⟨q, hq, rfl⟩ := List.mem_map.1 h
      have hq5 : q < 5 := by simpa using hq
      have hck := placeE_chk hE
      have hrb := fun (y : PodD) (hy : y ∈ ps) => req_bounds hck hy q hq5
      have ha := off_addW (ps := ps) hi (show (0 : Int) ≤ (k : Int) by omega) hrb hl
      have hcb := cap_bounds hck (List.mem_of_getElem? hx) q hq5
      have hb1 := addW_bounds hrb (onU (p.set i (-1)) (k : Int) (p.set i (-1)).length) (Nat.le_trans (onU_len _ _ _) (by rw [List.length_set]; exact hl))
      have hb2 := addW_bounds hrb (onU p (k : Int) p.length) (Nat.le_trans (onU_len _ _ _) hl)
      refine ⟨max 0 (wrap64 (addW ps (onU p (k : Int) p.length) q - x.cap q)), ?_, ?_⟩
      · rw [capsU, hx]
        exact List.mem_append_right _ (List.mem_map.2 ⟨q, hq, rfl⟩)
      · show max 0 (wrap64 (addW ps (onU (p.set i (-1)) (k : Int) (p.set i (-1)).length) q - x.cap q)) ≤ max 0 (wrap64 (addW ps (onU p (k : Int) p.length) q - x.cap q))
        unfold wrap64
        omega
theorem off_pods (hi : i < p.length) (kind : Nat) (h4 : kind ≠ 4) : ∀ k, ∀ c ∈ podsU ns ps os (p.set i (-1)) kind k, ∃ b', (c.1, c.2.1, c.2.2.1, b') ∈ podsU ns ps os p kind k ∧ c.2.2.2 ≤ b'
  | 0, c, h => by simp [podsU] at h
  | k + 1, c, h => by
    rw [podsU, List.mem_append] at h
    rcases h with h | h
    · obtain ⟨b', h1, h2⟩ := off_pods hi kind h4 k c h
      exact ⟨b', by rw [podsU]; exact List.mem_append_left _ h1, h2⟩
    · unfold podR at h
      cases hb : ofU ns ps os (p.set i (-1)) kind k with
      | none => rw [hb] at h; simp at h
      | some b =>
        rw [hb] at h
        simp at h
        subst h
        obtain ⟨b', hb', hle⟩ := off_of hi kind k h4 hb
        refine ⟨(b' : Int), ?_, ?_⟩
        · rw [podsU]
          refine List.mem_append_right _ ?_
          unfold podR
          rw [hb']
          simp
        · show (b : Int) ≤ (b' : Int)
          omega
theorem off_kinds (hi : i < p.length) : ∀ k, ∀ c ∈ kindsU ns ps os (p.set i (-1)) k, c.1 ≠ 4 → ∃ b', (c.1, c.2.1, c.2.2.1, b') ∈ kindsU ns ps os p k ∧ c.2.2.2 ≤ b'
  | 0, c, h, _ => by simp [kindsU] at h
  | k + 1, c, h, h4 => by
    rw [kindsU, List.mem_append] at h
    rcases h with h | h
    · obtain ⟨b', h1, h2⟩ := off_kinds hi k c h h4
      exact ⟨b', by rw [kindsU]; exact List.mem_append_left _ h1, h2⟩
    · have hk := pods_kind ns ps os (p.set i (-1)) (k + 2) _ c h
      rw [List.length_set] at h
      obtain ⟨b', h1, h2⟩ := off_pods hi (k + 2) (by omega) p.length c h
      exact ⟨b', by rw [kindsU]; exact List.mem_append_right _ h1, h2⟩
/-- What is found of it ahead is no less. -/
theorem off_find (hE : placeE ns ps os p = 0) (hi : i < p.length) (hl : p.length ≤ 1000) {c : ClT} (hc : c ∈ all8 ns ps os (p.set i (-1))) (h4 : c.1 ≠ 4) (h7 : c.1 ≠ 7) (h8 : c.1 ≠ 8) : c.2.2.2 ≤ (findC (all8 ns ps os p) c.1 c.2.1 c.2.2.1).getD 0 := by
  have key : ∃ b', (c.1, c.2.1, c.2.2.1, b') ∈ all8 ns ps os p ∧ c.2.2.2 ≤ b' := by
    unfold all8 at hc ⊢
    rw [if_pos (off_place hE)] at hc
    rw [if_pos hE]
    unfold allU at hc ⊢
    simp only [List.mem_append] at hc ⊢
    rcases hc with ((hc | hc) | hc) | hc
    · obtain ⟨b', h1, h2⟩ := off_caps hE hi hl _ (Nat.le_refl _) c hc
      exact ⟨b', .inl (.inl (.inl h1)), h2⟩
    · obtain ⟨b', h1, h2⟩ := off_kinds hi 5 c hc h4
      exact ⟨b', .inl (.inl (.inr h1)), h2⟩
    · have := spreads_kind ns ps os _ _ c hc
      omega
    · have := mins_kind ns ps os _ _ c hc
      omega
  obtain ⟨b', hm, hle⟩ := key
  have := find_rise (all8_rise ns ps os p) hm
  dsimp only at this
  rw [this]
  exact hle
end
end Go.Proofs.YtpdaohkpgconkaaGreat

namespace Go.Proofs.YtpdaohkpgconkaaGreat
open Go.RowKit


section
variable {ns : List NodeD} {ps : List PodD} {os : List OwnD} {p : List Int} {i : Nat} {y z : Int}
theorem set_at (hi : i < p.length) (k : Nat) : (p.set i z)[k]? = if k = i then some z else p[k]? := by
  rw [List.getElem?_set]
  by_cases h : i = k
  · subst h
    simp [hi]
  · rw [if_neg h, if_neg (fun e => h e.symm)]
theorem set_on (hi : i < p.length) (hy : p[i]? = some y) {n : Int} (h1 : y ≠ n) (h2 : z ≠ n) : ∀ k, onU (p.set i z) n k = onU p n k
  | 0 => rfl
  | k + 1 => by
    rw [onU, onU, set_on hi hy h1 h2 k, set_at hi]
    by_cases hk : k = i
    · subst hk
      rw [if_pos rfl, hy, if_neg (fun e => h2 (Option.some.inj e)), if_neg (fun e => h1 (Option.some.inj e))]
    · rw [if_neg hk]
theorem set_caps (hi : i < p.length) (hy : p[i]? = some y) : ∀ k, ∀ c ∈ capsU ns ps (p.set i z) k, y ≠ c.2.1 → z ≠ c.2.1 → c ∈ capsU ns ps p k
  | 0, c, h, _, _ => by simp [capsU] at h
  | k + 1, c, h, h1, h2 => by
    rw [capsU, List.mem_append] at h ⊢
    rcases h with h | h
    · exact .inl (set_caps hi hy k c h h1 h2)
    · right
      cases hx : ns[k]? with
      | none => rw [hx] at h; simp at h
      | some x =>
        rw [hx] at h
        dsimp only at h ⊢
        unfold capN at h ⊢
        obtain ⟨q, hq, rfl⟩ := List.mem_map.1 h
        refine List.mem_map.2 ⟨q, hq, ?_⟩
        have h1 : y ≠ (k : Int) := h1
        have h2 : z ≠ (k : Int) := h2
        unfold capC
        rw [List.length_set, set_on hi hy h1 h2]
theorem set_doub (hi : i < p.length) {a : Nat} (ha : a ≠ i) (ho : (ps[i]?).map (·.owner) ≠ (ps[a]?).map (·.owner)) : ∀ k, doubU ps (p.set i z) a k = doubU ps p a k
  | 0 => rfl
  | k + 1 => by
    rw [doubU, doubU, set_doub hi ha ho k, set_at hi, set_at hi, if_neg ha]
    by_cases hk : k = i
    · subst hk
      rw [if_neg (fun h => ho h.2.2), if_neg (fun h => ho h.2.2)]
    · rw [if_neg hk]
theorem set_of (hi : i < p.length) {kind a : Nat} (ha : a ≠ i) (hk : kind = 2 ∨ kind = 3 ∨ (kind ≠ 2 ∧ kind ≠ 3 ∧ kind ≠ 4 ∧ kind ≠ 5 ∧ (ps[i]?).map (·.owner) ≠ (ps[a]?).map (·.owner))) : ofU ns ps os (p.set i z) kind a = ofU ns ps os p kind a := by
  unfold ofU
  rw [set_at hi, if_neg ha]
  cases p[a]? with
  | none => rfl
  | some q =>
    cases ps[a]? with
    | none => rfl
    | some x =>
      dsimp only
      by_cases hq : q < 0
      · rw [if_pos hq, if_pos hq]
      · rw [if_neg hq, if_neg hq]
        cases ns[q.toNat]? with
        | none => rfl
        | some n =>
          dsimp only
          rcases hk with h | h | ⟨h2, h3, h4, h5, ho⟩
          · rw [if_pos h, if_pos h]
          · subst h
            rfl
          · rw [if_neg h2, if_neg h3, if_neg h4, if_neg h5, if_neg h2, if_neg h3, if_neg h4, if_neg h5, List.length_set]
            by_cases hpi : ∃ x', ps[a]? = some x'
            · rw [set_doub hi ha ho]
            · rw [set_doub hi ha ho]
theorem of_near {kind a b : Nat} (hk : kind = 4 ∨ kind = 5) (h : ofU ns ps os p kind a = some b) : ∃ x, ps[a]? = some x ∧ (x.wt ≠ [] ∨ x.ap ≠ []) := by
  unfold ofU at h
  cases hp : p[a]? with
  | none => rw [hp] at h; cases h
  | some q =>
    rw [hp] at h
    cases hx : ps[a]? with
    | none => rw [hx] at h; cases h
    | some x =>
      rw [hx] at h
      dsimp only at h
      refine ⟨x, rfl, ?_⟩
      by_cases hq : q < 0
      · rw [if_pos hq] at h; cases h
      · rw [if_neg hq] at h
        cases hn : ns[q.toNat]? with
        | none => rw [hn] at h; cases h
        | some n =>
          rw [hn] at h
          dsimp only at h
          rcases hk with rfl | rfl
          · left
            intro e
            simp [e] at h
          · right
            intro e
            simp [e] at h
theorem pods_at {kind : Nat} : ∀ k, ∀ c ∈ podsU ns ps os p kind k, ∃ a b : Nat, a < k ∧ ofU ns ps os p kind a = some b ∧ c = ((kind : Int), (a : Int), 0, (b : Int))
  | 0, c, h => by simp [podsU] at h
  | k + 1, c, h => by
    rw [podsU, List.mem_append] at h
    rcases h with h | h
    · obtain ⟨a, b, h1, h2, h3⟩ := pods_at k c h
      exact ⟨a, b, by omega, h2, h3⟩
    · unfold podR at h
      cases hb : ofU ns ps os p kind k with
      | none => rw [hb] at h; simp at h
      | some b =>
        rw [hb] at h
        simp at h
        exact ⟨k, b, by omega, hb, h⟩
theorem pods_in {kind a b : Nat} (hb : ofU ns ps os p kind a = some b) : ∀ k, a < k → ((kind : Int), (a : Int), (0 : Int), (b : Int)) ∈ podsU ns ps os p kind k
  | 0, h => by omega
  | k + 1, h => by
    rw [podsU, List.mem_append]
    by_cases e : a = k
    · subst e
      right
      unfold podR
      rw [hb]
      simp
    · exact .inl (pods_in hb k (by omega))
theorem kinds_at : ∀ k, ∀ c ∈ kindsU ns ps os p k, ∃ kind a b : Nat, 2 ≤ kind ∧ kind < k + 2 ∧ a < p.length ∧ ofU ns ps os p kind a = some b ∧ c = ((kind : Int), (a : Int), 0, (b : Int))
  | 0, c, h => by simp [kindsU] at h
  | k + 1, c, h => by
    rw [kindsU, List.mem_append] at h
    rcases h with h | h
    · obtain ⟨kind, a, b, h1, h2, h3⟩ := kinds_at k c h
      exact ⟨kind, a, b, h1, by omega, h3⟩
    · obtain ⟨a, b, h1, h2, h3⟩ := pods_at p.length c h
      exact ⟨k + 2, a, b, by omega, by omega, h1, h2, h3⟩
theorem kinds_in {kind a b : Nat} (h2 : 2 ≤ kind) (ha : a < p.length) (hb : ofU ns ps os p kind a = some b) : ∀ k, kind < k + 2 → ((kind : Int), (a : Int), (0 : Int), (b : Int)) ∈ kindsU ns ps os p k
  | 0, h => by omega
  | k + 1, h => by
    rw [kindsU, List.mem_append]
    by_cases e : kind = k + 2
    · subst e
      exact .inr (pods_in hb _ ha)
    · exact .inl (kinds_in h2 ha hb k (by omega))
theorem members_not {name : List UInt8} {x : PodD} (hx : ps[i]? = some x) (hne : x.owner ≠ name) : ∀ k, ∀ m ∈ membersU ps name k, m.toNat ≠ i
  | 0, m, h => by simp [membersU] at h
  | k + 1, m, h => by
    rw [membersU, List.mem_append] at h
    rcases h with h | h
    · exact members_not hx hne k m h
    · cases hk : ps[k]? with
      | none => rw [hk] at h; simp at h
      | some u =>
        rw [hk] at h
        dsimp only at h
        by_cases e : u.owner = name
        · rw [if_pos e] at h
          simp at h
          subst h
          intro e'
          have : k = i := by simpa using e'
          subst this
          rw [hx] at hk
          cases hk
          exact hne e
        · rw [if_neg e] at h
          simp at h
theorem set_off (hi : i < p.length) {M : List Int} (h : ∀ m ∈ M, m.toNat ≠ i) : offL (p.set i z) M = offL p M := by
  unfold offL
  refine List.filter_congr fun k hk => ?_
  obtain ⟨m, hm, rfl⟩ := List.mem_map.1 hk
  rw [set_at hi, if_neg (h m hm)]
theorem off_mem {M : List Int} {k : Nat} (h : k ∈ offL p M) : ∃ m ∈ M, m.toNat = k := by
  unfold offL at h
  obtain ⟨m, hm, e⟩ := List.mem_map.1 (List.mem_filter.1 h).1
  exact ⟨m, hm, e⟩
theorem set_spreadD (hi : i < p.length) (key : List UInt8) : ∀ (ys : List Nat) (D : DataW Unit), (∀ k ∈ ys, k ≠ i) → ys.foldl (spreadS ns key (p.set i z)) D = ys.foldl (spreadS ns key p) D
  | [], _, _ => rfl
  | k :: t, D, h => by
    have e : spreadS ns key (p.set i z) D k = spreadS ns key p D k := by
      unfold spreadS
      rw [set_at hi, if_neg (h k (by simp))]
    rw [List.foldl_cons, List.foldl_cons, e]
    exact set_spreadD hi key t _ (fun x hx => h x (by simp [hx]))
theorem set_spreadF (hE : placeE ns ps os p = 0) (hE2 : placeE ns ps os (p.set i z) = 0) (hi : i < p.length) {x : PodD} (hx : ps[i]? = some x) {k : Nat} {o : OwnD} (ho : os[k]? = some o) (hne : x.owner ≠ o.name) : spreadF ns ps os (p.set i z) (k : Int) = spreadF ns ps os p (k : Int) := by
  unfold spreadF ownerB
  rw [hE, hE2, Int.toNat_natCast, ho]
  dsimp only
  have hM := members_not (k := ps.length) hx hne
  unfold membersF
  rw [set_off hi hM]
  have e : spreadD ns o.topo (p.set i z) (offL p (membersU ps o.name ps.length)) = spreadD ns o.topo p (offL p (membersU ps o.name ps.length)) := by
    unfold spreadD
    refine set_spreadD hi _ _ _ fun k hk => ?_
    obtain ⟨m, hm, e⟩ := off_mem hk
    rw [← e]
    exact hM m hm
  rw [e]
theorem set_placedF (hE : placeE ns ps os p = 0) (hE2 : placeE ns ps os (p.set i z) = 0) (hi : i < p.length) {x : PodD} (hx : ps[i]? = some x) {k : Nat} {o : OwnD} (ho : os[k]? = some o) (hne : x.owner ≠ o.name) : placedF ns ps os (p.set i z) (k : Int) = placedF ns ps os p (k : Int) := by
  unfold placedF ownerB ofF
  rw [hE, hE2, Int.toNat_natCast, ho]
  dsimp only
  unfold membersF
  rw [set_off hi (members_not hx hne ps.length)]
theorem spreads_at : ∀ k, ∀ c ∈ spreadsU ns ps os p k, ∃ (a : Nat) (o : OwnD), a < k ∧ os[a]? = some o ∧ o.topo ≠ [] ∧ c = (7, (a : Int), 0, skewO (spreadF ns ps os p (a : Int)) o.skew)
  | 0, c, h => by simp [spreadsU] at h
  | k + 1, c, h => by
    rw [spreadsU, List.mem_append] at h
    rcases h with h | h
    · obtain ⟨a, o, h1, h2⟩ := spreads_at k c h
      exact ⟨a, o, by omega, h2⟩
    · unfold spreadR at h
      cases ho : os[k]? with
      | none => rw [ho] at h; simp at h
      | some o =>
        rw [ho] at h
        dsimp only at h
        by_cases ht : o.topo = []
        · rw [if_pos ht] at h; simp at h
        · rw [if_neg ht] at h
          simp at h
          exact ⟨k, o, by omega, ho, ht, h⟩
theorem spreads_in {a : Nat} {o : OwnD} (ho : os[a]? = some o) (ht : o.topo ≠ []) : ∀ k, a < k → ((7 : Int), (a : Int), (0 : Int), skewO (spreadF ns ps os p (a : Int)) o.skew) ∈ spreadsU ns ps os p k
  | 0, h => by omega
  | k + 1, h => by
    rw [spreadsU, List.mem_append]
    by_cases e : a = k
    · subst e
      right
      unfold spreadR
      rw [ho]
      dsimp only
      rw [if_neg ht]
      simp
    · exact .inl (spreads_in ho ht k (by omega))
theorem mins_at : ∀ k, ∀ c ∈ minsU ns ps os p k, ∃ (a : Nat) (o : OwnD), a < k ∧ os[a]? = some o ∧ c = (8, (a : Int), 0, max 0 (wrap64 (o.min - placedF ns ps os p (a : Int))))
  | 0, c, h => by simp [minsU] at h
  | k + 1, c, h => by
    rw [minsU, List.mem_append] at h
    rcases h with h | h
    · obtain ⟨a, o, h1, h2⟩ := mins_at k c h
      exact ⟨a, o, by omega, h2⟩
    · unfold minR at h
      cases ho : os[k]? with
      | none => rw [ho] at h; simp at h
      | some o =>
        rw [ho] at h
        simp at h
        exact ⟨k, o, by omega, ho, by simpa using h⟩
theorem mins_in {a : Nat} {o : OwnD} (ho : os[a]? = some o) : ∀ k, a < k → ((8 : Int), (a : Int), (0 : Int), max 0 (wrap64 (o.min - placedF ns ps os p (a : Int)))) ∈ minsU ns ps os p k
  | 0, h => by omega
  | k + 1, h => by
    rw [minsU, List.mem_append]
    by_cases e : a = k
    · subst e
      right
      unfold minR
      rw [ho]
      simp
    · exact .inl (mins_in ho k (by omega))
/-- The first owner of that name. -/
def nameU (os : List OwnD) (name : List UInt8) : Nat → Option Nat
  | 0 => none
  | k + 1 => match nameU os name k with
    | some a => some a
    | none => match os[k]? with
      | some o => if o.name = name then some k else none
      | none => none
def nameI (os : List OwnD) (name : List UInt8) (k : Nat) : Int := match nameU os name k with
  | some a => (a : Int)
  | none => -1
theorem name_none {name : List UInt8} : ∀ k, (∀ (j : Nat) (o : OwnD), j < k → os[j]? = some o → o.name ≠ name) → nameU os name k = none
  | 0, _ => rfl
  | k + 1, h => by
    rw [nameU, name_none k (fun j o hj ho => h j o (by omega) ho)]
    dsimp only
    cases ho : os[k]? with
    | none => rfl
    | some o =>
      dsimp only
      rw [if_neg (h k o (by omega) ho)]
theorem name_at (hd : os.Pairwise (fun a b => a.name ≠ b.name)) {a : Nat} {o : OwnD} (ho : os[a]? = some o) : ∀ k, a < k → nameU os o.name k = some a
  | 0, h => by omega
  | k + 1, h => by
    by_cases e : a = k
    · subst e
      rw [nameU, name_none a (fun j u hj hu => by
        obtain ⟨h1, rfl⟩ := List.getElem?_eq_some_iff.1 hu
        obtain ⟨h2, rfl⟩ := List.getElem?_eq_some_iff.1 ho
        exact List.pairwise_iff_getElem.1 hd j a h1 h2 hj), ho]
      simp
    · rw [nameU, name_at hd ho k (by omega)]

/-- What is worse by a step of pod i (onto node n, if it is a bind) may be said to be about. -/
def NearOk (ps : List PodD) (os : List OwnD) (i : Nat) (b : Bool) (n : Int) (c : ClT) : Prop :=
  (c.1 = 1 ∧ b = true ∧ c.2.1 = n) ∨ ((c.1 = 2 ∨ c.1 = 3) ∧ b = true ∧ c.2.1 = (i : Int)) ∨
  ((c.1 = 4 ∨ c.1 = 5) ∧ ∃ (a : Nat) (x : PodD), c.2.1 = (a : Int) ∧ ps[a]? = some x ∧ (x.wt ≠ [] ∨ x.ap ≠ [])) ∨
  (c.1 = 6 ∧ b = true ∧ ∃ (a : Nat) (x u : PodD), c.2.1 = (a : Int) ∧ ps[a]? = some x ∧ ps[i]? = some u ∧ x.owner = u.owner) ∨
  ((c.1 = 7 ∨ c.1 = 8) ∧ ∃ u : PodD, ps[i]? = some u ∧ c.2.1 = nameI os u.owner os.length)
theorem was_in {L : List ClT} (hr : L.Pairwise Rise3) {c : ClT} (h : c ∈ L) : worC L c = false := by
  unfold worC was9
  rw [find_rise hr h]
  simp
/-- Off or on: what is worse by more is of a kind. -/
theorem near_set (hE : placeE ns ps os p = 0) (hE2 : placeE ns ps os (p.set i z) = 0) (hd : os.Pairwise (fun a b => a.name ≠ b.name)) (hi : i < p.length) (hy : p[i]? = some y) {c : ClT} (hc : c ∈ all8 ns ps os (p.set i z)) (hw : worC (all8 ns ps os p) c = true) :
    (c.1 = 1 ∧ (c.2.1 = y ∨ c.2.1 = z)) ∨ ((c.1 = 2 ∨ c.1 = 3) ∧ c.2.1 = (i : Int)) ∨
    ((c.1 = 4 ∨ c.1 = 5) ∧ ∃ (a : Nat) (x : PodD), c.2.1 = (a : Int) ∧ ps[a]? = some x ∧ (x.wt ≠ [] ∨ x.ap ≠ [])) ∨
    (c.1 = 6 ∧ ∃ (a : Nat) (x u : PodD), c.2.1 = (a : Int) ∧ ps[a]? = some x ∧ ps[i]? = some u ∧ x.owner = u.owner) ∨
    ((c.1 = 7 ∨ c.1 = 8) ∧ ∃ u : PodD, ps[i]? = some u ∧ c.2.1 = nameI os u.owner os.length) := by
  have hps := placeE_len hE
  obtain ⟨u, hu⟩ : ∃ u, ps[i]? = some u := ⟨ps[i]'(by omega), List.getElem?_eq_getElem _⟩
  have hno : c ∉ all8 ns ps os p := fun h => by
    rw [was_in (all8_rise ns ps os p) h] at hw
    cases hw
  have hin : ∀ {c : ClT}, c ∈ allU ns ps os p → c ∈ all8 ns ps os p := fun h => by
    unfold all8
    rw [if_pos hE]
    exact h
  unfold all8 at hc
  rw [if_pos hE2] at hc
  unfold allU at hc
  simp only [List.mem_append] at hc
  rcases hc with ((hc | hc) | hc) | hc
  · have hk := caps_kind ns ps _ _ c hc
    left
    refine ⟨hk.1, ?_⟩
    refine Classical.byContradiction fun h => hno (hin ?_)
    have := set_caps hi hy _ c hc (fun e => h (.inl e.symm)) (fun e => h (.inr e.symm))
    unfold allU
    simp only [List.mem_append]
    exact .inl (.inl (.inl this))
  · obtain ⟨kind, a, b, h2, h7, ha, hb, rfl⟩ := kinds_at 5 c hc
    rw [List.length_set] at ha
    have hback : ofU ns ps os p kind a ≠ some b := fun e => hno (hin (by
      unfold allU
      simp only [List.mem_append]
      exact .inl (.inl (.inr (kinds_in h2 ha e 5 h7)))))
    by_cases h45 : kind = 4 ∨ kind = 5
    · obtain ⟨x, hx, hxx⟩ := of_near h45 hb
      right; right; left
      refine ⟨?_, a, x, rfl, hx, hxx⟩
      show ((kind : Int) = 4 ∨ (kind : Int) = 5)
      omega
    · by_cases h23 : kind = 2 ∨ kind = 3
      · right; left
        refine ⟨?_, ?_⟩
        · show ((kind : Int) = 2 ∨ (kind : Int) = 3)
          omega
        · show (a : Int) = (i : Int)
          refine Classical.byContradiction fun h => hback ?_
          rw [← hb, set_of hi (by omega) (by omega)]
      · right; right; right; left
        refine ⟨?_, ?_⟩
        · show (kind : Int) = 6
          omega
        · obtain ⟨x, hx⟩ : ∃ x, ps[a]? = some x := ⟨ps[a]'(by omega), List.getElem?_eq_getElem _⟩
          refine ⟨a, x, u, rfl, hx, hu, ?_⟩
          refine Classical.byContradiction fun h => hback ?_
          by_cases hai : a = i
          · subst hai
            rw [hx] at hu
            cases hu
            exact absurd rfl h
          · rw [← hb, set_of hi hai (.inr (.inr ⟨by omega, by omega, by omega, by omega, by
              rw [hx, hu]
              simp only [Option.map_some]
              intro e
              exact h (Option.some.inj e).symm⟩))]
  · obtain ⟨a, o, ha, ho, ht, rfl⟩ := spreads_at _ c hc
    right; right; right; right
    refine ⟨.inl rfl, u, hu, ?_⟩
    by_cases hne : u.owner = o.name
    · unfold nameI
      rw [hne, name_at hd ho _ ha]
    · exfalso
      refine hno (hin ?_)
      rw [set_spreadF hE hE2 hi hu ho hne]
      unfold allU
      simp only [List.mem_append]
      exact .inl (.inr (spreads_in ho ht _ ha))
  · obtain ⟨a, o, ha, ho, rfl⟩ := mins_at _ c hc
    right; right; right; right
    refine ⟨.inr rfl, u, hu, ?_⟩
    by_cases hne : u.owner = o.name
    · unfold nameI
      rw [hne, name_at hd ho _ ha]
    · exfalso
      refine hno (hin ?_)
      rw [set_placedF hE hE2 hi hu ho hne]
      unfold allU
      simp only [List.mem_append]
      exact .inr (mins_in ho _ ha)
/-- A pod is taken off. -/
theorem near_off (hE : placeE ns ps os p = 0) (hl : p.length ≤ 1000) (hd : os.Pairwise (fun a b => a.name ≠ b.name)) (hi : i < p.length) (n : Int) {c : ClT} (hc : c ∈ worseU ns ps os p (p.set i (-1))) : NearOk ps os i false n c := by
  unfold worseU at hc
  obtain ⟨hc, hw⟩ := List.mem_filter.1 hc
  have hN := near_set hE (off_place hE) hd hi (List.getElem?_eq_getElem hi) hc hw
  have hlt : ¬ (c.1 ≠ 4 ∧ c.1 ≠ 7 ∧ c.1 ≠ 8) := fun ⟨h4, h7, h8⟩ => by
    have := off_find hE hi hl hc h4 h7 h8
    unfold worC was9 at hw
    have := of_decide_eq_true hw
    omega
  unfold NearOk
  rcases hN with h | h | h | h | h
  · omega
  · omega
  · exact .inr (.inr (.inl h))
  · omega
  · exact .inr (.inr (.inr (.inr h)))
/-- A pod is bound. -/
theorem near_on (hE : placeE ns ps os p = 0) (hd : os.Pairwise (fun a b => a.name ≠ b.name)) (hi : i < p.length) (hy : p[i]? = some (-1)) {n : Int} (hE2 : placeE ns ps os (p.set i n) = 0) {c : ClT} (hc : c ∈ worseU ns ps os p (p.set i n)) : NearOk ps os i true n c := by
  unfold worseU at hc
  obtain ⟨hc, hw⟩ := List.mem_filter.1 hc
  have hN := near_set hE hE2 hd hi hy hc hw
  unfold NearOk
  rcases hN with h | h | h | h | h
  · left
    refine ⟨h.1, rfl, ?_⟩
    rcases h.2 with e | e
    · exfalso
      unfold all8 at hc
      rw [if_pos hE2] at hc
      unfold allU at hc
      simp only [List.mem_append] at hc
      rcases hc with ((hc | hc) | hc) | hc
      · have := caps_kind ns ps _ _ c hc
        omega
      · have := kinds_kind ns ps os _ _ c hc
        omega
      · have := spreads_kind ns ps os _ _ c hc
        omega
      · have := mins_kind ns ps os _ _ c hc
        omega
    · exact e
  · exact .inr (.inl ⟨h.1, rfl, h.2⟩)
  · exact .inr (.inr (.inl h))
  · exact .inr (.inr (.inr (.inl ⟨h.1, rfl, h.2⟩)))
  · exact .inr (.inr (.inr (.inr h)))
/-- What is worse is broken. -/
theorem worse_by {L : List ClT} (hg : ∀ c ∈ L, 0 ≤ c.2.2.2) {c : ClT} (h : worC L c = true) : 0 < c.2.2.2 := by
  unfold worC was9 at h
  have h := of_decide_eq_true h
  have : 0 ≤ (findC L c.1 c.2.1 c.2.2.1).getD 0 := by
    cases hf : findC L c.1 c.2.1 c.2.2.1 with
    | none => simp
    | some b =>
      unfold findC at hf
      cases hq : L.find? (isC c.1 c.2.1 c.2.2.1) with
      | none => rw [hq] at hf; cases hf
      | some d =>
        rw [hq] at hf
        have := hg d (List.mem_of_find?_eq_some hq)
        simp at hf
        simp
        omega
  omega
end
end Go.Proofs.YtpdaohkpgconkaaGreat

namespace Go.Proofs.YtpdaohkpgconkaaGreat
open Go.RowKit Go.Maps

theorem foldmax_le {m : Int} : ∀ (l : List Int) (a : Int), a ≤ m → (∀ z ∈ l, z ≤ m) → l.foldl max a ≤ m
  | [], a, h, _ => h
  | x :: t, a, h, hl => foldmax_le t (max a x) (by have := hl x (by simp); omega) (fun z hz => hl z (by simp [hz]))
theorem foldmin_ge {m : Int} : ∀ (l : List Int) (a : Int), m ≤ a → (∀ z ∈ l, m ≤ z) → m ≤ l.foldl min a
  | [], a, h, _ => h
  | x :: t, a, h, hl => foldmin_ge t (min a x) (by have := hl x (by simp); omega) (fun z hz => hl z (by simp [hz]))
theorem foldmax_ge : ∀ (l : List Int) (a : Int), a ≤ l.foldl max a
  | [], a => Int.le_refl _
  | x :: t, a => Int.le_trans (by omega) (foldmax_ge t (max a x))
theorem foldmin_le : ∀ (l : List Int) (a : Int), l.foldl min a ≤ a
  | [], a => Int.le_refl _
  | x :: t, a => Int.le_trans (foldmin_le t (min a x)) (by omega)
theorem skew_few {l : List Int} {s : Int} (h0 : ∀ z ∈ l, 0 ≤ z) (h1 : ∀ z ∈ l, z ≤ 1000) (hs : 0 ≤ s) (hs2 : s ≤ 24) : skewO l s ≤ 1000 := by
  unfold skewO
  by_cases hl : l = []
  · rw [if_pos hl]
    omega
  · rw [if_neg hl]
    have hh : 0 ≤ l.headD 0 ∧ l.headD 0 ≤ 1000 := by
      cases l with
      | nil => exact absurd rfl hl
      | cons a t => exact ⟨h0 a (by simp), h1 a (by simp)⟩
    have a1 : maxL l ≤ 1000 := foldmax_le l _ hh.2 h1
    have a2 : 0 ≤ minL l := foldmin_ge l _ hh.1 h0
    have a3 : 0 ≤ maxL l := Int.le_trans hh.1 (foldmax_ge l _)
    have a4 : minL l ≤ 1000 := Int.le_trans (foldmin_le l _) hh.2
    unfold wrap64
    omega
theorem of_few {ns : List NodeD} {ps : List PodD} {os : List OwnD} {p : List Int} (hc : checkS ns ps os = 0) (hl : p.length ≤ 1000) {kind a b : Nat} (h : ofU ns ps os p kind a = some b) : b ≤ 2000 := by
  unfold ofU at h
  cases hp : p[a]? with
  | none => rw [hp] at h; cases h
  | some q =>
    rw [hp] at h
    cases hx : ps[a]? with
    | none => rw [hx] at h; cases h
    | some x =>
      rw [hx] at h
      dsimp only at h
      by_cases hq : q < 0
      · rw [if_pos hq] at h; cases h
      · rw [if_neg hq] at h
        cases hn : ns[q.toNat]? with
        | none => rw [hn] at h; cases h
        | some n =>
          rw [hn] at h
          dsimp only at h
          have hpk := pod_keys hc (List.mem_of_getElem? hx)
          have hnk := node_keys hc (List.mem_of_getElem? hn)
          by_cases h2 : kind = 2
          · rw [if_pos h2] at h
            have := Option.some.inj h
            have := numL_le (fun t => !holdO t n.labels) x.whr
            have := hpk.2.2.1
            unfold termsO at *
            omega
          · rw [if_neg h2] at h
            by_cases h3 : kind = 3
            · rw [if_pos h3] at h
              have := Option.some.inj h
              have := numL_le (fun t => !La.bearsL x.bears [t]) n.taints
              have := hnk.2.2
              unfold taintsO at *
              omega
            · rw [if_neg h3] at h
              by_cases h4 : kind = 4
              · rw [if_pos h4] at h
                by_cases hw : x.wt = []
                · rw [if_pos hw] at h; cases h
                · rw [if_neg hw] at h
                  have := Option.some.inj h
                  omega
              · rw [if_neg h4] at h
                by_cases h5 : kind = 5
                · rw [if_pos h5] at h
                  by_cases hw : x.ap = []
                  · rw [if_pos hw] at h; cases h
                  · rw [if_neg hw] at h
                    have := Option.some.inj h
                    have := aboutU_le ns ps p a x.ap x.apm true p.length
                    omega
                · rw [if_neg h5] at h
                  by_cases hw : x.owner = []
                  · rw [if_pos hw] at h; cases h
                  · rw [if_neg hw] at h
                    by_cases hs : singleO os x.owner = true
                    · rw [if_pos hs] at h
                      have := Option.some.inj h
                      have := doubU_le ps p a p.length
                      omega
                    · rw [if_neg hs] at h
                      cases h
theorem by_few {ns : List NodeD} {ps : List PodD} {os : List OwnD} {p : List Int} (hl : ps.length ≤ 1000) : ∀ c ∈ all8 ns ps os p, c.1 ≠ 1 → c.2.2.2 ≤ 2000 := by
  intro c hc h1
  unfold all8 at hc
  by_cases hE : placeE ns ps os p = 0
  · rw [if_pos hE] at hc
    have hck := placeE_chk hE
    have hpl := placeE_len hE
    unfold allU at hc
    simp only [List.mem_append] at hc
    rcases hc with ((hc | hc) | hc) | hc
    · exact absurd (caps_kind ns ps p _ c hc).1 h1
    · obtain ⟨kind, a, b, _, _, _, hb, rfl⟩ := kinds_at 5 c hc
      have := of_few hck (by omega) hb
      show (b : Int) ≤ 2000
      omega
    · obtain ⟨a, o, ha, ho, ht, rfl⟩ := spreads_at _ c hc
      obtain ⟨_, _, _, hpf, hs, _, h0⟩ := sums_of hE hl ho
      obtain ⟨_, _, o3, o4⟩ := own_bounds hck (List.mem_of_getElem? ho)
      show skewO (spreadF ns ps os p (a : Int)) o.skew ≤ 2000
      have hle : ∀ (l : List Int), (∀ z ∈ l, 0 ≤ z) → ∀ z ∈ l, z ≤ l.sum := by
        intro l
        induction l with
        | nil => intro _ z hz; cases hz
        | cons x t ih =>
          intro hpos z hz
          have hx := hpos x (by simp)
          have ht0 : 0 ≤ t.sum := by
            have := take_sum t (fun u hu => hpos u (by simp [hu])) t.length
            rw [List.take_length] at this
            exact this.1
          rw [List.sum_cons]
          rcases List.mem_cons.1 hz with rfl | hz
          · omega
          · have := ih (fun u hu => hpos u (by simp [hu])) z hz
            omega
      have := skew_few h0 (fun z hz => by have := hle _ h0 z hz; omega) o3 o4
      omega
    · obtain ⟨a, o, ha, ho, rfl⟩ := mins_at _ c hc
      obtain ⟨o1, o2, _, _⟩ := own_bounds hck (List.mem_of_getElem? ho)
      have hpf : 0 ≤ placedF ns ps os p (a : Int) ∧ placedF ns ps os p (a : Int) ≤ 1000 := by
        unfold placedF
        split
        · unfold ofF
          split
          · rename_i x _
            have := offL_len p (membersF ps x.name)
            have := membersU_len ps x.name ps.length
            unfold membersF at *
            omega
          · simp
        · omega
      show max 0 (wrap64 (o.min - placedF ns ps os p (a : Int))) ≤ 2000
      unfold wrap64
      omega
  · rw [if_neg hE] at hc
    cases hc
theorem sum_range : ∀ {l : List ClT}, (∀ c ∈ l, 0 ≤ c.2.2.2) → (∀ c ∈ l, c.1 ≠ 1 → c.2.2.2 ≤ 2000) → 0 ≤ sum9 l ∧ sum9 l ≤ 2000 * (l.length : Int) ∧ (sum9 l = 0 ↔ l.filter brokC = [])
  | [], _, _ => by simp [sum9]
  | c :: t, h0, h1 => by
    obtain ⟨a, b, d⟩ := sum_range (fun x hx => h0 x (by simp [hx])) (fun x hx => h1 x (by simp [hx]) : ∀ x ∈ t, x.1 ≠ 1 → x.2.2.2 ≤ 2000)
    have hc0 := h0 c (by simp)
    have hc1 := h1 c (by simp)
    have hw : 0 ≤ wt9 c ∧ wt9 c ≤ 2000 ∧ (wt9 c = 0 ↔ c.2.2.2 = 0) := by
      unfold wt9
      split
      · omega
      · rename_i hne
        have := hc1 hne
        omega
    rw [sum9, List.length_cons]
    refine ⟨by omega, by push_cast; omega, ?_⟩
    by_cases hb : brokC c = true
    · rw [List.filter_cons_of_pos hb]
      have hb := of_decide_eq_true hb
      constructor
      · intro h; omega
      · intro h; cases h
    · rw [List.filter_cons_of_neg hb]
      have hb : ¬ 0 < c.2.2.2 := fun h => hb (decide_eq_true h)
      rw [← d]
      omega
/-- The sum is nothing just if none is broken. -/
theorem sum_zero9 {ns : List NodeD} {ps : List PodD} {os : List OwnD} {p : List Int} (hl : ps.length ≤ 1000) (hf : (all8 ns ps os p).length ≤ 12000) : sumF ns ps os p = 0 ↔ (all8 ns ps os p).filter brokC = [] := by
  obtain ⟨a, b, d⟩ := sum_range (fun c hc => (all8_good ns ps os p c hc).1) (by_few (ns := ns) (os := os) (p := p) hl)
  unfold sumF
  rw [IntWalk.wrap64_in _ (by omega)]
  exact d
theorem was_zero {L : List ClT} (h : L.filter brokC = []) (h0 : ∀ c ∈ L, 0 ≤ c.2.2.2) (c : ClT) : was9 L c = 0 := by
  unfold was9 findC
  cases hq : L.find? (isC c.1 c.2.1 c.2.2.1) with
  | none => rfl
  | some d =>
    have hd := List.mem_of_find?_eq_some hq
    have h1 := h0 d hd
    have h2 : ¬ brokC d = true := fun hb => by
      have : d ∈ L.filter brokC := List.mem_filter.2 ⟨hd, hb⟩
      rw [h] at this
      cases this
    have h3 : ¬ 0 < d.2.2.2 := fun hb => h2 (decide_eq_true hb)
    show d.2.2.2 = 0
    omega
/-- Nothing is worse than in a safe one: it is safe. -/
theorem keeps9 {ns : List NodeD} {ps : List PodD} {os : List OwnD} {p q : List Int} (hE : placeE ns ps os q = 0) (ha : safeB ns ps os p = true) (hw : worseU ns ps os p q = []) : safeB ns ps os q = true := by
  unfold safeB at ha ⊢
  rw [Bool.and_eq_true] at ha
  have hp : (all8 ns ps os p).filter brokC = [] := List.isEmpty_iff.1 ha.2
  rw [decide_eq_true hE, Bool.true_and, List.isEmpty_iff, List.filter_eq_nil_iff]
  intro c hc hb
  have hb := of_decide_eq_true hb
  unfold worseU at hw
  rw [List.filter_eq_nil_iff] at hw
  refine hw c hc (decide_eq_true ?_)
  rw [was_zero hp (fun d hd => (all8_good ns ps os p d hd).1)]
  exact hb
theorem safe_is {ns : List NodeD} {ps : List PodD} {os : List OwnD} {p : List Int} (hE : placeE ns ps os p = 0) : safeB ns ps os p = true ↔ (all8 ns ps os p).filter brokC = [] := by
  unfold safeB
  rw [decide_eq_true hE, Bool.true_and, List.isEmpty_iff]
end Go.Proofs.YtpdaohkpgconkaaGreat
