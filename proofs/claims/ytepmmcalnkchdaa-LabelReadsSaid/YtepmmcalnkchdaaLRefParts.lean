/- What the document's reader of all parts answers, as a plain function. Condition: a short text. -/
import Derived.Test.YtepmmcalnkchdaaLRefPart
import Derived.Test.YtepmmcalnkchdaaLMathP
import Derived.Test.YtepmmcalnkchdaaLRise
import Derived.Deep.RegionHeld3
namespace Go.Proofs.Ytepmmcalnkchdaa
open Go.RowKit

def riseR (star : Bool) (y t : Int × List UInt8 × List UInt8) : Bool := Op.bytesLess y.2.1 t.2.1 || (star && decide (y.2.1 = t.2.1) && Op.bytesLess y.2.2 t.2.2)

theorem rrises_any (star : Bool) (a b : List UInt8 × List UInt8) (k k' : Int) (w : World) :
    Calls Try.prog 68 #[labV a, labV b, .bool star] w fun e w' => e = .returned (.bool (riseR star (k, a) (k', b))) ∧ Below w.heap.size w w' := by
  cases star
  all_goals
    go_enter Try.func68, Try.ntmps68
    go_wp2
    all_goals
      go_ret
      refine ⟨retB ?_, ((Below.refl _ _).alloc (Nat.le_refl _) _).alloc (by simp) _⟩
      unfold riseR
      simp_all

theorem labF_le2 (vf : List UInt8 → Nat → List UInt8 × Bool × Nat) (l : List UInt8) (hv : ∀ a, a ≤ l.length → (vf l a).2.2 ≤ l.length) (a : Nat) (h : a ≤ l.length) : (labF vf l a).2.2 ≤ l.length := by
  have hn := word_le okName l a h
  unfold labF
  simp only
  split
  · exact h
  · split
    · exact hn
    · rename_i hs
      exact hv _ (sign_lt (by simpa using hs : signL l (a + wordL okName l a) 61 = true))
theorem ter_le2 (l : List UInt8) (a : Nat) (ha : a ≤ l.length) (star : Bool) : (partF false star l a).2.1 ≤ l.length := by
  have hb := runF_le true l a ha
  unfold partF
  simp only
  split
  · rename_i hs
    exact runF_le true l (a + 1) (sign_lt hs.1)
  · split
    · exact hb
    · split
      · rename_i hs
        have h1 := sign_lt hs.1
        split
        · exact h1
        · split
          · exact h1
          · rename_i h7
            have h7 : signL l ((runF true l a).2.1 + 1) 61 = true := by simpa using h7
            have h2 := sign_lt h7
            split
            · rename_i h4
              exact sign_lt h4.2
            · exact runF_le false l _ h2
      · split
        · rename_i h6
          have h2 := sign_lt h6
          split
          · rename_i h4
            exact sign_lt h4.2
          · exact runF_le false l _ h2
        · rw [if_neg (by simp), if_neg (by simp)]
          exact hb

theorem part_eq {w : World} {f : FuncId} {vs : Array Value} {x y : (Int × List UInt8 × List UInt8) × Nat × Int} (h : Calls Try.prog f vs w (PartTo w x)) (e : y = x) : Calls Try.prog f vs w (PartTo w y) := e ▸ h
set_option maxHeartbeats 2000000 in
theorem part_any (lab star : Bool) (l : List UInt8) (a : Nat) (w : World) (hl : l.length ≤ 300) (ha : a ≤ l.length) :
    Calls Try.prog 67 #[strV l, .int .i64 (a : Int), .bool lab, .bool star] w (PartTo w (partF lab star l a)) := by
  rcases hr : runF true l a with ⟨k, b, re⟩
  have hb : b ≤ l.length := by have := runF_le true l a ha; rw [hr] at this; exact this
  cases lab
  · cases hs : signL l a 33
    · by_cases h0 : re = 0
      · subst h0
        cases h3 : signL l b 33
        · cases h6 : signL l b 61
          · (refine part_eq (part_has star l a w hl ha hs k b hr hb h3 h6) ?_; unfold partF; simp [*])
          · cases star
            · (refine part_eq (part_is_plain l a w hl ha hs k b hr hb h3 h6 _ rfl) ?_; unfold partF; simp [*])
            · cases h4 : signL l (b + 1) 42
              · (refine part_eq (part_is_star l a w hl ha hs k b hr hb h3 h6 h4 _ rfl) ?_; unfold partF; simp [*])
              · (refine part_eq (part_is_any l a w hl ha hs k b hr hb h3 h6 h4) ?_; unfold partF; simp [*])
        · by_cases he : b + 1 = l.length
          · (refine part_eq (part_not_end star l a w hl ha hs k b hr hb h3 he) ?_; unfold partF; simp [*])
          · cases h6 : signL l (b + 1) 61
            · (refine part_eq (part_not_form star l a w hl ha hs k b hr hb h3 he h6) ?_; unfold partF; simp [*])
            · cases star
              · (refine part_eq (part_not_plain l a w hl ha hs k b hr hb h3 he h6 _ rfl) ?_; unfold partF; simp [*])
              · cases h4 : signL l (b + 2) 42
                · (refine part_eq (part_not_star l a w hl ha hs k b hr hb h3 he h6 h4 _ rfl) ?_; unfold partF; simp [*])
                · (refine part_eq (part_not_any l a w hl ha hs k b hr hb h3 he h6 h4) ?_; unfold partF; simp [*])
      · (refine part_eq (part_noname_false star l a w hl ha hs k b re hr h0) ?_; unfold partF; simp [*])
    · (refine part_eq (part_lacks star l a w hl ha hs _ rfl) ?_; unfold partF; simp [*])
  · by_cases h0 : re = 0
    · subst h0
      cases hs : signL l a 33 <;> cases h3 : signL l b 33
      · cases h6 : signL l b 61
        · by_cases he : b = l.length
          · have h6' : signL l l.length 61 = false := he ▸ h6
            (refine part_eq (part_lab_end_ff star l a w hl ha hs k b hr hb h3 h6 he) ?_; unfold partF; simp [*])
          · (refine part_eq (part_lab_form_ff star l a w hl ha hs k b hr hb h3 h6 he) ?_; unfold partF; simp [*])
        · cases star
          · (refine part_eq (part_lab_plain_ff l a w hl ha hs k b hr hb h3 h6 _ rfl) ?_; unfold partF; simp [*])
          · cases h4 : signL l (b + 1) 42
            · (refine part_eq (part_lab_star_ff l a w hl ha hs k b hr hb h3 h6 h4 _ rfl) ?_; unfold partF; simp [*])
            · (refine part_eq (part_lab_any_ff l a w hl ha hs k b hr hb h3 h6 h4) ?_; unfold partF; simp [*])
      · cases h6 : signL l b 61
        · by_cases he : b = l.length
          · have h6' : signL l l.length 61 = false := he ▸ h6
            (refine part_eq (part_lab_end_ft star l a w hl ha hs k b hr hb h3 h6 he) ?_; unfold partF; simp [*])
          · (refine part_eq (part_lab_form_ft star l a w hl ha hs k b hr hb h3 h6 he) ?_; unfold partF; simp [*])
        · cases star
          · (refine part_eq (part_lab_plain_ft l a w hl ha hs k b hr hb h3 h6 _ rfl) ?_; unfold partF; simp [*])
          · cases h4 : signL l (b + 1) 42
            · (refine part_eq (part_lab_star_ft l a w hl ha hs k b hr hb h3 h6 h4 _ rfl) ?_; unfold partF; simp [*])
            · (refine part_eq (part_lab_any_ft l a w hl ha hs k b hr hb h3 h6 h4) ?_; unfold partF; simp [*])
      · cases h6 : signL l b 61
        · by_cases he : b = l.length
          · have h6' : signL l l.length 61 = false := he ▸ h6
            (refine part_eq (part_lab_end_tf star l a w hl ha hs k b hr hb h3 h6 he) ?_; unfold partF; simp [*])
          · (refine part_eq (part_lab_form_tf star l a w hl ha hs k b hr hb h3 h6 he) ?_; unfold partF; simp [*])
        · cases star
          · (refine part_eq (part_lab_plain_tf l a w hl ha hs k b hr hb h3 h6 _ rfl) ?_; unfold partF; simp [*])
          · cases h4 : signL l (b + 1) 42
            · (refine part_eq (part_lab_star_tf l a w hl ha hs k b hr hb h3 h6 h4 _ rfl) ?_; unfold partF; simp [*])
            · (refine part_eq (part_lab_any_tf l a w hl ha hs k b hr hb h3 h6 h4) ?_; unfold partF; simp [*])
      · cases h6 : signL l b 61
        · by_cases he : b = l.length
          · have h6' : signL l l.length 61 = false := he ▸ h6
            (refine part_eq (part_lab_end_tt star l a w hl ha hs k b hr hb h3 h6 he) ?_; unfold partF; simp [*])
          · (refine part_eq (part_lab_form_tt star l a w hl ha hs k b hr hb h3 h6 he) ?_; unfold partF; simp [*])
        · cases star
          · (refine part_eq (part_lab_plain_tt l a w hl ha hs k b hr hb h3 h6 _ rfl) ?_; unfold partF; simp [*])
          · cases h4 : signL l (b + 1) 42
            · (refine part_eq (part_lab_star_tt l a w hl ha hs k b hr hb h3 h6 h4 _ rfl) ?_; unfold partF; simp [*])
            · (refine part_eq (part_lab_any_tt l a w hl ha hs k b hr hb h3 h6 h4) ?_; unfold partF; simp [*])
    · cases hs : signL l a 33
      · (refine part_eq (part_noname_true_f star l a w hl ha hs k b re hr h0) ?_; unfold partF; simp [*])
      · (refine part_eq (part_noname_true_t star l a w hl ha hs k b re hr h0) ?_; unfold partF; simp [*])

theorem info_Tr : (Try.prog.info? 43).map (fun i => (i.zero, i.size, i.bytes)) = some (some (.agg #[.int .i64 0, .string ⟨#[]⟩, .string ⟨#[]⟩]), 3, 40) := by kernel_rfl

/-- Part by part, as the document has it. -/
def partsR (lab star : Bool) (l : List UInt8) : Nat → List (Int × List UInt8 × List UInt8) → Nat → List (Int × List UInt8 × List UInt8) × Nat × Int
  | 0, _, _ => ([], 0, 0)
  | f + 1, acc, a =>
    if outR l (partF lab star l a).2.1 (partF lab star l a).2.2 ≠ 0 then ([], (partF lab star l a).2.1, outR l (partF lab star l a).2.1 (partF lab star l a).2.2) else
    if acc.length = 6 then ([], a, 5) else
    if lab = true ∧ (acc.getLast?.map (fun y => riseR star y (partF lab star l a).1)).getD true = false then ([], a, 4) else
    if (partF lab star l a).2.1 = l.length then (acc ++ [(partF lab star l a).1], 0, 0) else partsR lab star l f (acc ++ [(partF lab star l a).1]) ((partF lab star l a).2.1 + 1)
def partsA (lab star : Bool) (l : List UInt8) : List (Int × List UInt8 × List UInt8) × Nat × Int := if l = [] then ([], 0, 0) else partsR lab star l 7 [] 0
/-- What the document's reader of all parts leaves. -/
def PartsTo (w : World) (x : List (Int × List UInt8 × List UInt8) × Nat × Int) (e : Ending) (w' : World) : Prop :=
  ∃ v, e = .returned (.tuple #[v, .int .i64 (x.2.1 : Int), .int .i64 x.2.2]) ∧ w'.ownsRow w.heap.size 43 3 v x.1.length (cellsT x.1) ∧ Below w.heap.size w w'

theorem partF_le (lab star : Bool) (l : List UInt8) (a : Nat) (ha : a ≤ l.length) : (partF lab star l a).2.1 ≤ l.length := by
  cases lab
  · have h := ter_le2 l a ha star
    exact h
  · have h := lab_same star l a (if star = true then anyF else valF) rfl
    rw [h.1]
    cases star
    · exact labF_le2 valF l (fun a h => word_le okVal l a h) a ha
    · exact labF_le2 anyF l (fun a h => by
        unfold anyF
        split
        · rename_i hs
          exact sign_lt hs
        · exact word_le okVal l a h) a ha

set_option maxRecDepth 100000 in
set_option maxHeartbeats 8000000 in
theorem parts_any (lab star : Bool) (l : List UInt8) (w : World) (hl : l.length ≤ 300) :
    Calls Try.prog 42 #[strV l, .bool lab, .bool star] w (PartsTo w (partsA lab star l)) := by
  rcases hV : partsA lab star l with ⟨res, x0, e0⟩
  have HV := Lib.hid hV
  clear hV
  obtain ⟨i0, hi0, hz0, hz1, hz2⟩ := info_parts info_Tr
  by_cases hnil : l = []
  · have h1 : l.isEmpty = true := by simp [hnil]
    have h1n : (!l.isEmpty) = false := by simp [hnil]
    have h2 := HV.out
    unfold partsA at h2
    rw [if_pos hnil] at h2
    simp only [Prod.mk.injEq] at h2
    obtain ⟨rfl, rfl, rfl⟩ := h2
    have Hnil := Lib.hid hnil
    clear hnil
    go_enter Try.func42, Try.ntmps42
    go_wp2
    refine wp_loop_rounds 1 ?_
    rw [rounds_succ]
    go_wp2
    go_ret3
    exact ⟨_, rfl, World.ownsRow_nil _ _ _ _, Below.refl _ _⟩
  · have h1 : l.isEmpty = false := by simpa using hnil
    have h1n : (!l.isEmpty) = true := by simpa using hnil
    have HF : Hid (partsR lab star l 7 [] 0 = (res, x0, e0)) := by
      have h2 := HV.out
      unfold partsA at h2
      rwa [if_neg hnil] at h2
    have Hnil := Lib.hid hnil
    clear hnil
    go_enter Try.func42, Try.ntmps42
    go_wp2
    go_loopw [9, 10] (fun v t wr => ∃ (acc : List (Int × List UInt8 × List UInt8)) (a f : Nat), wr.ownsRow w.heap.size 43 3 v acc.length (cellsT acc) ∧ t = .int .i64 a ∧ Below w.heap.size w wr ∧ a ≤ l.length ∧ acc.length + f = 6 ∧ partsR lab star l (f + 1) acc a = (res, x0, e0)) (fun v _ _ => match v with | .slice _ n _ => 7 - n | _ => 0)
    case atStart => exact ⟨[], 0, 6, World.ownsRow_nil _ _ _ _, rfl, Below.refl _ _, by omega, rfl, HF.out⟩
    case round =>
      obtain ⟨acc, a, f, hown, rfl, hbw, hal, hf, hF⟩ := hrel
      obtain ⟨A, cp, rfl, _⟩ := own_slice hown
      have hzl := partF_le lab star l a hal
      have hc := part_any lab star l a wr hl hal
      rcases hs : partF lab star l a with ⟨⟨xi, xk, xv⟩, z, ep⟩
      rw [partsR, hs] at hF
      rw [hs] at hc hzl
      simp only at hF hzl
      have Hc := Lib.hid hc
      have Hown := Lib.hid hown
      have Hbw := Lib.hid hbw
      have HFo := Lib.hid hF
      clear hs hc hF hown hbw HF
      go_wp2_with fail
      refine Hc.out.mono ?_
      rintro e w1 ⟨rfl, hb⟩
      have Own1 := Lib.hid (own_below Hown.out hb)
      have B1 := Lib.hid (Hbw.out.trans (hb.mono Hbw.out.size))
      have hz1lt : w.heap.size ≤ w1.heap.size := B1.out.size
      clear hb
      simp only
      by_cases hep : ep = 0
      · subst hep
        by_cases hov : z = l.length
        · have hovi : (l.length : Int) ≤ (z : Int) := by omega
          have hovb : ((z : Int) == (l.length : Int)) = true := by simp; omega
          have hF := HFo.out
          rw [if_neg (by simp [outR, hov])] at hF
          have HF3 := Lib.hid hF
          have Hov := Lib.hid hov
          clear hF hov HFo
          have How := Lib.hid (Own1.out.alloc (.cells #[.int .i64 xi, strV xk, strV xv] 43))
          have Hbe := Lib.hid (B1.out.alloc B1.out.size (.cells #[.int .i64 xi, strV xk, strV xv] 43))
          by_cases h6 : acc.length = 6
          · have h6b : ((acc.length : Int) == 6) = true := by simp; omega
            have hF := HF3.out
            rw [if_pos h6] at hF
            simp only [Prod.mk.injEq] at hF
            obtain ⟨rfl, rfl, rfl⟩ := hF
            have H6 := Lib.hid h6
            clear h6
            go_wp2
            go_ret3
            exact ⟨_, rfl, World.ownsRow_nil _ _ _ _, Hbe.out⟩
          · have h6b : ((acc.length : Int) == 6) = false := by simp; omega
            have hF := HF3.out
            rw [if_neg h6] at hF
            have HF4 := Lib.hid hF
            have h5 : acc.length ≤ 5 := by omega
            obtain ⟨f1, rfl⟩ : ∃ f1, f = f1 + 1 := ⟨f - 1, by omega⟩
            have H6 := Lib.hid h6
            clear hF h6 HF3
            cases lab
            · have hF := HF4.out
              rw [if_neg (by simp)] at hF
              have HF5 := Lib.hid hF
              clear hF HF4
              go_upto_region 13 with fail
              go_quiet (fail)
              go_wp2_with (at_builtin; refine wpList_append_own _ rfl _ _ 26 rfl w.heap.size 43 i0 (.agg #[.int .i64 0, .string ⟨#[]⟩, .string ⟨#[]⟩]) 3 40 Try.underlying26 hi0 hz0 hz1 hz2 rfl (by decide) _ _ _ rfl ((own_drewN How.out _).alloc _) ⟨w1.heap.size + 1, 0, none⟩ 1 1 [.int .i64 xi, strV xk, strV xv] rfl rfl ?a1 ?b1 ?c1 ?d1 ?e1 ?_)
              case a1 =>
                intro j u hj
                match j, hj with
                | 0, hj => simp at hj; subst hj; first | (simp [Addr.add, go_sem]; done) | exact Blk.cell (Blk.new _ _ _) 0
                | 1, hj => simp at hj; subst hj; first | (simp [Addr.add, go_sem]; done) | exact Blk.cell (Blk.new _ _ _) 1
                | 2, hj => simp at hj; subst hj; first | (simp [Addr.add, go_sem]; done) | exact Blk.cell (Blk.new _ _ _) 2
              case b1 => intro u hu; simp at hu; rcases hu with rfl | rfl | rfl <;> rfl
              case c1 => unfold maxLen; omega
              case d1 => omega
              case e1 => have := Hbe.out.size; simp at this ⊢; omega
              intro v' w4 hown' hgrow' _
              obtain ⟨A4, c4, rfl, _⟩ := own_slice hown'
              have Own4 := Lib.hid hown'
              have B4 := Lib.hid (((belowN Hbe.out _).alloc Hbe.out.size (.cells #[.int .i64 xi, strV xk, strV xv] 43)).grown hgrow' (by have := Hbe.out.size; simp at this ⊢; omega) (fun k hk => own_ge' (How.out) hk))
              clear hown' hgrow'
              go_wp2
              have hF := HF5.out
              rw [if_pos Hov.out] at hF
              simp only [Prod.mk.injEq] at hF
              obtain ⟨rfl, rfl, rfl⟩ := hF
              go_ret3
              exact ⟨_, rfl, by simpa [cellsT_snoc] using Own4.out, B4.out⟩
            · rcases List.eq_nil_or_concat acc with hacc | ⟨pre, y, hacc⟩
              · have hlen : acc.length = 0 := by rw [hacc]; rfl
                have hn0 : decide (0 < acc.length) = false := by simp [hlen]
                have hF := HF4.out
                rw [show acc.getLast? = none by rw [hacc]; rfl] at hF
                simp only [Option.map_none, Option.getD_none, Bool.true_eq_false, and_false, ↓reduceIte] at hF
                have HF5 := Lib.hid hF
                have Hacc := Lib.hid hacc
                have Hlen := Lib.hid hlen
                clear hF HF4 hacc hlen
                go_upto_region 13 with fail
                go_quiet (fail)
                go_wp2_with (at_builtin; refine wpList_append_own _ rfl _ _ 26 rfl w.heap.size 43 i0 (.agg #[.int .i64 0, .string ⟨#[]⟩, .string ⟨#[]⟩]) 3 40 Try.underlying26 hi0 hz0 hz1 hz2 rfl (by decide) _ _ _ rfl ((own_drewN How.out _).alloc _) ⟨w1.heap.size + 1, 0, none⟩ 1 1 [.int .i64 xi, strV xk, strV xv] rfl rfl ?a2 ?b2 ?c2 ?d2 ?e2 ?_)
                case a2 =>
                  intro j u hj
                  match j, hj with
                  | 0, hj => simp at hj; subst hj; first | (simp [Addr.add, go_sem]; done) | exact Blk.cell (Blk.new _ _ _) 0
                  | 1, hj => simp at hj; subst hj; first | (simp [Addr.add, go_sem]; done) | exact Blk.cell (Blk.new _ _ _) 1
                  | 2, hj => simp at hj; subst hj; first | (simp [Addr.add, go_sem]; done) | exact Blk.cell (Blk.new _ _ _) 2
                case b2 => intro u hu; simp at hu; rcases hu with rfl | rfl | rfl <;> rfl
                case c2 => unfold maxLen; omega
                case d2 => omega
                case e2 => have := Hbe.out.size; simp at this ⊢; omega
                intro v' w4 hown' hgrow' _
                obtain ⟨A4, c4, rfl, _⟩ := own_slice hown'
                have Own4 := Lib.hid hown'
                have B4 := Lib.hid (((belowN Hbe.out _).alloc Hbe.out.size (.cells #[.int .i64 xi, strV xk, strV xv] 43)).grown hgrow' (by have := Hbe.out.size; simp at this ⊢; omega) (fun k hk => own_ge' (How.out) hk))
                clear hown' hgrow'
                go_wp2
                have hF := HF5.out
                rw [if_pos Hov.out] at hF
                simp only [Prod.mk.injEq] at hF
                obtain ⟨rfl, rfl, rfl⟩ := hF
                go_ret3
                exact ⟨_, rfl, by simpa [cellsT_snoc] using Own4.out, B4.out⟩
              · have hpos : 0 < acc.length := by rw [hacc]; simp
                have hlast : acc.getLast? = some y := by rw [hacc]; simp
                have hat : acc[acc.length - 1]? = some y := by rw [hacc]; simp
                obtain ⟨gb, cap, hA, hgb, hgl, hcap, hcapm, hcl⟩ := own_cells How.out hpos
                have hy := cellsT_at acc _ y hat
                have qy0 : (w1.alloc (.cells #[.int .i64 xi, strV xk, strV xv] 43)).cell? ⟨gb, (acc.length - 1) * 3, none⟩ = some (.int .i64 y.1) := hcl _ _ hy.1
                have qy1 : (w1.alloc (.cells #[.int .i64 xi, strV xk, strV xv] 43)).cell? ⟨gb, (acc.length - 1) * 3 + 1, none⟩ = some (strV y.2.1) := hcl _ _ hy.2.1
                have qy2 : (w1.alloc (.cells #[.int .i64 xi, strV xk, strV xv] 43)).cell? ⟨gb, (acc.length - 1) * 3 + 2, none⟩ = some (strV y.2.2) := hcl _ _ hy.2.2
                have qx0 : (w1.alloc (.cells #[.int .i64 xi, strV xk, strV xv] 43)).cell? ⟨w1.heap.size, 0, none⟩ = some (.int .i64 xi) := Blk.cell (Blk.new w1 #[.int .i64 xi, strV xk, strV xv] 43) 0
                have qx1 : (w1.alloc (.cells #[.int .i64 xi, strV xk, strV xv] 43)).cell? ⟨w1.heap.size, 1, none⟩ = some (strV xk) := Blk.cell (Blk.new w1 #[.int .i64 xi, strV xk, strV xv] 43) 1
                have qx2 : (w1.alloc (.cells #[.int .i64 xi, strV xk, strV xv] 43)).cell? ⟨w1.heap.size, 2, none⟩ = some (strV xv) := Blk.cell (Blk.new w1 #[.int .i64 xi, strV xk, strV xv] 43) 2
                have Hgl := Lib.hid hgl
                have Hxl := Lib.hid (Blk.lt (Blk.new w1 #[.int .i64 xi, strV xk, strV xv] 43))
                cases hA
                have Hl := Lib.hid hlast
                have Ha := Lib.hid hacc
                clear hcl hy hat hlast hacc hgb hgl
                have n0 : decide (0 < acc.length) = true := by simpa using hpos
                have n1 : (1 : Int) ≤ (acc.length : Int) := by omega
                have n2 : (acc.length : Int) ≤ 6 := by omega
                have n3 : ((acc.length : Int) - 1).toNat = acc.length - 1 := by omega
                have n5 : (0 : Int) ≤ (acc.length : Int) - 1 := by omega
                have n6 : (acc.length : Int) - 1 < (acc.length : Int) := by omega
                have n7 : ((acc.length : Int) - 1 < 0) = False := by simp; omega
                have n8 : decide ((acc.length : Int) - 1 < (acc.length : Int)) = true := by simp; omega
                have n4 : IntKind.i64.wrap ((acc.length : Int) - 1) = (acc.length : Int) - 1 := IntWalk.i64_in _ (by omega)
                obtain ⟨yi, yk, yw⟩ := y
                rcases hb : riseR star (yi, yk, yw) (xi, xk, xv) with _ | _
                · have hF := HF4.out
                  rw [Hl.out] at hF
                  simp only [Option.map_some, Option.getD_some, hb, ↓reduceIte, Bool.true_eq_false, and_self, and_false] at hF
                  have KR := Lib.hid (fun w => rrises_any star (yk, yw) (xk, xv) yi xi w)
                  rw [hb] at KR
                  simp only [Prod.mk.injEq] at hF
                  obtain ⟨rfl, rfl, rfl⟩ := hF
                  clear hb HF4
                  go_upto_region 13 with fail
                  go_region_held3 (fun w' => w'.cell? ⟨gb, (acc.length - 1) * 3 + 1, none⟩ = some (strV yk) ∧ w'.cell? ⟨gb, (acc.length - 1) * 3 + 2, none⟩ = some (strV yw) ∧ w'.cell? ⟨w1.heap.size, 0, none⟩ = some (.int .i64 xi) ∧ w'.cell? ⟨w1.heap.size, 1, none⟩ = some (strV xk) ∧ w'.cell? ⟨w1.heap.size, 2, none⟩ = some (strV xv)) (first | exact ⟨qy1, qy2, qx0, qx1, qx2⟩ | exact ⟨py1, py2, px0, px1, px2⟩)
                    (first | ((with_reducible refine (KR.out _).mono ?_); rintro e w3 ⟨rfl, hb3⟩; have py1 := (hb3.cell (p := ⟨gb, (acc.length - 1) * 3 + 1, none⟩) Hgl.out).trans qy1; have py2 := (hb3.cell (p := ⟨gb, (acc.length - 1) * 3 + 2, none⟩) Hgl.out).trans qy2; have px0 := (hb3.cell (p := ⟨w1.heap.size, 0, none⟩) Hxl.out).trans qx0; have px1 := (hb3.cell (p := ⟨w1.heap.size, 1, none⟩) Hxl.out).trans qx1; have px2 := (hb3.cell (p := ⟨w1.heap.size, 2, none⟩) Hxl.out).trans qx2; have HB3 := Lib.hid hb3; clear hb3))
                  go_wp2
                  go_ret3
                  exact ⟨_, rfl, World.ownsRow_nil _ _ _ _, below_of Hbe.out HB3.out⟩
                · have hF := HF4.out
                  rw [Hl.out] at hF
                  simp only [Option.map_some, Option.getD_some, hb, ↓reduceIte, Bool.true_eq_false, and_self, and_false] at hF
                  have KR := Lib.hid (fun w => rrises_any star (yk, yw) (xk, xv) yi xi w)
                  rw [hb] at KR
                  have HF5 := Lib.hid hF
                  clear hb hF HF4
                  go_upto_region 13 with fail
                  go_region_held3 (fun w' => w'.cell? ⟨gb, (acc.length - 1) * 3 + 1, none⟩ = some (strV yk) ∧ w'.cell? ⟨gb, (acc.length - 1) * 3 + 2, none⟩ = some (strV yw) ∧ w'.cell? ⟨w1.heap.size, 0, none⟩ = some (.int .i64 xi) ∧ w'.cell? ⟨w1.heap.size, 1, none⟩ = some (strV xk) ∧ w'.cell? ⟨w1.heap.size, 2, none⟩ = some (strV xv)) (first | exact ⟨qy1, qy2, qx0, qx1, qx2⟩ | exact ⟨py1, py2, px0, px1, px2⟩)
                    (first | ((with_reducible refine (KR.out _).mono ?_); rintro e w3 ⟨rfl, hb3⟩; have py1 := (hb3.cell (p := ⟨gb, (acc.length - 1) * 3 + 1, none⟩) Hgl.out).trans qy1; have py2 := (hb3.cell (p := ⟨gb, (acc.length - 1) * 3 + 2, none⟩) Hgl.out).trans qy2; have px0 := (hb3.cell (p := ⟨w1.heap.size, 0, none⟩) Hxl.out).trans qx0; have px1 := (hb3.cell (p := ⟨w1.heap.size, 1, none⟩) Hxl.out).trans qx1; have px2 := (hb3.cell (p := ⟨w1.heap.size, 2, none⟩) Hxl.out).trans qx2; have HB3 := Lib.hid hb3; clear hb3))
                  have How3 := Lib.hid (own_of How.out HB3.out)
                  have Hbe3 := Lib.hid (below_of Hbe.out HB3.out)
                  clear qy0 qy1 qy2 qx0 qx1 qx2 n1 n3 n4 n5 n6 n7 n8
                  go_wp2_with (at_builtin; refine wpList_append_own _ rfl _ _ 26 rfl w.heap.size 43 i0 (.agg #[.int .i64 0, .string ⟨#[]⟩, .string ⟨#[]⟩]) 3 40 Try.underlying26 hi0 hz0 hz1 hz2 rfl (by decide) _ _ _ rfl ((How3.out).alloc _) ⟨w3.heap.size, 0, none⟩ 1 1 [.int .i64 xi, strV xk, strV xv] rfl rfl ?a3 ?b3 ?c3 ?d3 ?e3 ?_)
                  case a3 =>
                    intro j u hj
                    match j, hj with
                    | 0, hj => simp at hj; subst hj; first | (simp [Addr.add, go_sem]; done) | exact Blk.cell (Blk.new _ _ _) 0
                    | 1, hj => simp at hj; subst hj; first | (simp [Addr.add, go_sem]; done) | exact Blk.cell (Blk.new _ _ _) 1
                    | 2, hj => simp at hj; subst hj; first | (simp [Addr.add, go_sem]; done) | exact Blk.cell (Blk.new _ _ _) 2
                  case b3 => intro u hu; simp at hu; rcases hu with rfl | rfl | rfl <;> rfl
                  case c3 => unfold maxLen; omega
                  case d3 => omega
                  case e3 => have := Hbe3.out.size; simp at this ⊢; omega
                  intro v' w4 hown' hgrow' _
                  obtain ⟨A4, c4, rfl, _⟩ := own_slice hown'
                  have Own4 := Lib.hid hown'
                  have B4 := Lib.hid (((Hbe3.out).alloc Hbe3.out.size (.cells #[.int .i64 xi, strV xk, strV xv] 43)).grown hgrow' (by have := Hbe3.out.size; simp at this ⊢; omega) (fun k hk => own_ge' (How3.out) hk))
                  clear hown' hgrow'
                  go_wp2
                  have hF := HF5.out
                  rw [if_pos Hov.out] at hF
                  simp only [Prod.mk.injEq] at hF
                  obtain ⟨rfl, rfl, rfl⟩ := hF
                  go_ret3
                  exact ⟨_, rfl, by simpa [cellsT_snoc] using Own4.out, B4.out⟩
        · have hovi : (z : Int) < (l.length : Int) := by omega
          have hovb : ((z : Int) == (l.length : Int)) = false := by simp; omega
          have hzlt : z < l.length := by omega
          have z0 : (0 : Int) ≤ (z : Int) := by omega
          cases hsg : signL l z 44
          · have hF := HFo.out
            rw [if_pos (by simp [outR, hov, hsg])] at hF
            simp only [outR, hov, hsg, Prod.mk.injEq] at hF
            obtain ⟨rfl, rfl, he⟩ := hF
            have hne : (((⟨l.toArray⟩ : ByteArray)[z]'hzlt).toNat : Int) ≠ 44 := by
              intro e
              unfold signL at hsg
              rw [List.getElem?_eq_getElem hzlt] at hsg
              simp only [Option.some.injEq, decide_eq_false_iff_not] at hsg
              apply hsg
              apply UInt8.toNat_inj.1
              have e2 : (l[z].toNat : Int) = 44 := e
              show l[z].toNat = 44
              omega
            have hneb : ((((⟨l.toArray⟩ : ByteArray)[z]'hzlt).toNat : Int) != 44) = true := by simpa using hne
            have E : Hid (e0 = 4) := by show e0 = 4; rw [← he, if_neg (by simp), if_pos ⟨hov, trivial⟩]
            have Hov := Lib.hid hov
            have Hsg := Lib.hid hsg
            have Hne := Lib.hid hne
            clear hov hsg he hne HFo
            go_wp2
            go_ret3
            exact ⟨_, by rw [E.out]; rfl, World.ownsRow_nil _ _ _ _, B1.out.alloc B1.out.size _⟩
          · have hF := HFo.out
            rw [if_neg (by simp [outR, hov, hsg])] at hF
            have HF3 := Lib.hid hF
            have heq : (((⟨l.toArray⟩ : ByteArray)[z]'hzlt).toNat : Int) = 44 := by
              have h3 := sign_at hsg
              rw [List.getElem?_eq_getElem hzlt] at h3
              simp only [Option.some.injEq] at h3
              show (l[z].toNat : Int) = 44
              rw [h3]
              rfl
            have heqb : ((((⟨l.toArray⟩ : ByteArray)[z]'hzlt).toNat : Int) != 44) = false := by simp [heq]
            have Hov := Lib.hid hov
            have Hsg := Lib.hid hsg
            have Heq := Lib.hid heq
            clear hF hov hsg heq HFo
            have How := Lib.hid (Own1.out.alloc (.cells #[.int .i64 xi, strV xk, strV xv] 43))
            have Hbe := Lib.hid (B1.out.alloc B1.out.size (.cells #[.int .i64 xi, strV xk, strV xv] 43))
            by_cases h6 : acc.length = 6
            · have h6b : ((acc.length : Int) == 6) = true := by simp; omega
              have hF := HF3.out
              rw [if_pos h6] at hF
              simp only [Prod.mk.injEq] at hF
              obtain ⟨rfl, rfl, rfl⟩ := hF
              have H6 := Lib.hid h6
              clear h6
              go_wp2
              go_ret3
              exact ⟨_, rfl, World.ownsRow_nil _ _ _ _, Hbe.out⟩
            · have h6b : ((acc.length : Int) == 6) = false := by simp; omega
              have hF := HF3.out
              rw [if_neg h6] at hF
              have HF4 := Lib.hid hF
              have h5 : acc.length ≤ 5 := by omega
              obtain ⟨f1, rfl⟩ : ∃ f1, f = f1 + 1 := ⟨f - 1, by omega⟩
              have H6 := Lib.hid h6
              clear hF h6 HF3
              cases lab
              · have hF := HF4.out
                rw [if_neg (by simp)] at hF
                have HF5 := Lib.hid hF
                clear hF HF4
                go_upto_region 13 with fail
                go_quiet (fail)
                go_wp2_with (at_builtin; refine wpList_append_own _ rfl _ _ 26 rfl w.heap.size 43 i0 (.agg #[.int .i64 0, .string ⟨#[]⟩, .string ⟨#[]⟩]) 3 40 Try.underlying26 hi0 hz0 hz1 hz2 rfl (by decide) _ _ _ rfl ((own_drewN How.out _).alloc _) ⟨w1.heap.size + 1, 0, none⟩ 1 1 [.int .i64 xi, strV xk, strV xv] rfl rfl ?a4 ?b4 ?c4 ?d4 ?e4 ?_)
                case a4 =>
                  intro j u hj
                  match j, hj with
                  | 0, hj => simp at hj; subst hj; first | (simp [Addr.add, go_sem]; done) | exact Blk.cell (Blk.new _ _ _) 0
                  | 1, hj => simp at hj; subst hj; first | (simp [Addr.add, go_sem]; done) | exact Blk.cell (Blk.new _ _ _) 1
                  | 2, hj => simp at hj; subst hj; first | (simp [Addr.add, go_sem]; done) | exact Blk.cell (Blk.new _ _ _) 2
                case b4 => intro u hu; simp at hu; rcases hu with rfl | rfl | rfl <;> rfl
                case c4 => unfold maxLen; omega
                case d4 => omega
                case e4 => have := Hbe.out.size; simp at this ⊢; omega
                intro v' w4 hown' hgrow' _
                obtain ⟨A4, c4, rfl, _⟩ := own_slice hown'
                have Own4 := Lib.hid hown'
                have B4 := Lib.hid (((belowN Hbe.out _).alloc Hbe.out.size (.cells #[.int .i64 xi, strV xk, strV xv] 43)).grown hgrow' (by have := Hbe.out.size; simp at this ⊢; omega) (fun k hk => own_ge' (How.out) hk))
                clear hown' hgrow'
                go_wp2
                go_roundw
                case rel =>
                  have hF := HF5.out
                  rw [if_neg Hov.out] at hF
                  exact ⟨acc ++ [(xi, xk, xv)], z + 1, f1, by simpa [cellsT_snoc] using Own4.out, by go_num, B4.out, by omega, by simp; omega, hF⟩
                case measure => simp; omega
              · rcases List.eq_nil_or_concat acc with hacc | ⟨pre, y, hacc⟩
                · have hlen : acc.length = 0 := by rw [hacc]; rfl
                  have hn0 : decide (0 < acc.length) = false := by simp [hlen]
                  have hF := HF4.out
                  rw [show acc.getLast? = none by rw [hacc]; rfl] at hF
                  simp only [Option.map_none, Option.getD_none, Bool.true_eq_false, and_false, ↓reduceIte] at hF
                  have HF5 := Lib.hid hF
                  have Hacc := Lib.hid hacc
                  have Hlen := Lib.hid hlen
                  clear hF HF4 hacc hlen
                  go_upto_region 13 with fail
                  go_quiet (fail)
                  go_wp2_with (at_builtin; refine wpList_append_own _ rfl _ _ 26 rfl w.heap.size 43 i0 (.agg #[.int .i64 0, .string ⟨#[]⟩, .string ⟨#[]⟩]) 3 40 Try.underlying26 hi0 hz0 hz1 hz2 rfl (by decide) _ _ _ rfl ((own_drewN How.out _).alloc _) ⟨w1.heap.size + 1, 0, none⟩ 1 1 [.int .i64 xi, strV xk, strV xv] rfl rfl ?a5 ?b5 ?c5 ?d5 ?e5 ?_)
                  case a5 =>
                    intro j u hj
                    match j, hj with
                    | 0, hj => simp at hj; subst hj; first | (simp [Addr.add, go_sem]; done) | exact Blk.cell (Blk.new _ _ _) 0
                    | 1, hj => simp at hj; subst hj; first | (simp [Addr.add, go_sem]; done) | exact Blk.cell (Blk.new _ _ _) 1
                    | 2, hj => simp at hj; subst hj; first | (simp [Addr.add, go_sem]; done) | exact Blk.cell (Blk.new _ _ _) 2
                  case b5 => intro u hu; simp at hu; rcases hu with rfl | rfl | rfl <;> rfl
                  case c5 => unfold maxLen; omega
                  case d5 => omega
                  case e5 => have := Hbe.out.size; simp at this ⊢; omega
                  intro v' w4 hown' hgrow' _
                  obtain ⟨A4, c4, rfl, _⟩ := own_slice hown'
                  have Own4 := Lib.hid hown'
                  have B4 := Lib.hid (((belowN Hbe.out _).alloc Hbe.out.size (.cells #[.int .i64 xi, strV xk, strV xv] 43)).grown hgrow' (by have := Hbe.out.size; simp at this ⊢; omega) (fun k hk => own_ge' (How.out) hk))
                  clear hown' hgrow'
                  go_wp2
                  go_roundw
                  case rel =>
                    have hF := HF5.out
                    rw [if_neg Hov.out] at hF
                    exact ⟨acc ++ [(xi, xk, xv)], z + 1, f1, by simpa [cellsT_snoc] using Own4.out, by go_num, B4.out, by omega, by simp; omega, hF⟩
                  case measure => simp; omega
                · have hpos : 0 < acc.length := by rw [hacc]; simp
                  have hlast : acc.getLast? = some y := by rw [hacc]; simp
                  have hat : acc[acc.length - 1]? = some y := by rw [hacc]; simp
                  obtain ⟨gb, cap, hA, hgb, hgl, hcap, hcapm, hcl⟩ := own_cells How.out hpos
                  have hy := cellsT_at acc _ y hat
                  have qy0 : (w1.alloc (.cells #[.int .i64 xi, strV xk, strV xv] 43)).cell? ⟨gb, (acc.length - 1) * 3, none⟩ = some (.int .i64 y.1) := hcl _ _ hy.1
                  have qy1 : (w1.alloc (.cells #[.int .i64 xi, strV xk, strV xv] 43)).cell? ⟨gb, (acc.length - 1) * 3 + 1, none⟩ = some (strV y.2.1) := hcl _ _ hy.2.1
                  have qy2 : (w1.alloc (.cells #[.int .i64 xi, strV xk, strV xv] 43)).cell? ⟨gb, (acc.length - 1) * 3 + 2, none⟩ = some (strV y.2.2) := hcl _ _ hy.2.2
                  have qx0 : (w1.alloc (.cells #[.int .i64 xi, strV xk, strV xv] 43)).cell? ⟨w1.heap.size, 0, none⟩ = some (.int .i64 xi) := Blk.cell (Blk.new w1 #[.int .i64 xi, strV xk, strV xv] 43) 0
                  have qx1 : (w1.alloc (.cells #[.int .i64 xi, strV xk, strV xv] 43)).cell? ⟨w1.heap.size, 1, none⟩ = some (strV xk) := Blk.cell (Blk.new w1 #[.int .i64 xi, strV xk, strV xv] 43) 1
                  have qx2 : (w1.alloc (.cells #[.int .i64 xi, strV xk, strV xv] 43)).cell? ⟨w1.heap.size, 2, none⟩ = some (strV xv) := Blk.cell (Blk.new w1 #[.int .i64 xi, strV xk, strV xv] 43) 2
                  have Hgl := Lib.hid hgl
                  have Hxl := Lib.hid (Blk.lt (Blk.new w1 #[.int .i64 xi, strV xk, strV xv] 43))
                  cases hA
                  have Hl := Lib.hid hlast
                  have Ha := Lib.hid hacc
                  clear hcl hy hat hlast hacc hgb hgl
                  have n0 : decide (0 < acc.length) = true := by simpa using hpos
                  have n1 : (1 : Int) ≤ (acc.length : Int) := by omega
                  have n2 : (acc.length : Int) ≤ 6 := by omega
                  have n3 : ((acc.length : Int) - 1).toNat = acc.length - 1 := by omega
                  have n5 : (0 : Int) ≤ (acc.length : Int) - 1 := by omega
                  have n6 : (acc.length : Int) - 1 < (acc.length : Int) := by omega
                  have n7 : ((acc.length : Int) - 1 < 0) = False := by simp; omega
                  have n8 : decide ((acc.length : Int) - 1 < (acc.length : Int)) = true := by simp; omega
                  have n4 : IntKind.i64.wrap ((acc.length : Int) - 1) = (acc.length : Int) - 1 := IntWalk.i64_in _ (by omega)
                  obtain ⟨yi, yk, yw⟩ := y
                  rcases hb : riseR star (yi, yk, yw) (xi, xk, xv) with _ | _
                  · have hF := HF4.out
                    rw [Hl.out] at hF
                    simp only [Option.map_some, Option.getD_some, hb, ↓reduceIte, Bool.true_eq_false, and_self, and_false] at hF
                    have KR := Lib.hid (fun w => rrises_any star (yk, yw) (xk, xv) yi xi w)
                    rw [hb] at KR
                    simp only [Prod.mk.injEq] at hF
                    obtain ⟨rfl, rfl, rfl⟩ := hF
                    clear hb HF4
                    go_upto_region 13 with fail
                    go_region_held3 (fun w' => w'.cell? ⟨gb, (acc.length - 1) * 3 + 1, none⟩ = some (strV yk) ∧ w'.cell? ⟨gb, (acc.length - 1) * 3 + 2, none⟩ = some (strV yw) ∧ w'.cell? ⟨w1.heap.size, 0, none⟩ = some (.int .i64 xi) ∧ w'.cell? ⟨w1.heap.size, 1, none⟩ = some (strV xk) ∧ w'.cell? ⟨w1.heap.size, 2, none⟩ = some (strV xv)) (first | exact ⟨qy1, qy2, qx0, qx1, qx2⟩ | exact ⟨py1, py2, px0, px1, px2⟩)
                      (first | ((with_reducible refine (KR.out _).mono ?_); rintro e w3 ⟨rfl, hb3⟩; have py1 := (hb3.cell (p := ⟨gb, (acc.length - 1) * 3 + 1, none⟩) Hgl.out).trans qy1; have py2 := (hb3.cell (p := ⟨gb, (acc.length - 1) * 3 + 2, none⟩) Hgl.out).trans qy2; have px0 := (hb3.cell (p := ⟨w1.heap.size, 0, none⟩) Hxl.out).trans qx0; have px1 := (hb3.cell (p := ⟨w1.heap.size, 1, none⟩) Hxl.out).trans qx1; have px2 := (hb3.cell (p := ⟨w1.heap.size, 2, none⟩) Hxl.out).trans qx2; have HB3 := Lib.hid hb3; clear hb3))
                    go_wp2
                    go_ret3
                    exact ⟨_, rfl, World.ownsRow_nil _ _ _ _, below_of Hbe.out HB3.out⟩
                  · have hF := HF4.out
                    rw [Hl.out] at hF
                    simp only [Option.map_some, Option.getD_some, hb, ↓reduceIte, Bool.true_eq_false, and_self, and_false] at hF
                    have KR := Lib.hid (fun w => rrises_any star (yk, yw) (xk, xv) yi xi w)
                    rw [hb] at KR
                    have HF5 := Lib.hid hF
                    clear hb hF HF4
                    go_upto_region 13 with fail
                    go_region_held3 (fun w' => w'.cell? ⟨gb, (acc.length - 1) * 3 + 1, none⟩ = some (strV yk) ∧ w'.cell? ⟨gb, (acc.length - 1) * 3 + 2, none⟩ = some (strV yw) ∧ w'.cell? ⟨w1.heap.size, 0, none⟩ = some (.int .i64 xi) ∧ w'.cell? ⟨w1.heap.size, 1, none⟩ = some (strV xk) ∧ w'.cell? ⟨w1.heap.size, 2, none⟩ = some (strV xv)) (first | exact ⟨qy1, qy2, qx0, qx1, qx2⟩ | exact ⟨py1, py2, px0, px1, px2⟩)
                      (first | ((with_reducible refine (KR.out _).mono ?_); rintro e w3 ⟨rfl, hb3⟩; have py1 := (hb3.cell (p := ⟨gb, (acc.length - 1) * 3 + 1, none⟩) Hgl.out).trans qy1; have py2 := (hb3.cell (p := ⟨gb, (acc.length - 1) * 3 + 2, none⟩) Hgl.out).trans qy2; have px0 := (hb3.cell (p := ⟨w1.heap.size, 0, none⟩) Hxl.out).trans qx0; have px1 := (hb3.cell (p := ⟨w1.heap.size, 1, none⟩) Hxl.out).trans qx1; have px2 := (hb3.cell (p := ⟨w1.heap.size, 2, none⟩) Hxl.out).trans qx2; have HB3 := Lib.hid hb3; clear hb3))
                    have How3 := Lib.hid (own_of How.out HB3.out)
                    have Hbe3 := Lib.hid (below_of Hbe.out HB3.out)
                    clear qy0 qy1 qy2 qx0 qx1 qx2 n1 n3 n4 n5 n6 n7 n8
                    go_wp2_with (at_builtin; refine wpList_append_own _ rfl _ _ 26 rfl w.heap.size 43 i0 (.agg #[.int .i64 0, .string ⟨#[]⟩, .string ⟨#[]⟩]) 3 40 Try.underlying26 hi0 hz0 hz1 hz2 rfl (by decide) _ _ _ rfl ((How3.out).alloc _) ⟨w3.heap.size, 0, none⟩ 1 1 [.int .i64 xi, strV xk, strV xv] rfl rfl ?a6 ?b6 ?c6 ?d6 ?e6 ?_)
                    case a6 =>
                      intro j u hj
                      match j, hj with
                      | 0, hj => simp at hj; subst hj; first | (simp [Addr.add, go_sem]; done) | exact Blk.cell (Blk.new _ _ _) 0
                      | 1, hj => simp at hj; subst hj; first | (simp [Addr.add, go_sem]; done) | exact Blk.cell (Blk.new _ _ _) 1
                      | 2, hj => simp at hj; subst hj; first | (simp [Addr.add, go_sem]; done) | exact Blk.cell (Blk.new _ _ _) 2
                    case b6 => intro u hu; simp at hu; rcases hu with rfl | rfl | rfl <;> rfl
                    case c6 => unfold maxLen; omega
                    case d6 => omega
                    case e6 => have := Hbe3.out.size; simp at this ⊢; omega
                    intro v' w4 hown' hgrow' _
                    obtain ⟨A4, c4, rfl, _⟩ := own_slice hown'
                    have Own4 := Lib.hid hown'
                    have B4 := Lib.hid (((Hbe3.out).alloc Hbe3.out.size (.cells #[.int .i64 xi, strV xk, strV xv] 43)).grown hgrow' (by have := Hbe3.out.size; simp at this ⊢; omega) (fun k hk => own_ge' (How3.out) hk))
                    clear hown' hgrow'
                    go_wp2
                    go_roundw
                    case rel =>
                      have hF := HF5.out
                      rw [if_neg Hov.out] at hF
                      exact ⟨acc ++ [(xi, xk, xv)], z + 1, f1, by simpa [cellsT_snoc] using Own4.out, by go_num, B4.out, by omega, by simp; omega, hF⟩
                    case measure => simp; omega
      · have hepb : (ep != 0) = true := by simpa using hep
        have hF := HFo.out
        have ho : outR l z ep = ep := by unfold outR; rw [if_pos hep]
        rw [ho, if_pos hep] at hF
        simp only [Prod.mk.injEq] at hF
        obtain ⟨rfl, rfl, rfl⟩ := hF
        have Hep := Lib.hid hep
        clear hep ho HFo
        go_wp2
        go_ret3
        exact ⟨_, rfl, World.ownsRow_nil _ _ _ _, B1.out.alloc B1.out.size _⟩

end Go.Proofs.Ytepmmcalnkchdaa
