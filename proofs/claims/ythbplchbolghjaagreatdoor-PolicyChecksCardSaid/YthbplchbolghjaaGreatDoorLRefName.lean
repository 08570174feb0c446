/- What the document's Value and Name answer of a text. Condition: a text that can lie in memory. -/
import Derived.Test.YthbplchbolghjaaGreatDoorLRefRun
import Derived.Test.YthbplchbolghjaaGreatDoorLCheck
namespace Go.Proofs.YthbplchbolghjaaGreatDoor.La
open Go.RowKit

/-- May a text be a value, a name, as the document says it? -/
def valR (s : List UInt8) : Bool := s.all (fun b => insB b.toNat) && decide (1 ≤ s.length ∧ s.length ≤ 15)
def headR (s : List UInt8) : Bool := match s with
  | b :: _ => letB b.toNat
  | [] => false
theorem span_iff (ok : Nat → Nat → Bool) : ∀ (t : List UInt8) (a : Nat), a ≤ 15 → (spanF ok t a = a + t.length ↔ (a + t.length ≤ 15 ∧ ∀ j (b : UInt8), t[j]? = some b → ok (a + j) b.toNat = true))
  | [], a, ha => by
    constructor
    · intro _
      exact ⟨by simpa using ha, fun j b h => by simp at h⟩
    · intro _
      rfl
  | b :: t, a, ha => by
    rw [spanF]
    by_cases h15 : a = 15
    · subst h15
      simp
      omega
    · cases hok : ok a b.toNat
      · rw [if_pos (.inr rfl)]
        constructor
        · intro h
          simp only [List.length_cons] at h
          omega
        · rintro ⟨_, h⟩
          have := h 0 b rfl
          rw [Nat.add_zero, hok] at this
          cases this
      · rw [if_neg (by rintro (h | h); exact h15 h; cases h)]
        have ih := span_iff ok t (a + 1) (by omega)
        have e : a + (b :: t).length = a + 1 + t.length := by simp only [List.length_cons]; omega
        rw [e, ih]
        constructor
        · rintro ⟨h1, h2⟩
          refine ⟨h1, fun j c hj => ?_⟩
          cases j with
          | zero =>
            simp only [List.getElem?_cons_zero, Option.some.injEq] at hj
            subst hj
            exact hok
          | succ j =>
            rw [List.getElem?_cons_succ] at hj
            have := h2 j c hj
            rwa [show a + 1 + j = a + (j + 1) by omega] at this
        · rintro ⟨h1, h2⟩
          refine ⟨h1, fun j c hj => ?_⟩
          have := h2 (j + 1) c (by rw [List.getElem?_cons_succ]; exact hj)
          rwa [show a + 1 + j = a + (j + 1) by omega]
theorem nameR_eq (s : List UInt8) : (valR s && headR s) = nameB s := by
  rw [Bool.eq_iff_iff]
  cases s with
  | nil => simp [valR, headR, nameB]
  | cons c t =>
    have h := span_iff okName (c :: t) 0 (by omega)
    rw [Nat.zero_add] at h
    unfold valR headR nameB
    simp only [Bool.and_eq_true, decide_eq_true_eq, List.all_eq_true]
    rw [h]
    constructor
    · rintro ⟨⟨ha, _, hl⟩, hc⟩
      refine ⟨by simp, hl, fun j b hj => ?_⟩
      have hb := ha b (List.mem_of_getElem? hj)
      rw [Nat.zero_add]
      unfold okName
      cases j with
      | zero =>
        simp only [List.getElem?_cons_zero, Option.some.injEq] at hj
        subst hj
        rw [hc, Bool.true_or]
      | succ j =>
        unfold insB at hb
        simp only [Nat.zero_lt_succ, decide_true, Bool.true_and]
        exact hb
    · rintro ⟨_, hl, ha⟩
      refine ⟨⟨fun b hb => ?_, by simp, hl⟩, ?_⟩
      · obtain ⟨j, hj⟩ := List.mem_iff_getElem?.1 hb
        have := ha j b hj
        unfold okName at this
        unfold insB
        revert this
        cases letB b.toNat <;> cases digB b.toNat <;> simp
      · have := ha 0 c rfl
        simpa [okName] using this

set_option maxRecDepth 100000 in
set_option maxHeartbeats 400000 in
theorem rvalue_any (s : List UInt8) (w : World) (hl : s.length ≤ 9223372036854775807) :
    Calls Tryz.prog 57 #[strV s] w fun e w' => e = .returned (.bool (valR s)) ∧ w = w' := by
  obtain ⟨R, hR⟩ : ∃ R, valR s = R := ⟨_, rfl⟩
  rw [hR]
  have HR := Lib.hid hR
  clear hR
  go_enter Tryz.func57, Tryz.ntmps57
  go_wp2
  go_loop [3] (fun t => ∃ p : Nat, p ≤ s.length ∧ t = .int .i64 p ∧ (∀ j b, j < p → s[j]? = some b → insB b.toNat = true)) (fun t => s.length - (intOf t).toNat)
  case atStart => exact ⟨0, by omega, rfl, fun j b h => by omega⟩
  case round =>
    obtain ⟨p, hp, rfl, ha⟩ := hrel
    have HA := Lib.hid ha
    clear ha
    have p0 : (0 : Int) ≤ (p : Int) := by omega
    by_cases hlt : p < s.length
    · have hlti : (p : Int) < (s.length : Int) := by omega
      have KI := Lib.hid (fun w => rinside_any (s[p]) w)
      have HX : Hid (s[p]? = some s[p]) := Lib.hid (List.getElem?_eq_getElem hlt)
      cases hin : insB (s[p]).toNat
      · have E : Hid (R = false) := Lib.hid (by
          rw [← HR.out]
          unfold valR
          rw [Bool.and_eq_false_iff]
          left
          rw [List.all_eq_false]
          exact ⟨s[p], List.getElem_mem hlt, by simp [hin]⟩)
        rw [hin] at KI
        clear hin
        go_wp2_with (go_at_call 86; refine (KI.out _).mono ?_; rintro e w1 ⟨rfl, rfl⟩)
        go_ret
        exact ⟨retB E.out.symm, rfl⟩
      · rw [hin] at KI
        have HI := Lib.hid hin
        clear hin
        go_wp2_with (go_at_call 86; refine (KI.out _).mono ?_; rintro e w1 ⟨rfl, rfl⟩)
        go_round
        case rel =>
          refine ⟨p + 1, by omega, by go_num, fun j b hj hb => ?_⟩
          by_cases hjp : j = p
          · subst hjp
            rw [HX.out] at hb
            cases hb
            exact HI.out
          · exact HA.out j b (by omega) hb
        case measure => simp [intOf]; omega
    · obtain rfl : p = s.length := by omega
      have E : Hid (R = decide (1 ≤ s.length ∧ s.length ≤ 15)) := Lib.hid (by
        rw [← HR.out]
        unfold valR
        rw [show (s.all fun b => insB b.toNat) = true from List.all_eq_true.2 (fun b hb => by
          obtain ⟨j, hj⟩ := List.mem_iff_getElem?.1 hb
          exact HA.out j b (List.getElem?_eq_some_iff.1 hj).1 hj), Bool.true_and])
      clear HA HR
      by_cases h1 : (1 : Int) ≤ (s.length : Int)
      · go_wp2
        go_ret
        refine ⟨retB ?_, rfl⟩
        rw [E.out, Bool.eq_iff_iff]
        simp
        try omega
      · go_wp2
        go_ret
        refine ⟨retB ?_, rfl⟩
        rw [E.out, Bool.eq_iff_iff]
        simp
        try omega
theorem rname_any (s : List UInt8) (w : World) (hl : s.length ≤ 9223372036854775807) :
    Calls Tryz.prog 36 #[strV s] w fun e w' => e = .returned (.bool (nameB s)) ∧ w = w' := by
  have K := Lib.hid (rvalue_any s w hl)
  have E := Lib.hid (nameR_eq s)
  generalize nameB s = R at E ⊢
  cases hv : valR s
  · rw [hv] at K E
    clear hv
    go_enter Tryz.func36, Tryz.ntmps36
    go_wp2_with fail
    refine (K.out).mono ?_
    rintro e w1 ⟨rfl, rfl⟩
    go_wp2
    go_ret
    exact ⟨retB E.out, rfl⟩
  · rw [hv] at K E
    cases s with
    | nil => simp [valR] at hv
    | cons c t =>
      clear hv
      have KL := Lib.hid (fun w => rletter_any c w)
      have E2 : Hid (R = letB c.toNat) := Lib.hid (by rw [← E.out]; rfl)
      have h0 : (0 : Int) < ((c :: t).length : Int) := by simp
      go_enter Tryz.func36, Tryz.ntmps36
      go_wp2_with fail
      refine (K.out).mono ?_
      rintro e w1 ⟨rfl, rfl⟩
      go_wp2_with fail
      refine (KL.out _).mono ?_
      rintro e w1 ⟨rfl, rfl⟩
      go_wp2
      go_ret
      exact ⟨retB E2.out.symm, rfl⟩
end Go.Proofs.YthbplchbolghjaaGreatDoor.La
