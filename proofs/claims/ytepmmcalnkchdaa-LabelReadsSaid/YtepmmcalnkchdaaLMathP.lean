/- The document's reader of a part, and the program's, come to the same: plain mathematics. No conditions. -/
import Derived.Test.YtepmmcalnkchdaaLMath
import Derived.Test.YtepmmcalnkchdaaLRefPart
namespace Go.Proofs.Ytepmmcalnkchdaa
open Go.RowKit

/-- What becomes of a part with what stands behind it: where it ends, or where it is wrong; how. -/
def outS (l : List UInt8) (is : Bool) (z : Nat) : Int :=
  if is = false then (if z = l.length then 3 else 4) else if z ≠ l.length ∧ signL l z 44 = false then 4 else 0
def outR (l : List UInt8) (z : Nat) (e : Int) : Int := if e ≠ 0 then e else if z ≠ l.length ∧ signL l z 44 = false then 4 else 0

theorem ins_not_sign {l : List UInt8} {i : Nat} (h : insAt l i = true) (c : UInt8) (hc : insB c.toNat = false) : signL l i c = false := by
  unfold insAt at h
  unfold signL
  cases hq : l[i]? with
  | none => rw [hq] at h; cases h
  | some b =>
    rw [hq] at h
    simp only at h
    simp only [Option.some.injEq, decide_eq_false_iff_not]
    intro e
    subst e
    rw [hc] at h
    cases h
theorem ins_lt {l : List UInt8} {i : Nat} (h : insAt l i = true) : i ≠ l.length := by
  intro e
  unfold insAt at h
  rw [List.getElem?_eq_none (by omega)] at h
  cases h

/-- A word that is none, or is one, either way. -/
theorem run_cases (nm : Bool) (l : List UInt8) (a n : Nat) (hn : wordL (if nm = true then okName else okVal) l a = n) :
    (n = 0 ∧ runF nm l a = ([], a, if a = l.length then 3 else 4)) ∨ (0 < n ∧ insAt l (a + n) = true ∧ runF nm l a = ([], a + n, 4)) ∨ (0 < n ∧ runF nm l a = ((l.drop a).take n, a + n, 0)) := by
  unfold runF
  rw [hn]
  by_cases h0 : n = 0
  · refine .inl ⟨h0, ?_⟩
    subst h0
    by_cases he : a = l.length
    · simp [he]
    · simp [he]
  · by_cases hi : insAt l (a + n) = true
    · exact .inr (.inl ⟨by omega, hi, by simp [h0, hi]⟩)
    · exact .inr (.inr ⟨by omega, by simp [h0, hi]⟩)

/-- A value: what the program's reader answers, and the document's. -/
theorem val_same (l : List UInt8) (z : Nat) :
    (runF false l z).2.1 = (valF l z).2.2 ∧ outR l (runF false l z).2.1 (runF false l z).2.2 = outS l (valF l z).2.1 (valF l z).2.2 ∧ ((runF false l z).2.2 = 0 → (runF false l z).1 = (valF l z).1) := by
  obtain ⟨n, hn⟩ : ∃ n, wordL okVal l z = n := ⟨_, rfl⟩
  have hv : valF l z = ((l.drop z).take n, decide (0 < n), z + n) := by unfold valF; rw [hn]
  rw [hv]
  rcases run_cases false l z n hn with ⟨h0, e⟩ | ⟨h0, hi, e⟩ | ⟨h0, e⟩
  · rw [e]
    subst h0
    refine ⟨rfl, ?_, ?_⟩
    · unfold outR outS
      by_cases he : z = l.length
      · simp [he]
      · simp [he]
    · intro h
      by_cases he : z = l.length
      · simp [he] at h
      · simp [he] at h
  · rw [e]
    have h1 := ins_lt hi
    have h2 := ins_not_sign hi 44 (by decide)
    simp [outR, outS, h0, h1, h2]
  · rw [e]
    simp [outR, outS, h0]

theorem val_any (l : List UInt8) (z : Nat) (hs : signL l z 42 = true) : anyF l z = ([42], true, z + 1) := by unfold anyF; rw [if_pos hs]
theorem val_not_any (l : List UInt8) (z : Nat) (hs : signL l z 42 = false) : anyF l z = valF l z := by unfold anyF; rw [if_neg (by rw [hs]; simp)]

theorem outR_zero {l : List UInt8} {z : Nat} {e : Int} (h : outR l z e = 0) : e = 0 := by
  unfold outR at h
  by_cases hz : e = 0
  · exact hz
  · rw [if_pos hz] at h; exact h

/-- A part that is right, or not: of labels. -/
theorem lab_same (star : Bool) (l : List UInt8) (a : Nat) (vf : List UInt8 → Nat → List UInt8 × Bool × Nat) (hvf : vf = if star = true then anyF else valF) :
    (partF true star l a).2.1 = (labF vf l a).2.2 ∧ outR l (partF true star l a).2.1 (partF true star l a).2.2 = outS l (labF vf l a).2.1 (labF vf l a).2.2 ∧
      (outR l (partF true star l a).2.1 (partF true star l a).2.2 = 0 → (partF true star l a).1 = (1, (labF vf l a).1)) := by
  obtain ⟨n, hn⟩ : ∃ n, wordL okName l a = n := ⟨_, rfl⟩
  rcases run_cases true l a n hn with ⟨h0, e⟩ | ⟨h0, hi, e⟩ | ⟨h0, e⟩
  · subst h0
    by_cases he : a = l.length
    · rw [if_pos he] at e
      subst he
      simp [partF, labF, hn, e, outR, outS]
    · rw [if_neg he] at e
      simp [partF, labF, hn, e, outR, outS, he]
  · have hs : signL l (a + n) 61 = false := ins_not_sign hi 61 (by decide)
    have hn0 : ¬ n = 0 := by omega
    have h1 := ins_lt hi
    simp [partF, labF, hn, e, outR, outS, hs, hn0, h1]
  · have hn0 : ¬ n = 0 := by omega
    cases hs : signL l (a + n) 61
    · by_cases he : a + n = l.length
      · have hs' : signL l l.length 61 = false := by rw [← he]; exact hs
        simp [partF, labF, hn, e, outR, outS, hs', hn0, he]
      · simp [partF, labF, hn, e, outR, outS, hs, hn0, he]
    · have hv := val_same l (a + n + 1)
      subst hvf
      cases star
      · have e1 : partF true false l a = ((1, (l.drop a).take n, (runF false l (a + n + 1)).1), (runF false l (a + n + 1)).2.1, (runF false l (a + n + 1)).2.2) := by
          simp [partF, e, hs]
        have e2 : labF (if false = true then anyF else valF) l a = (((l.drop a).take n, (valF l (a + n + 1)).1), (valF l (a + n + 1)).2) := by
          simp [labF, hn, hn0, hs]
        rw [e1, e2]
        exact ⟨hv.1, hv.2.1, fun h => by rw [hv.2.2 (outR_zero h)]⟩
      · cases h4 : signL l (a + n + 1) 42
        · have e1 : partF true true l a = ((1, (l.drop a).take n, (runF false l (a + n + 1)).1), (runF false l (a + n + 1)).2.1, (runF false l (a + n + 1)).2.2) := by
            simp [partF, e, hs, h4]
          have e2 : labF (if true = true then anyF else valF) l a = (((l.drop a).take n, (valF l (a + n + 1)).1), (valF l (a + n + 1)).2) := by
            simp [labF, hn, hn0, hs, val_not_any l _ h4]
          rw [e1, e2]
          exact ⟨hv.1, hv.2.1, fun h => by rw [hv.2.2 (outR_zero h)]⟩
        · have e1 : partF true true l a = ((1, (l.drop a).take n, [42]), a + n + 1 + 1, 0) := by
            simp [partF, e, hs, h4]
          have e2 : labF (if true = true then anyF else valF) l a = (((l.drop a).take n, [42]), true, a + n + 1 + 1) := by
            simp [labF, hn, hn0, hs, val_any l _ h4]
          rw [e1, e2]
          exact ⟨rfl, by simp [outR, outS], fun _ => rfl⟩

/-- A part that is right, or not: of terms. -/
theorem ter_same (l : List UInt8) (a : Nat) :
    (partF false false l a).2.1 = (terF l a).2.2 ∧ outR l (partF false false l a).2.1 (partF false false l a).2.2 = outS l (terF l a).2.1 (terF l a).2.2 ∧
      (outR l (partF false false l a).2.1 (partF false false l a).2.2 = 0 → (partF false false l a).1 = (terF l a).1) := by
  cases hs : signL l a 33
  · obtain ⟨n, hn⟩ : ∃ n, wordL okName l a = n := ⟨_, rfl⟩
    rcases run_cases true l a n hn with ⟨h0, e⟩ | ⟨h0, hi, e⟩ | ⟨h0, e⟩
    · subst h0
      by_cases he : a = l.length
      · rw [if_pos he] at e
        subst he
        simp [partF, terF, hs, hn, e, outR, outS]
      · rw [if_neg he] at e
        simp [partF, terF, hs, hn, e, outR, outS, he]
    · have hn0 : ¬ n = 0 := by omega
      have h1 : signL l (a + n) 61 = false := ins_not_sign hi 61 (by decide)
      have h2 : signL l (a + n) 33 = false := ins_not_sign hi 33 (by decide)
      have h3 : signL l (a + n) 44 = false := ins_not_sign hi 44 (by decide)
      have h4 := ins_lt hi
      have hr : relF l (a + n) = (3, true, a + n) := by unfold relF; simp [h1, h2]
      simp [partF, terF, hs, hn, e, hr, outR, outS, hn0, h3, h4]
    · have hn0 : ¬ n = 0 := by omega
      cases h3 : signL l (a + n) 33
      · cases h6 : signL l (a + n) 61
        · have hr : relF l (a + n) = (3, true, a + n) := by unfold relF; simp [h3, h6]
          simp [partF, terF, hs, hn, e, hr, outR, outS, hn0, h3, h6]
        · have hr : relF l (a + n) = (1, true, a + n + 1) := by unfold relF; simp [h6]
          have hv := val_same l (a + n + 1)
          have e1 : partF false false l a = ((1, (l.drop a).take n, (runF false l (a + n + 1)).1), (runF false l (a + n + 1)).2.1, (runF false l (a + n + 1)).2.2) := by
            simp [partF, hs, e, h3, h6]
          have e2 : terF l a = ((1, (l.drop a).take n, (valF l (a + n + 1)).1), (valF l (a + n + 1)).2) := by
            simp [terF, hs, hn, hn0, hr]
          rw [e1, e2]
          exact ⟨hv.1, hv.2.1, fun h => by rw [hv.2.2 (outR_zero h)]⟩
      · have h6 : signL l (a + n) 61 = false := by
          have h3' := sign_at h3
          unfold signL
          rw [h3']
          decide
        cases h7 : signL l (a + n + 1) 61
        · have hr : relF l (a + n) = (2, false, a + n + 1) := by unfold relF; simp [h3, h6, h7]
          by_cases he : a + n + 1 = l.length
          · simp [partF, terF, hs, hn, e, hr, outR, outS, hn0, h3, he]
          · simp [partF, terF, hs, hn, e, hr, outR, outS, hn0, h3, h7, he]
        · have hr : relF l (a + n) = (2, true, a + n + 2) := by unfold relF; simp [h3, h6, h7]
          have hlt := sign_lt h7
          have hne : ¬ (a + n + 1 = l.length) := by omega
          have hv := val_same l (a + n + 2)
          have e1 : partF false false l a = ((2, (l.drop a).take n, (runF false l (a + n + 2)).1), (runF false l (a + n + 2)).2.1, (runF false l (a + n + 2)).2.2) := by
            simp [partF, hs, e, h3, h7, hne]
          have e2 : terF l a = ((2, (l.drop a).take n, (valF l (a + n + 2)).1), (valF l (a + n + 2)).2) := by
            simp [terF, hs, hn, hn0, hr]
          rw [e1, e2]
          exact ⟨hv.1, hv.2.1, fun h => by rw [hv.2.2 (outR_zero h)]⟩
  · obtain ⟨n, hn⟩ : ∃ n, wordL okName l (a + 1) = n := ⟨_, rfl⟩
    rcases run_cases true l (a + 1) n hn with ⟨h0, e⟩ | ⟨h0, hi, e⟩ | ⟨h0, e⟩
    · subst h0
      by_cases he : a + 1 = l.length
      · rw [if_pos he] at e
        rw [he] at e hn
        simp [partF, terF, hs, hn, e, outR, outS, he]
      · rw [if_neg he] at e
        simp [partF, terF, hs, hn, e, outR, outS, he]
    · have h4 := ins_lt hi
      have h3 : signL l (a + 1 + n) 44 = false := ins_not_sign hi 44 (by decide)
      simp [partF, terF, hs, hn, e, outR, outS, h0, h3, h4]
    · simp [partF, terF, hs, hn, e, outR, outS, h0]

end Go.Proofs.Ytepmmcalnkchdaa
