/- The document's reader of all parts, and the program's, come to the same: plain mathematics. No conditions. -/
import Derived.Test.YtepmmcalnkchdaaLRefParts
import Derived.Test.YtepmmcalnkchdaaLMathP
namespace Go.Proofs.Ytepmmcalnkchdaa
open Go.RowKit

def vfS (star : Bool) : List UInt8 → Nat → List UInt8 × Bool × Nat := if star = true then anyF else valF
def riS (star : Bool) : List UInt8 × List UInt8 → List UInt8 × List UInt8 → Bool := if star = true then pairR else keyR
/-- A label as a term. -/
def asT (y : List UInt8 × List UInt8) : Int × List UInt8 × List UInt8 := (1, y)

theorem rise_same (star : Bool) (y x : List UInt8 × List UInt8) : riseR star (asT y) (asT x) = riS star y x := by
  cases star
  · simp [riseR, riS, asT, keyR]
  · simp only [riseR, riS, asT, pairR, Bool.true_and, ↓reduceIte]
    try rfl

theorem outS_false (l : List UInt8) (z : Nat) : outS l false z = if z = l.length then 3 else 4 := by unfold outS; rw [if_pos rfl]
theorem outS_true (l : List UInt8) (z : Nat) : outS l true z = if z ≠ l.length ∧ signL l z 44 = false then 4 else 0 := by unfold outS; rw [if_neg (by simp)]

theorem partsR_lab (star : Bool) (l : List UInt8) : ∀ (f : Nat) (acc : List (List UInt8 × List UInt8)) (a : Nat),
    partsR true star l f (acc.map asT) a = ((readF (labF (vfS star)) (riS star) l f acc a).1.map asT, (readF (labF (vfS star)) (riS star) l f acc a).2) := by
  intro f
  induction f with
  | zero => intro acc a; rfl
  | succ f ih =>
    intro acc a
    obtain ⟨h1, h2, h3⟩ := lab_same star l a (vfS star) rfl
    rw [partsR, readF, h2, h1]
    rcases hx : labF (vfS star) l a with ⟨x, is, z⟩
    rw [hx] at h1 h2 h3
    simp only at h1 h2 h3 ⊢
    cases is
    · have h0 : outS l false z ≠ 0 := by rw [outS_false]; split <;> decide
      rw [if_pos h0, if_pos rfl, outS_false]
      rfl
    · by_cases hsep : z ≠ l.length ∧ signL l z 44 = false
      · have h4 : outS l true z = 4 := by rw [outS_true, if_pos hsep]
        rw [h4, if_pos (by decide), if_neg (by simp), if_pos hsep]
        rfl
      · have h0 : outS l true z = 0 := by rw [outS_true, if_neg hsep]
        have hp : (partF true star l a).1 = asT x := h3 (h2.trans h0)
        rw [h0, if_neg (show ¬((0 : Int) ≠ 0) by decide), if_neg (show ¬(true = false) by decide), if_neg hsep, hp, List.length_map]
        by_cases h6 : acc.length = 6
        · rw [if_pos h6, if_pos h6]
          rfl
        · rw [if_neg h6, if_neg h6, List.getLast?_map, Option.map_map]
          have hr : ((fun y => riseR star y (asT x)) ∘ asT) = fun y => riS star y x := by
            funext y
            exact rise_same star y x
          rw [hr]
          by_cases hri : (acc.getLast?.map (fun y => riS star y x)).getD true = false
          · rw [if_pos ⟨trivial, hri⟩, if_pos hri]
            rfl
          · rw [if_neg (fun h => hri h.2), if_neg hri]
            have ha : acc.map asT ++ [asT x] = (acc ++ [x]).map asT := by simp
            rw [ha]
            by_cases he : z = l.length
            · rw [if_pos he, if_pos he]
            · rw [if_neg he, if_neg he]
              exact ih _ _

theorem partsA_lab (star : Bool) (l : List UInt8) : partsA true star l = ((readA (labF (vfS star)) (riS star) l).1.map asT, (readA (labF (vfS star)) (riS star) l).2) := by
  unfold partsA readA
  by_cases hl : l = []
  · rw [if_pos hl, if_pos hl]
    rfl
  · rw [if_neg hl, if_neg hl]
    exact partsR_lab star l 7 [] 0

theorem partsR_ter (l : List UInt8) : ∀ (f : Nat) (acc : List (Int × List UInt8 × List UInt8)) (a : Nat), partsR false false l f acc a = readF terF anyR l f acc a := by
  intro f
  induction f with
  | zero => intro acc a; rfl
  | succ f ih =>
    intro acc a
    obtain ⟨h1, h2, h3⟩ := ter_same l a
    rw [partsR, readF, h2, h1]
    rcases hx : terF l a with ⟨x, is, z⟩
    rw [hx] at h1 h2 h3
    simp only at h1 h2 h3 ⊢
    cases is
    · have h0 : outS l false z ≠ 0 := by rw [outS_false]; split <;> decide
      rw [if_pos h0, if_pos rfl, outS_false]
    · by_cases hsep : z ≠ l.length ∧ signL l z 44 = false
      · have h4 : outS l true z = 4 := by rw [outS_true, if_pos hsep]
        rw [h4, if_pos (by decide), if_neg (by simp), if_pos hsep]
      · have h0 : outS l true z = 0 := by rw [outS_true, if_neg hsep]
        have hp : (partF false false l a).1 = x := h3 (h2.trans h0)
        rw [h0, if_neg (show ¬((0 : Int) ≠ 0) by decide), if_neg (show ¬(true = false) by decide), if_neg hsep, hp]
        by_cases h6 : acc.length = 6
        · rw [if_pos h6, if_pos h6]
        · rw [if_neg h6, if_neg h6, if_neg (fun h => by simp at h)]
          have hri : ¬(acc.getLast?.map (fun y => anyR y x)).getD true = false := by
            cases acc.getLast? <;> simp [anyR]
          rw [if_neg hri]
          by_cases he : z = l.length
          · rw [if_pos he, if_pos he]
          · rw [if_neg he, if_neg he]
            exact ih _ _

theorem partsA_ter (l : List UInt8) : partsA false false l = readA terF anyR l := by
  unfold partsA readA
  by_cases hl : l = []
  · rw [if_pos hl, if_pos hl]
  · rw [if_neg hl, if_neg hl]
    exact partsR_ter l 7 [] 0

end Go.Proofs.Ytepmmcalnkchdaa
