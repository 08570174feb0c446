/- What the document's Minus, Times and Share answer of every two rows, or a row and a number: place by place, or the first error. Condition: they are ints. -/
import Derived.Test.YtfnigiiocapceaaGreatVecMinus
namespace Go.Proofs.YtfnigiiocapceaaGreat.Qu
open Go.RowKit

theorem RowAt.drew {w : World} {b : Nat} {x : Nat → Int} (h : RowAt w b x) : RowAt w.drew b x := h

/-- A row of which the first k are reckoned. -/
def part (f : Nat → Int × Int) (x : Nat → Int) (k : Nat) : Nat → Int := fun j => if j < k then (f j).1 else x j
theorem part_zero (f : Nat → Int × Int) (x : Nat → Int) : part f x 0 = x := by
  funext j
  simp [part]
theorem part_at (f : Nat → Int × Int) (x : Nat → Int) (k : Nat) : part f x k k = x k := by simp [part]
theorem part_succ {f : Nat → Int × Int} {x : Nat → Int} {k : Nat} {n : Int} (h : (f k).1 = n) : part f x (k + 1) = upd (part f x k) k n := by
  funext j
  unfold part upd
  by_cases hj : j = k
  · subst hj; simp [h]
  · by_cases hj2 : j < k
    · simp [hj, hj2, show j < k + 1 by omega]
    · simp [hj, hj2, show ¬ j < k + 1 by omega]

end Go.Proofs.YtfnigiiocapceaaGreat.Qu
