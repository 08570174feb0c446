/- What the document's Fits, and Over, the program's and the document's, answer of every two rows. No conditions. -/
import Derived.Test.YtfnigiiocapceaaGreatVecFits
namespace Go.Proofs.YtfnigiiocapceaaGreat.Qu
open Go.RowKit

theorem two_at (w : World) (x y : Nat → Int) : RowAt ((w.alloc (.cells #[.int .i64 (x 0), .int .i64 (x 1), .int .i64 (x 2), .int .i64 (x 3), .int .i64 (x 4)] 33)).alloc (.cells #[.int .i64 (y 0), .int .i64 (y 1), .int .i64 (y 2), .int .i64 (y 3), .int .i64 (y 4)] 33)) w.heap.size x ∧ RowAt ((w.alloc (.cells #[.int .i64 (x 0), .int .i64 (x 1), .int .i64 (x 2), .int .i64 (x 3), .int .i64 (x 4)] 33)).alloc (.cells #[.int .i64 (y 0), .int .i64 (y 1), .int .i64 (y 2), .int .i64 (y 3), .int .i64 (y 4)] 33)) (w.heap.size + 1) y :=
  ⟨heap_alloc2_old _ _ _, heap_alloc2_new _ _ _⟩

/-- What of x is above y, summed, as an int goes round. -/
def overV (x y : Nat → Int) : Nat → Int
  | 0 => 0
  | k + 1 => if y k < x k then wrap64 (overV x y k + (x k - y k)) else overV x y k

theorem wr_l (s d : Int) : wrap64 (s + wrap64 d) = wrap64 (s + d) := by unfold wrap64; omega
theorem wr_r (s a b : Int) : wrap64 (wrap64 (s + a) - b) = wrap64 (s + (a - b)) := by unfold wrap64; omega

end Go.Proofs.YtfnigiiocapceaaGreat.Qu
