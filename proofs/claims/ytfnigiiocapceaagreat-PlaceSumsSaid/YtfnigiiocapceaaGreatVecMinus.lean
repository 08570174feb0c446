/- What Minus, Times and Share answer of every two rows, or a row and a number: place by place, or the first error. Condition: they are ints. -/
import Derived.Test.YtfnigiiocapceaaGreatVecClo
namespace Go.Proofs.YtfnigiiocapceaaGreat.Qu
open Go.RowKit

def minusF (x y : Nat → Int) : Nat → Int × Int := fun k => subL (x k) (y k)
def timesF (x : Nat → Int) (m : Int) : Nat → Int × Int := fun k => mulL (x k) m
def shareF (x y : Nat → Int) : Nat → Int × Int := fun k => shareL (x k) (y k)

theorem run_func (fn : Fn) (first cap : Array Value) (w : World) : (Instr.makeFunc fn first cap).run Tryz.prog w = .ok (.func fn first cap) w := rfl
theorem alloc_size (w : World) (o : Obj) : (w.alloc o).heap.size = w.heap.size + 1 := by
  show (w.heap.push o).size = _
  simp
theorem below3 (w : World) (a b c : Obj) : Below w.heap.size w (((w.alloc a).alloc b).alloc c) := (below2 w a b).alloc (by rw [alloc_size, alloc_size]; omega) _
theorem new3 (w : World) (a b : Obj) (z : Nat → Int) : RowAt (((w.alloc a).alloc b).alloc (.cells #[.int .i64 (z 0), .int .i64 (z 1), .int .i64 (z 2), .int .i64 (z 3), .int .i64 (z 4)] 33)) (w.heap.size + 2) z := by
  have h := RowAt.new ((w.alloc a).alloc b) z
  rwa [alloc_size, alloc_size] at h

/-- The greatest of a row, 0 at least. -/
def greatest (r : Nat → Int) : Nat → Int
  | 0 => 0
  | k + 1 => if greatest r k < r k then r k else greatest r k

end Go.Proofs.YtfnigiiocapceaaGreat.Qu
