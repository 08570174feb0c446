/- Parse, Print, Share, Sub and Mul at a call whose answer is known. Condition of Print: the library's table of powers of ten lies as it was laid. -/
import Derived.Test.YtgmecaaogmpakaaDoorParse
import Derived.Test.YtgmecaaogmpakaaDoorPrint
import Derived.Test.YtgmecaaogmpakaaDoorReckon
namespace Go.Proofs.YtgmecaaogmpakaaDoor
open Go.RowKit


theorem parse_is (s : ByteArray) (milli : Bool) (w : World) (n a e0 : Int) (h : parseL s milli = (n, a, e0)) :
    Calls Tryd.prog 58 #[.string s, .bool milli] w fun e w' => e = .returned (.tuple #[.int .i64 n, .int .i64 a, .int .i64 e0]) ∧ Below w.heap.size w w' := by
  have k := parse_any s milli w
  rw [h] at k
  exact k

theorem print_is (n : Int) (milli : Bool) (w : World) (t : List UInt8) (e0 : Int) (ht : Tab w) (h : printL n milli = (t, e0)) :
    Calls Tryd.prog 43 #[.int .i64 n, .bool milli] w fun e w' => e = .returned (.tuple #[.string ⟨t.toArray⟩, .int .i64 e0]) ∧ Below w.heap.size w w' := by
  have k := print_any n milli w ht
  rw [h] at k
  exact k

theorem share_is (a b n e0 : Int) (w : World) (hr : 0 ≤ a ∧ a ≤ 9223372036854775807 ∧ 0 ≤ b ∧ b ≤ 9223372036854775807) (h : shareL a b = (n, e0)) :
    Calls Tryd.prog 40 #[.int .i64 a, .int .i64 b] w fun e w' => e = .returned (.tuple #[.int .i64 n, .int .i64 e0]) ∧ Below w.heap.size w w' := by
  have k := share_any a b w (by omega) (by omega) (by omega) (by omega)
  rw [h] at k
  exact k

theorem sub_is (a b n e0 : Int) (w : World) (hr : 0 ≤ a ∧ a ≤ 9223372036854775807 ∧ 0 ≤ b ∧ b ≤ 9223372036854775807) (h : subL a b = (n, e0)) :
    Calls Tryd.prog 34 #[.int .i64 a, .int .i64 b] w fun e w' => e = .returned (.tuple #[.int .i64 n, .int .i64 e0]) ∧ Below w.heap.size w w' := by
  have k := sub_any a b w (by omega) (by omega) (by omega) (by omega)
  rw [h] at k
  exact k
theorem mul_is (a b n e0 : Int) (w : World) (hr : 0 ≤ a ∧ a ≤ 9223372036854775807 ∧ 0 ≤ b ∧ b ≤ 9223372036854775807) (h : mulL a b = (n, e0)) :
    Calls Tryd.prog 37 #[.int .i64 a, .int .i64 b] w fun e w' => e = .returned (.tuple #[.int .i64 n, .int .i64 e0]) ∧ Below w.heap.size w w' := by
  have k := mul_any a b w (by omega) (by omega) (by omega) (by omega)
  rw [h] at k
  exact k

end Go.Proofs.YtgmecaaogmpakaaDoor
