/- Sub, Mul and Share, the program's and the document's, at a call whose answer is known. No conditions but that the numbers are ints. -/
import Derived.Test.YtgmecaaogmpakaaDoorReckon
namespace Go.Proofs.YtgmecaaogmpakaaDoor
open Go.RowKit

theorem sub_to (a b n e0 : Int) (w : World) (ha : -9223372036854775808 ≤ a) (ha' : a ≤ 9223372036854775807) (hb : -9223372036854775808 ≤ b) (hb' : b ≤ 9223372036854775807) (h : subL a b = (n, e0)) :
    Calls Tryd.prog 34 #[.int .i64 a, .int .i64 b] w fun e w' => e = .returned (.tuple #[.int .i64 n, .int .i64 e0]) ∧ Below w.heap.size w w' := by
  have k := sub_any a b w ha ha' hb hb'
  rw [h] at k
  exact k
theorem rsub_to (a b n e0 : Int) (w : World) (ha : -9223372036854775808 ≤ a) (ha' : a ≤ 9223372036854775807) (hb : -9223372036854775808 ≤ b) (hb' : b ≤ 9223372036854775807) (h : subL a b = (n, e0)) :
    Calls Tryd.prog 35 #[.int .i64 a, .int .i64 b] w fun e w' => e = .returned (.tuple #[.int .i64 n, .int .i64 e0]) ∧ Below w.heap.size w w' := by
  have k := rsub_any a b w ha ha' hb hb'
  rw [h] at k
  exact k
theorem mul_to (a b n e0 : Int) (w : World) (ha : -9223372036854775808 ≤ a) (ha' : a ≤ 9223372036854775807) (hb : -9223372036854775808 ≤ b) (hb' : b ≤ 9223372036854775807) (h : mulL a b = (n, e0)) :
    Calls Tryd.prog 37 #[.int .i64 a, .int .i64 b] w fun e w' => e = .returned (.tuple #[.int .i64 n, .int .i64 e0]) ∧ Below w.heap.size w w' := by
  have k := mul_any a b w ha ha' hb hb'
  rw [h] at k
  exact k
theorem rmul_to (a b n e0 : Int) (w : World) (ha : -9223372036854775808 ≤ a) (ha' : a ≤ 9223372036854775807) (hb : -9223372036854775808 ≤ b) (hb' : b ≤ 9223372036854775807) (h : mulL a b = (n, e0)) :
    Calls Tryd.prog 38 #[.int .i64 a, .int .i64 b] w fun e w' => e = .returned (.tuple #[.int .i64 n, .int .i64 e0]) ∧ Below w.heap.size w w' := by
  have k := rmul_any a b w ha ha' hb hb'
  rw [h] at k
  exact k
theorem share_to (a b n e0 : Int) (w : World) (ha : -9223372036854775808 ≤ a) (ha' : a ≤ 9223372036854775807) (hb : -9223372036854775808 ≤ b) (hb' : b ≤ 9223372036854775807) (h : shareL a b = (n, e0)) :
    Calls Tryd.prog 40 #[.int .i64 a, .int .i64 b] w fun e w' => e = .returned (.tuple #[.int .i64 n, .int .i64 e0]) ∧ Below w.heap.size w w' := by
  have k := share_any a b w ha ha' hb hb'
  rw [h] at k
  exact k
theorem rshare_to (a b n e0 : Int) (w : World) (ha : -9223372036854775808 ≤ a) (ha' : a ≤ 9223372036854775807) (hb : -9223372036854775808 ≤ b) (hb' : b ≤ 9223372036854775807) (h : shareL a b = (n, e0)) :
    Calls Tryd.prog 41 #[.int .i64 a, .int .i64 b] w fun e w' => e = .returned (.tuple #[.int .i64 n, .int .i64 e0]) ∧ Below w.heap.size w w' := by
  have k := rshare_any a b w ha ha' hb hb'
  rw [h] at k
  exact k

end Go.Proofs.YtgmecaaogmpakaaDoor
