/- What the document's Fits, and Over, the program's and the document's, answer of every two rows. No conditions. -/
import Derived.Test.YtgmecaaogmpakaaDoorVecFits
namespace Go.Proofs.YtgmecaaogmpakaaDoor
open Go.RowKit

theorem two_at (w : World) (x y : Nat → Int) : RowAt ((w.alloc (.cells #[.int .i64 (x 0), .int .i64 (x 1), .int .i64 (x 2), .int .i64 (x 3), .int .i64 (x 4)] 24)).alloc (.cells #[.int .i64 (y 0), .int .i64 (y 1), .int .i64 (y 2), .int .i64 (y 3), .int .i64 (y 4)] 24)) w.heap.size x ∧ RowAt ((w.alloc (.cells #[.int .i64 (x 0), .int .i64 (x 1), .int .i64 (x 2), .int .i64 (x 3), .int .i64 (x 4)] 24)).alloc (.cells #[.int .i64 (y 0), .int .i64 (y 1), .int .i64 (y 2), .int .i64 (y 3), .int .i64 (y 4)] 24)) (w.heap.size + 1) y :=
  ⟨heap_alloc2_old _ _ _, heap_alloc2_new _ _ _⟩

set_option maxHeartbeats 400000 in
theorem rfits_any (x y : Nat → Int) (w : World) :
    Calls Tryd.prog 19 #[.agg #[.int .i64 (x 0), .int .i64 (x 1), .int .i64 (x 2), .int .i64 (x 3), .int .i64 (x 4)], .agg #[.int .i64 (y 0), .int .i64 (y 1), .int .i64 (y 2), .int .i64 (y 3), .int .i64 (y 4)]] w fun e w' => e = .returned (.bool (fitsV x y)) ∧ Below w.heap.size w w' := by
  go_enter Tryd.func19, Tryd.ntmps19
  go_wp2
  go_loopw [5] (fun i wr => ∃ k : Nat, k ≤ 5 ∧ i = .int .i64 k ∧ (∀ j, j < k → x j ≤ y j) ∧ RowAt wr w.heap.size x ∧ RowAt wr (w.heap.size + 1) y ∧ Below w.heap.size w wr) (fun i _ => 5 - (intOf i).toNat)
  case atStart => exact ⟨0, by omega, rfl, by omega, (two_at w x y).1, (two_at w x y).2, below2 _ _ _⟩
  case round =>
    obtain ⟨k, hk, rfl, hall, hx, hy, hb⟩ := hrel
    have Hall := Lib.hid hall
    have Hx := Lib.hid hx
    have Hy := Lib.hid hy
    have HB := Lib.hid hb
    clear hall hx hy hb
    by_cases hlt : k < 5
    · have cx := Hx.out.cell hlt
      have cy := Hy.out.cell hlt
      by_cases hneg : y k < x k
      · go_wp2
        go_quiet (fail)
        go_wp2
        go_ret
        exact ⟨retB (fitsV_no hlt hneg).symm, belowN HB.out _⟩
      · go_wp2
        go_quiet (fail)
        go_wp2
        go_roundw
        case rel => exact ⟨k + 1, by omega, by go_num, all_snoc Hall.out (by omega), Hx.out, Hy.out, belowN HB.out _⟩
        case measure => simp [intOf]; omega
    · go_wp2
      go_ret
      exact ⟨retB (fitsV_yes (fun j hj => Hall.out j (by omega))).symm, HB.out⟩

/-- What of x is above y, summed, as an int goes round. -/
def overV (x y : Nat → Int) : Nat → Int
  | 0 => 0
  | k + 1 => if y k < x k then wrap64 (overV x y k + (x k - y k)) else overV x y k

theorem wr_l (s d : Int) : wrap64 (s + wrap64 d) = wrap64 (s + d) := by unfold wrap64; omega
theorem wr_r (s a b : Int) : wrap64 (wrap64 (s + a) - b) = wrap64 (s + (a - b)) := by unfold wrap64; omega

set_option maxHeartbeats 400000 in
theorem over_any (x y : Nat → Int) (w : World) :
    Calls Tryd.prog 20 #[.agg #[.int .i64 (x 0), .int .i64 (x 1), .int .i64 (x 2), .int .i64 (x 3), .int .i64 (x 4)], .agg #[.int .i64 (y 0), .int .i64 (y 1), .int .i64 (y 2), .int .i64 (y 3), .int .i64 (y 4)]] w fun e w' => e = .returned (.int .i64 (overV x y 5)) ∧ Below w.heap.size w w' := by
  go_enter Tryd.func20, Tryd.ntmps20
  go_wp2
  go_loop [5, 9] (fun s i => ∃ k : Nat, k ≤ 5 ∧ i = .int .i64 k ∧ s = .int .i64 (overV x y k)) (fun _ i => 5 - (intOf i).toNat)
  case atStart => exact ⟨0, by omega, rfl, rfl⟩
  case round =>
    obtain ⟨k, hk, rfl, rfl⟩ := hrel
    by_cases hlt : k < 5
    · have hi := fun w => idx_row x k hlt w
      have hc := cell_two' y k hlt w 24 (.cells #[.int .i64 (x 0), .int .i64 (x 1), .int .i64 (x 2), .int .i64 (x 3), .int .i64 (x 4)] 24)
      by_cases hneg : y k < x k
      · go_wp2
        go_round
        case rel => exact ⟨k + 1, by omega, by go_num, by rw [overV, if_pos hneg, wr_l]⟩
        case measure => simp [intOf]; omega
      · go_wp2
        go_round
        case rel => exact ⟨k + 1, by omega, by go_num, by rw [overV, if_neg (by omega)]⟩
        case measure => simp [intOf]; omega
    · obtain rfl : k = 5 := by omega
      go_wp2
      go_ret
      exact ⟨rfl, below2 _ _ _⟩

set_option maxHeartbeats 400000 in
theorem rover_any (x y : Nat → Int) (w : World) :
    Calls Tryd.prog 21 #[.agg #[.int .i64 (x 0), .int .i64 (x 1), .int .i64 (x 2), .int .i64 (x 3), .int .i64 (x 4)], .agg #[.int .i64 (y 0), .int .i64 (y 1), .int .i64 (y 2), .int .i64 (y 3), .int .i64 (y 4)]] w fun e w' => e = .returned (.int .i64 (overV x y 5)) ∧ Below w.heap.size w w' := by
  go_enter Tryd.func21, Tryd.ntmps21
  go_wp2
  go_loopw [5, 6] (fun s i wr => ∃ k : Nat, k ≤ 5 ∧ i = .int .i64 k ∧ s = .int .i64 (overV x y k) ∧ RowAt wr w.heap.size x ∧ RowAt wr (w.heap.size + 1) y ∧ Below w.heap.size w wr) (fun _ i _ => 5 - (intOf i).toNat)
  case atStart => exact ⟨0, by omega, rfl, rfl, (two_at w x y).1, (two_at w x y).2, below2 _ _ _⟩
  case round =>
    obtain ⟨k, hk, rfl, rfl, hx, hy, hb⟩ := hrel
    have Hx := Lib.hid hx
    have Hy := Lib.hid hy
    have HB := Lib.hid hb
    clear hx hy hb
    by_cases hlt : k < 5
    · have cx := Hx.out.cell hlt
      have cy := Hy.out.cell hlt
      by_cases hneg : y k < x k
      · go_wp2
        go_quiet (fail)
        go_wp2
        go_quiet (fail)
        go_wp2
        go_roundw
        case rel => exact ⟨k + 1, by omega, by go_num, by rw [overV, if_pos hneg, ← wr_r], Hx.out, Hy.out, belowN HB.out _⟩
        case measure => simp [intOf]; omega
      · go_wp2
        go_quiet (fail)
        go_wp2
        go_roundw
        case rel => exact ⟨k + 1, by omega, by go_num, by rw [overV, if_neg (by omega)], Hx.out, Hy.out, belowN HB.out _⟩
        case measure => simp [intOf]; omega
    · obtain rfl : k = 5 := by omega
      go_wp2
      go_ret
      exact ⟨rfl, HB.out⟩

end Go.Proofs.YtgmecaaogmpakaaDoor
