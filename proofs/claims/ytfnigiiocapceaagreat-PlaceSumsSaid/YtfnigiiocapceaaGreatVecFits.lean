/- What the document's Check, and Fits and Over, the program's and the document's, answer of every row. No conditions. -/
import Derived.Test.YtfnigiiocapceaaGreatVecCheck
import Derived.RegionTactic
namespace Go.Proofs.YtfnigiiocapceaaGreat.Qu
open Go.RowKit

theorem cell_new (x : Nat → Int) (k : Nat) (h : k < 5) (w : World) (t : Nat) : (w.alloc (.cells #[.int .i64 (x 0), .int .i64 (x 1), .int .i64 (x 2), .int .i64 (x 3), .int .i64 (x 4)] t)).cell? ⟨w.heap.size, k, none⟩ = some (.int .i64 (x k)) :=
  cell_row x k h _ _ _ _ (heap_alloc_new _ _)

set_option maxHeartbeats 400000 in
theorem rvcheck_any (x : Nat → Int) (w : World) :
    Calls Tryz.prog 114 #[.agg #[.int .i64 (x 0), .int .i64 (x 1), .int .i64 (x 2), .int .i64 (x 3), .int .i64 (x 4)]] w fun e w' => e = .returned (.int .i64 (chkV x)) ∧ Below w.heap.size w w' := by
  go_enter Tryz.func114, Tryz.ntmps114
  go_wp2
  go_loop [3] (fun i => ∃ k : Nat, k ≤ 5 ∧ i = .int .i64 k ∧ ∀ j, j < k → 0 ≤ x j) (fun i => 5 - (intOf i).toNat)
  case atStart => exact ⟨0, by omega, rfl, by omega⟩
  case round =>
    obtain ⟨k, hk, rfl, hall⟩ := hrel
    have Hall := Lib.hid hall
    clear hall
    by_cases hlt : k < 5
    · have hi := cell_new x k hlt w 33
      by_cases hneg : x k < 0
      · go_wp2
        go_ret
        exact ⟨retI (chkV_neg hlt hneg).symm, (Below.refl _ _).alloc (Nat.le_refl _) _⟩
      · go_wp2
        go_round
        case rel => exact ⟨k + 1, by omega, by go_num, all_snoc Hall.out (by omega)⟩
        case measure => simp [intOf]; omega
    · have H0 : Hid (∀ j, j < 5 → 0 ≤ x j) := fun j hj => Hall.out j (by omega)
      go_wp2
      go_loop [4] (fun i => ∃ k : Nat, k ≤ 5 ∧ i = .int .i64 k ∧ ∀ j, j < k → x j ≤ top) (fun i => 5 - (intOf i).toNat)
      case atStart => exact ⟨0, by omega, rfl, by omega⟩
      case round =>
        obtain ⟨m, hm, rfl, hall⟩ := hrel
        have Hall2 := Lib.hid hall
        clear hall
        by_cases hlt : m < 5
        · have hi := cell_new x m hlt w 33
          by_cases hbig : 1099511627776 < x m
          · go_wp2
            go_ret
            exact ⟨retI (chkV_over H0.out hlt (by unfold top; omega)).symm, (Below.refl _ _).alloc (Nat.le_refl _) _⟩
          · go_wp2
            go_round
            case rel => exact ⟨m + 1, by omega, by go_num, all_snoc Hall2.out (by unfold top; omega)⟩
            case measure => simp [intOf]; omega
        · go_wp2
          go_ret
          exact ⟨retI (chkV_ok H0.out (fun j hj => Hall2.out j (by omega))).symm, (Below.refl _ _).alloc (Nat.le_refl _) _⟩

/-- Whether each of x is at most that of y. -/
def fitsV (x y : Nat → Int) : Bool := decide (x 0 ≤ y 0) && decide (x 1 ≤ y 1) && decide (x 2 ≤ y 2) && decide (x 3 ≤ y 3) && decide (x 4 ≤ y 4)
theorem fitsV_no {x y : Nat → Int} {k : Nat} (hk : k < 5) (h : y k < x k) : fitsV x y = false := by
  have hk : k = 0 ∨ k = 1 ∨ k = 2 ∨ k = 3 ∨ k = 4 := by omega
  have h' : decide (x k ≤ y k) = false := by simp; omega
  unfold fitsV
  rcases hk with rfl | rfl | rfl | rfl | rfl <;> simp [h']
theorem fitsV_yes {x y : Nat → Int} (h : ∀ j, j < 5 → x j ≤ y j) : fitsV x y = true := by
  unfold fitsV
  simp [h]
theorem fitsV_iff (x y : Nat → Int) : fitsV x y = true ↔ ∀ j, j < 5 → x j ≤ y j := by
  refine ⟨fun h j hj => ?_, fitsV_yes⟩
  rcases Int.lt_or_le (y j) (x j) with g | g
  · rw [fitsV_no hj g] at h; cases h
  · exact g

theorem retB {a b : Bool} (h : a = b) : Ending.returned (.bool a) = .returned (.bool b) := by rw [h]

theorem cell_two (x : Nat → Int) (k : Nat) (h : k < 5) (w : World) (t : Nat) (o : Obj) : ((w.alloc (.cells #[.int .i64 (x 0), .int .i64 (x 1), .int .i64 (x 2), .int .i64 (x 3), .int .i64 (x 4)] t)).alloc o).cell? ⟨w.heap.size, k, none⟩ = some (.int .i64 (x k)) :=
  cell_row x k h _ _ _ _ (heap_alloc2_old _ _ _)
theorem cell_two' (x : Nat → Int) (k : Nat) (h : k < 5) (w : World) (t : Nat) (o : Obj) : ((w.alloc o).alloc (.cells #[.int .i64 (x 0), .int .i64 (x 1), .int .i64 (x 2), .int .i64 (x 3), .int .i64 (x 4)] t)).cell? ⟨w.heap.size + 1, k, none⟩ = some (.int .i64 (x k)) :=
  cell_row x k h _ _ _ _ (heap_alloc2_new _ _ _)
theorem below2 (w : World) (a b : Obj) : Below w.heap.size w ((w.alloc a).alloc b) := ((Below.refl _ _).alloc (Nat.le_refl _) _).alloc (by simp) _

end Go.Proofs.YtfnigiiocapceaaGreat.Qu
