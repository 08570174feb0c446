/- What Check answers, the program's and the document's, of every row. No conditions. -/
import Derived.Test.YtfnigiiocapceaaGreatVecBase
namespace Go.Proofs.YtfnigiiocapceaaGreat.Qu
open Go.RowKit

set_option maxHeartbeats 400000 in
theorem vcheck_any (x : Nat → Int) (w : World) :
    Calls Tryz.prog 101 #[.agg #[.int .i64 (x 0), .int .i64 (x 1), .int .i64 (x 2), .int .i64 (x 3), .int .i64 (x 4)]] w fun e w' => e = .returned (.int .i64 (chkV x)) ∧ Below w.heap.size w w' := by
  go_enter Tryz.func101, Tryz.ntmps101
  go_wp2
  go_loop [8] (fun i => ∃ k : Nat, k ≤ 5 ∧ i = .int .i64 k ∧ ∀ j, j < k → 0 ≤ x j) (fun i => 5 - (intOf i).toNat)
  case atStart => exact ⟨0, by omega, rfl, by omega⟩
  case round =>
    obtain ⟨k, hk, rfl, hall⟩ := hrel
    have Hall := Lib.hid hall
    clear hall
    by_cases hlt : k < 5
    · have hi := fun w => idx_row x k hlt w
      by_cases hneg : x k < 0
      · go_wp2
        go_ret
        exact ⟨retI (chkV_neg hlt hneg).symm, (Below.refl _ _).alloc (Nat.le_refl _) _⟩
      · go_wp2
        go_round
        case rel => exact ⟨k + 1, by omega, by go_num, all_snoc Hall.out (by omega)⟩
        case measure => simp [intOf]; omega
    · have H0 : Hid (∀ j, j < 5 → 0 ≤ x j) := fun j hj => Hall.out j (by omega)
      go_wp2
      go_loop [15] (fun i => ∃ k : Nat, k ≤ 5 ∧ i = .int .i64 k ∧ ∀ j, j < k → x j ≤ top) (fun i => 5 - (intOf i).toNat)
      case atStart => exact ⟨0, by omega, rfl, by omega⟩
      case round =>
        obtain ⟨m, hm, rfl, hall⟩ := hrel
        have Hall2 := Lib.hid hall
        clear hall
        by_cases hlt : m < 5
        · have hi := fun w => idx_row x m hlt w
          by_cases hbig : 1099511627776 < x m
          · go_wp2
            go_ret
            exact ⟨retI (chkV_over H0.out hlt (by unfold top; omega)).symm, (Below.refl _ _).alloc (Nat.le_refl _) _⟩
          · go_wp2
            go_round
            case rel => exact ⟨m + 1, by omega, by go_num, all_snoc Hall2.out (by unfold top; omega)⟩
            case measure => simp [intOf]; omega
        · go_wp2
          go_ret
          exact ⟨retI (chkV_ok H0.out (fun j hj => Hall2.out j (by omega))).symm, (Below.refl _ _).alloc (Nat.le_refl _) _⟩

end Go.Proofs.YtfnigiiocapceaaGreat.Qu
