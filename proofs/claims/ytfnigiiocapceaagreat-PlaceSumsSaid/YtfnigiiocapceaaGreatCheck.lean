/- What the program's look at its arguments answers, of every row of numbers. No conditions but that the row lies in memory. -/
import Derived.Test.YtfnigiiocapceaaGreatBase
namespace Go.Proofs.YtfnigiiocapceaaGreat.Qu
open Go.RowKit

set_option maxHeartbeats 400000 in
theorem check_any (A : Option Addr) (c : Nat) (l : List Int) (w : World) (hl : l.length ≤ maxLen) (hr : RowOf w A l) :
    Calls Tryz.prog 146 #[.slice A l.length c] w fun e w' => e = .returned (.int .i64 (checkL l)) ∧ w = w' := by
  unfold maxLen at hl
  go_enter Tryz.func146, Tryz.ntmps146
  go_wp2
  go_loop [9] (fun i => ∃ k : Nat, k ≤ l.length ∧ i = .int .i64 k ∧ ∀ y ∈ l.take k, 0 ≤ y) (fun i => l.length - (intOf i).toNat)
  case atStart => exact ⟨0, Nat.zero_le _, rfl, by simp⟩
  case round =>
    obtain ⟨k, hk, rfl, hall⟩ := hrel
    have Hall := Lib.hid hall
    clear hall
    by_cases hlt : k < l.length
    · obtain ⟨b, o, rfl, hc⟩ := hr k l[k] (List.getElem?_eq_getElem hlt)
      have hx : l[k]? = some l[k] := List.getElem?_eq_getElem hlt
      have Hx := Lib.hid hx
      clear hx
      have Hr := Lib.hid hr
      clear hr
      by_cases hneg : l[k] < 0
      · go_wp2
        go_ret
        exact ⟨retI (by unfold checkL; rw [if_pos ⟨l[k], List.getElem_mem _, hneg⟩]), rfl⟩
      · go_wp2
        go_round
        case rel => exact ⟨k + 1, by omega, by go_num, take_all_snoc Hx.out Hall.out (by omega)⟩
        case measure => simp [intOf]; omega
    · have Hn : Hid (∀ y ∈ l, 0 ≤ y) := by
        have h := Hall.out
        rw [List.take_of_length_le (by omega)] at h
        exact h
      go_wp2
      go_loop [18] (fun i => ∃ j : Nat, j ≤ l.length ∧ i = .int .i64 j ∧ ∀ y ∈ l.take j, y ≤ top) (fun i => l.length - (intOf i).toNat)
      case atStart => exact ⟨0, Nat.zero_le _, rfl, by simp⟩
      case round =>
        obtain ⟨j, hj, rfl, hall⟩ := hrel
        have Hall2 := Lib.hid hall
        clear hall
        have hnone : ¬ ∃ x ∈ l, x < 0 := fun ⟨x, hx, h0⟩ => by have := Hn.out x hx; omega
        have Hnone := Lib.hid hnone
        clear hnone
        by_cases hlt : j < l.length
        · obtain ⟨b, o, rfl, hc⟩ := hr j l[j] (List.getElem?_eq_getElem hlt)
          have hx : l[j]? = some l[j] := List.getElem?_eq_getElem hlt
          have Hx := Lib.hid hx
          clear hx
          have Hr := Lib.hid hr
          clear hr
          by_cases hbig : 1099511627776 < l[j]
          · go_wp2
            go_ret
            exact ⟨retI (by unfold checkL; rw [if_neg Hnone.out, if_pos ⟨l[j], List.getElem_mem _, by unfold top; omega⟩]), rfl⟩
          · go_wp2
            go_round
            case rel => exact ⟨j + 1, by omega, by go_num, take_all_snoc Hx.out Hall2.out (by unfold top; omega)⟩
            case measure => simp [intOf]; omega
        · go_wp2
          go_ret
          refine ⟨retI ?_, rfl⟩
          have h := Hall2.out
          rw [List.take_of_length_le (by omega)] at h
          unfold checkL
          rw [if_neg Hnone.out, if_neg (fun ⟨x, hx, h0⟩ => by have := h x hx; omega)]

end Go.Proofs.YtfnigiiocapceaaGreat.Qu
