/- What Add answers, the program's and the document's, of every row of numbers. No conditions but that the row lies in memory. -/
import Derived.Test.YtfnigiiocapceaaGreatReckon
namespace Go.Proofs.YtfnigiiocapceaaGreat.Qu
open Go.RowKit

def addL (l : List Int) : Int × Int := if checkL l ≠ 0 then (0, checkL l) else if top < l.sum then (0, 10) else (l.sum, 0)

theorem sum_snoc {l : List Int} {k : Nat} {x : Int} (hk : l[k]? = some x) : (l.take (k + 1)).sum = (l.take k).sum + x := by
  rw [List.take_add_one, hk]; simp
theorem sum_nonneg {l : List Int} (h : ∀ y ∈ l, 0 ≤ y) : 0 ≤ l.sum := by
  induction l with
  | nil => simp
  | cons a t ih =>
    have h1 := h a (by simp)
    have h2 := ih (fun y hy => h y (by simp [hy]))
    simp only [List.sum_cons]; omega
theorem sum_take_le {l : List Int} (h : ∀ y ∈ l, 0 ≤ y) (k : Nat) : 0 ≤ (l.take k).sum ∧ (l.take k).sum ≤ l.sum := by
  have e : l.sum = (l.take k).sum + (l.drop k).sum := by rw [← List.sum_append, List.take_append_drop]
  have h1 := sum_nonneg (l := l.take k) (fun y hy => h y (List.mem_of_mem_take hy))
  have h2 := sum_nonneg (l := l.drop k) (fun y hy => h y (List.mem_of_mem_drop hy))
  omega
theorem chk_cases (l : List Int) : ((∃ x ∈ l, x < 0) ∧ checkL l = 2) ∨ ((∀ x ∈ l, 0 ≤ x) ∧ (∃ x ∈ l, top < x) ∧ checkL l = 10) ∨ ((∀ x ∈ l, 0 ≤ x) ∧ (∀ x ∈ l, x ≤ top) ∧ checkL l = 0) := by
  unfold checkL
  by_cases h : ∃ x ∈ l, x < 0
  · exact .inl ⟨h, if_pos h⟩
  · have h' : ∀ x ∈ l, 0 ≤ x := fun x hx => by
      rcases Int.lt_or_le x 0 with h0 | h0
      · exact absurd ⟨x, hx, h0⟩ h
      · exact h0
    by_cases h2 : ∃ x ∈ l, top < x
    · exact .inr (.inl ⟨h', h2, by rw [if_neg h, if_pos h2]⟩)
    · refine .inr (.inr ⟨h', fun x hx => ?_, by rw [if_neg h, if_neg h2]⟩)
      rcases Int.lt_or_le top x with h0 | h0
      · exact absurd ⟨x, hx, h0⟩ h2
      · exact h0

theorem check_is (A : Option Addr) (c : Nat) (l : List Int) (r : Int) (w : World) (hl : l.length ≤ maxLen) (hr : RowOf w A l) (h : checkL l = r) :
    Calls Tryz.prog 146 #[.slice A l.length c] w fun e w' => e = .returned (.int .i64 r) ∧ w = w' := h ▸ check_any A c l w hl hr

set_option maxHeartbeats 400000 in
theorem add_any (A : Option Addr) (c : Nat) (l : List Int) (w : World) (hl : l.length ≤ maxLen) (hr : RowOf w A l) :
    Calls Tryz.prog 111 #[.slice A l.length c] w fun e w' => e = .returned (.tuple #[.int .i64 (addL l).1, .int .i64 (addL l).2]) ∧ w = w' := by
  have Hl := Lib.hid hl
  unfold maxLen at hl
  have Hr := Lib.hid hr
  clear hr
  rcases chk_cases l with ⟨_, h⟩ | ⟨_, _, h⟩ | ⟨h0, h1, h⟩
  · have H := Lib.hid h
    clear h
    go_enter Tryz.func111, Tryz.ntmps111
    go_wp2_with (go_at_call 146; refine (check_is A c l 2 _ Hl.out Hr.out H.out).mono ?_; rintro e w' ⟨rfl, rfl⟩)
    go_ret2
    exact ⟨ret2I (by unfold addL; rw [H.out]; rfl) (by unfold addL; rw [H.out]; rfl), rfl⟩
  · have H := Lib.hid h
    clear h
    go_enter Tryz.func111, Tryz.ntmps111
    go_wp2_with (go_at_call 146; refine (check_is A c l 10 _ Hl.out Hr.out H.out).mono ?_; rintro e w' ⟨rfl, rfl⟩)
    go_ret2
    exact ⟨ret2I (by unfold addL; rw [H.out]; rfl) (by unfold addL; rw [H.out]; rfl), rfl⟩
  · have H := Lib.hid h
    have H0 := Lib.hid h0
    have H1 := Lib.hid h1
    clear h h0 h1
    go_enter Tryz.func111, Tryz.ntmps111
    go_wp2_with (go_at_call 146; refine (check_is A c l 0 _ Hl.out Hr.out H.out).mono ?_; rintro e w' ⟨rfl, rfl⟩)
    go_loop [5, 15] (fun s i => ∃ k : Nat, k ≤ l.length ∧ i = .int .i64 k ∧ s = .int .i64 (l.take k).sum ∧ (l.take k).sum ≤ top) (fun _ i => l.length - (intOf i).toNat)
    case atStart => exact ⟨0, Nat.zero_le _, rfl, rfl, by simp [top]⟩
    case round =>
      obtain ⟨k, hk, rfl, rfl, hle⟩ := hrel
      have hb := sum_take_le H0.out k
      unfold top at hle
      by_cases hlt : k < l.length
      · obtain ⟨b, o, rfl, hc⟩ := Hr.out k l[k] (List.getElem?_eq_getElem hlt)
        have Hs := Lib.hid (sum_snoc (List.getElem?_eq_getElem hlt))
        have hx0 := H0.out l[k] (List.getElem_mem _)
        have hx1 := H1.out l[k] (List.getElem_mem _)
        unfold top at hx1
        have hb2 := Lib.hid (sum_take_le H0.out (k + 1))
        by_cases hbig : 1099511627776 < (l.take k).sum + l[k]
        · go_wp2
          go_ret2
          have ht : top < l.sum := by have h := hb2.out; rw [Hs.out] at h; unfold top; omega
          exact ⟨ret2I (by unfold addL; rw [H.out, if_neg (by simp), if_pos ht]) (by unfold addL; rw [H.out, if_neg (by simp), if_pos ht]), rfl⟩
        · go_wp2
          go_round
          case rel => exact ⟨k + 1, by omega, by go_num, by rw [Hs.out], by rw [Hs.out]; unfold top; omega⟩
          case measure => simp [intOf]; omega
      · have He := Lib.hid (show l.take k = l from List.take_of_length_le (by omega))
        go_wp2
        go_ret2
        rw [He.out] at hle ⊢
        have ht : ¬ top < l.sum := by unfold top; omega
        exact ⟨ret2I (by unfold addL; rw [H.out, if_neg (by simp), if_neg ht]) (by unfold addL; rw [H.out, if_neg (by simp), if_neg ht]), rfl⟩

set_option maxHeartbeats 400000 in
theorem radd_any (A : Option Addr) (c : Nat) (l : List Int) (w : World) (hl : l.length ≤ maxLen) (hr : RowOf w A l) :
    Calls Tryz.prog 94 #[.slice A l.length c] w fun e w' => e = .returned (.tuple #[.int .i64 (addL l).1, .int .i64 (addL l).2]) ∧ w = w' := by
  unfold maxLen at hl
  have Hr := Lib.hid hr
  clear hr
  go_enter Tryz.func94, Tryz.ntmps94
  go_wp2
  go_loop [4] (fun i => ∃ k : Nat, k ≤ l.length ∧ i = .int .i64 k ∧ ∀ y ∈ l.take k, 0 ≤ y) (fun i => l.length - (intOf i).toNat)
  case atStart => exact ⟨0, Nat.zero_le _, rfl, by simp⟩
  case round =>
    obtain ⟨k, hk, rfl, hall⟩ := hrel
    have Hall := Lib.hid hall
    clear hall
    by_cases hlt : k < l.length
    · obtain ⟨b, o, rfl, hc⟩ := Hr.out k l[k] (List.getElem?_eq_getElem hlt)
      have Hx := Lib.hid (show l[k]? = some l[k] from List.getElem?_eq_getElem hlt)
      by_cases hneg : l[k] < 0
      · go_wp2
        go_ret2
        have h : checkL l = 2 := by unfold checkL; rw [if_pos ⟨l[k], List.getElem_mem _, hneg⟩]
        exact ⟨ret2I (by unfold addL; rw [h]; rfl) (by unfold addL; rw [h]; rfl), rfl⟩
      · go_wp2
        go_round
        case rel => exact ⟨k + 1, by omega, by go_num, take_all_snoc Hx.out Hall.out (by omega)⟩
        case measure => simp [intOf]; omega
    · have H0 : Hid (∀ y ∈ l, 0 ≤ y) := by
        have h := Hall.out
        rw [List.take_of_length_le (by omega)] at h
        exact h
      go_wp2
      go_loop [5, 6] (fun s i => ∃ j : Nat, j ≤ l.length ∧ i = .int .i64 j ∧ s = .int .i64 (l.take j).sum ∧ (l.take j).sum ≤ top ∧ ∀ y ∈ l.take j, y ≤ top) (fun _ i => l.length - (intOf i).toNat)
      case atStart => exact ⟨0, Nat.zero_le _, rfl, rfl, by simp [top], by simp⟩
      case round =>
        obtain ⟨j, hj, rfl, rfl, hle, hall⟩ := hrel
        have Hall2 := Lib.hid hall
        clear hall
        have hb := sum_take_le H0.out j
        unfold top at hle
        by_cases hlt : j < l.length
        · obtain ⟨b, o, rfl, hc⟩ := Hr.out j l[j] (List.getElem?_eq_getElem hlt)
          have Hx := Lib.hid (show l[j]? = some l[j] from List.getElem?_eq_getElem hlt)
          have Hs := Lib.hid (sum_snoc (List.getElem?_eq_getElem hlt))
          have hx0 := H0.out l[j] (List.getElem_mem _)
          have hb2 := Lib.hid (sum_take_le H0.out (j + 1))
          by_cases hbig : 1099511627776 < l[j]
          · go_wp2
            go_ret2
            have h : checkL l = 10 := by
              unfold checkL
              rw [if_neg (fun ⟨x, hx, h0⟩ => by have := H0.out x hx; omega), if_pos ⟨l[j], List.getElem_mem _, by unfold top; omega⟩]
            exact ⟨ret2I (by unfold addL; rw [h]; rfl) (by unfold addL; rw [h]; rfl), rfl⟩
          · by_cases hbig2 : 1099511627776 < (l.take j).sum + l[j]
            · go_wp2
              go_ret2
              have ht : top < l.sum := by have h := hb2.out; rw [Hs.out] at h; unfold top; omega
              rcases chk_cases l with ⟨⟨x, hx, h0⟩, _⟩ | ⟨_, _, h⟩ | ⟨_, _, h⟩
              · have := H0.out x hx; omega
              · exact ⟨ret2I (by unfold addL; rw [h]; rfl) (by unfold addL; rw [h]; rfl), rfl⟩
              · exact ⟨ret2I (by unfold addL; rw [h, if_neg (by simp), if_pos ht]) (by unfold addL; rw [h, if_neg (by simp), if_pos ht]), rfl⟩
            · go_wp2
              go_round
              case rel => exact ⟨j + 1, by omega, by go_num, by rw [Hs.out], by rw [Hs.out]; unfold top; omega, take_all_snoc Hx.out Hall2.out (by unfold top; omega)⟩
              case measure => simp [intOf]; omega
        · have He := Lib.hid (show l.take j = l from List.take_of_length_le (by omega))
          go_wp2
          go_ret2
          have h1 := Hall2.out
          rw [He.out] at hle h1 ⊢
          have ht : ¬ top < l.sum := by unfold top; omega
          rcases chk_cases l with ⟨⟨x, hx, h0⟩, _⟩ | ⟨_, ⟨x, hx, h0⟩, _⟩ | ⟨_, _, h⟩
          · have := H0.out x hx; omega
          · have := h1 x hx; omega
          · exact ⟨ret2I (by unfold addL; rw [h, if_neg (by simp), if_neg ht]) (by unfold addL; rw [h, if_neg (by simp), if_neg ht]), rfl⟩

end Go.Proofs.YtfnigiiocapceaaGreat.Qu
