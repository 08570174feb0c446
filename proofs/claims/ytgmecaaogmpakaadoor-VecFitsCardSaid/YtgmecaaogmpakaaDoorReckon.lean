/- What Add, Sub, Mul and Share answer, the program's and the document's, of every number. No conditions but that a row lies in memory. -/
import Derived.Test.YtgmecaaogmpakaaDoorCheck
namespace Go.Proofs.YtgmecaaogmpakaaDoor
open Go.RowKit

def subL (a b : Int) : Int × Int := if a < 0 ∨ b < 0 ∨ a < b then (0, 2) else if top < a then (0, 10) else (a - b, 0)
def mulL (a b : Int) : Int × Int := if a < 0 ∨ b < 0 then (0, 2) else if top < a ∨ top < b ∨ top < a * b then (0, 10) else (a * b, 0)
def shareL (a b : Int) : Int × Int := if a < 0 ∨ b < 0 ∨ (b = 0 ∧ a ≠ 0) then (0, 2) else if top < a ∨ top < b then (0, 10) else if b = 0 then (0, 0) else (a * 1000 / b, 0)

theorem check2 (a b r : Int) (g o c : Nat) (w : World) (hr : checkL [a, b] = r) (h0 : w.cell? ⟨g, o, none⟩ = some (.int .i64 a)) (h1 : w.cell? ⟨g, o + 1, none⟩ = some (.int .i64 b)) :
    Calls Tryd.prog 49 #[.slice (some ⟨g, o, none⟩) 2 c] w fun e w' => e = .returned (.int .i64 r) ∧ w = w' := by
  subst hr
  refine check_any (some ⟨g, o, none⟩) c [a, b] w (by simp [maxLen]) ?_
  intro k x hk
  match k, hk with
  | 0, hk => exact ⟨g, o, rfl, by simp at hk; subst hk; exact h0⟩
  | 1, hk => exact ⟨g, o, rfl, by simp at hk; subst hk; exact h1⟩
  | k + 2, hk => simp at hk

theorem chk_neg {a b : Int} (h : a < 0 ∨ b < 0) : checkL [a, b] = 2 := by
  unfold checkL; rw [if_pos]; rcases h with h | h
  · exact ⟨a, by simp, h⟩
  · exact ⟨b, by simp, h⟩
theorem chk_over {a b : Int} (ha : 0 ≤ a) (hb : 0 ≤ b) (h : top < a ∨ top < b) : checkL [a, b] = 10 := by
  unfold checkL; rw [if_neg, if_pos]
  · rcases h with h | h
    · exact ⟨a, by simp, h⟩
    · exact ⟨b, by simp, h⟩
  · rintro ⟨x, hx, h0⟩; simp at hx; rcases hx with rfl | rfl <;> omega
theorem chk_ok {a b : Int} (ha : 0 ≤ a) (hb : 0 ≤ b) (ha' : a ≤ top) (hb' : b ≤ top) : checkL [a, b] = 0 := by
  unfold checkL; rw [if_neg, if_neg]
  · rintro ⟨x, hx, h0⟩; simp at hx; rcases hx with rfl | rfl <;> omega
  · rintro ⟨x, hx, h0⟩; simp at hx; rcases hx with rfl | rfl <;> omega

theorem ret2I {a b c d : Int} (h : a = c) (k : b = d) : Ending.returned (.tuple #[.int .i64 a, .int .i64 b]) = .returned (.tuple #[.int .i64 c, .int .i64 d]) := by rw [h, k]

set_option maxHeartbeats 400000 in
theorem sub_any (a b : Int) (w : World) (ha : -9223372036854775808 ≤ a) (ha' : a ≤ 9223372036854775807) (hb : -9223372036854775808 ≤ b) (hb' : b ≤ 9223372036854775807) :
    Calls Tryd.prog 34 #[.int .i64 a, .int .i64 b] w fun e w' => e = .returned (.tuple #[.int .i64 (subL a b).1, .int .i64 (subL a b).2]) ∧ Below w.heap.size w w' := by
  by_cases hlt : a < b
  · go_enter Tryd.func34, Tryd.ntmps34
    go_wp2
    go_ret2
    exact ⟨ret2I (by simp [subL, hlt]) (by simp [subL, hlt]), Below.refl _ _⟩
  · by_cases hneg : a < 0 ∨ b < 0
    · have H := Lib.hid hneg
      clear hneg
      go_enter Tryd.func34, Tryd.ntmps34
      go_wp2_with (go_at_call 49; refine (check2 a b 2 _ 0 _ _ (chk_neg H.out) (by simp [go_sem]) (by simp [go_sem])).mono ?_; rintro e w' ⟨rfl, rfl⟩)
      go_ret2
      have h := H.out
      exact ⟨ret2I (by unfold subL; rw [if_pos (by omega)]) (by unfold subL; rw [if_pos (by omega)]), (Below.refl _ _).alloc (Nat.le_refl _) _⟩
    · obtain ⟨h0, h1⟩ : 0 ≤ a ∧ 0 ≤ b := by omega
      clear hneg
      by_cases hov : 1099511627776 < a
      · go_enter Tryd.func34, Tryd.ntmps34
        go_wp2_with (go_at_call 49; refine (check2 a b 10 _ 0 _ _ (chk_over h0 h1 (Or.inl (by unfold top; omega))) (by simp [go_sem]) (by simp [go_sem])).mono ?_; rintro e w' ⟨rfl, rfl⟩)
        go_ret2
        exact ⟨ret2I (by unfold subL top; rw [if_neg (by omega), if_pos (by omega)]) (by unfold subL top; rw [if_neg (by omega), if_pos (by omega)]), (Below.refl _ _).alloc (Nat.le_refl _) _⟩
      · go_enter Tryd.func34, Tryd.ntmps34
        go_wp2_with (go_at_call 49; refine (check2 a b 0 _ 0 _ _ (chk_ok h0 h1 (by unfold top; omega) (by unfold top; omega)) (by simp [go_sem]) (by simp [go_sem])).mono ?_; rintro e w' ⟨rfl, rfl⟩)
        go_ret2
        exact ⟨ret2I (by unfold subL top; rw [if_neg (by omega), if_neg (by omega)]) (by unfold subL top; rw [if_neg (by omega), if_neg (by omega)]), (Below.refl _ _).alloc (Nat.le_refl _) _⟩

set_option maxHeartbeats 400000 in
theorem mul_any (a b : Int) (w : World) (ha : -9223372036854775808 ≤ a) (ha' : a ≤ 9223372036854775807) (hb : -9223372036854775808 ≤ b) (hb' : b ≤ 9223372036854775807) :
    Calls Tryd.prog 37 #[.int .i64 a, .int .i64 b] w fun e w' => e = .returned (.tuple #[.int .i64 (mulL a b).1, .int .i64 (mulL a b).2]) ∧ Below w.heap.size w w' := by
  by_cases hneg : a < 0 ∨ b < 0
  · have H := Lib.hid hneg
    clear hneg
    go_enter Tryd.func37, Tryd.ntmps37
    go_wp2_with (go_at_call 49; refine (check2 a b 2 _ 0 _ _ (chk_neg H.out) (by simp [go_sem]) (by simp [go_sem])).mono ?_; rintro e w' ⟨rfl, rfl⟩)
    go_ret2
    exact ⟨ret2I (by unfold mulL top; rw [if_pos H.out]) (by unfold mulL top; rw [if_pos H.out]), (Below.refl _ _).alloc (Nat.le_refl _) _⟩
  · obtain ⟨h0, h1⟩ : 0 ≤ a ∧ 0 ≤ b := by omega
    clear hneg
    by_cases hov : 1099511627776 < a ∨ 1099511627776 < b
    · have H := Lib.hid hov
      clear hov
      go_enter Tryd.func37, Tryd.ntmps37
      go_wp2_with (go_at_call 49; refine (check2 a b 10 _ 0 _ _ (chk_over h0 h1 (by have h := H.out; unfold top; omega)) (by simp [go_sem]) (by simp [go_sem])).mono ?_; rintro e w' ⟨rfl, rfl⟩)
      go_ret2
      exact ⟨ret2I (by unfold mulL top; rw [if_neg (by omega), if_pos (by have h := H.out; omega)]) (by unfold mulL top; rw [if_neg (by omega), if_pos (by have h := H.out; omega)]), (Below.refl _ _).alloc (Nat.le_refl _) _⟩
    · obtain ⟨h2, h3⟩ : a ≤ 1099511627776 ∧ b ≤ 1099511627776 := by omega
      clear hov
      by_cases hz : a = 0
      · have hzb : (a != 0) = false := by simp [hz]
        have hge : 0 ≤ a * b := by rw [hz]; simp
        have hle : a * b ≤ 1099511627776 := by rw [hz]; simp
        have Hz := Lib.hid hz
        clear hz
        go_enter Tryd.func37, Tryd.ntmps37
        go_wp2_with (go_at_call 49; refine (check2 a b 0 _ 0 _ _ (chk_ok h0 h1 (by unfold top; omega) (by unfold top; omega)) (by simp [go_sem]) (by simp [go_sem])).mono ?_; rintro e w' ⟨rfl, rfl⟩)
        go_ret2
        exact ⟨ret2I (by unfold mulL top; rw [if_neg (by omega), if_neg (by omega)]) (by unfold mulL top; rw [if_neg (by omega), if_neg (by omega)]), (Below.refl _ _).alloc (Nat.le_refl _) _⟩
      · have hp : 0 < a := by omega
        have hzb : (a != 0) = true := by simpa using hz
        have hq : 1099511627776 / a < b ↔ 1099511627776 < a * b := by rw [Int.ediv_lt_iff_lt_mul hp, Int.mul_comm]
        have Hq := Lib.hid hq
        clear hq
        by_cases hm : 1099511627776 / a < b
        · have Hm := Lib.hid (Hq.out.1 hm)
          go_enter Tryd.func37, Tryd.ntmps37
          go_wp2_with (go_at_call 49; refine (check2 a b 0 _ 0 _ _ (chk_ok h0 h1 (by unfold top; omega) (by unfold top; omega)) (by simp [go_sem]) (by simp [go_sem])).mono ?_; rintro e w' ⟨rfl, rfl⟩)
          go_ret2
          exact ⟨ret2I (by unfold mulL top; rw [if_neg (by omega), if_pos (Or.inr (Or.inr Hm.out))]) (by unfold mulL top; rw [if_neg (by omega), if_pos (Or.inr (Or.inr Hm.out))]), (Below.refl _ _).alloc (Nat.le_refl _) _⟩
        · have hle : a * b ≤ 1099511627776 := by have := mt Hq.out.2 hm; omega
          have hge : 0 ≤ a * b := Int.mul_nonneg h0 h1
          go_enter Tryd.func37, Tryd.ntmps37
          go_wp2_with (go_at_call 49; refine (check2 a b 0 _ 0 _ _ (chk_ok h0 h1 (by unfold top; omega) (by unfold top; omega)) (by simp [go_sem]) (by simp [go_sem])).mono ?_; rintro e w' ⟨rfl, rfl⟩)
          go_ret2
          exact ⟨ret2I (by unfold mulL top; rw [if_neg (by omega), if_neg (by omega)]) (by unfold mulL top; rw [if_neg (by omega), if_neg (by omega)]), (Below.refl _ _).alloc (Nat.le_refl _) _⟩
set_option maxHeartbeats 400000 in
theorem share_any (a b : Int) (w : World) (ha : -9223372036854775808 ≤ a) (ha' : a ≤ 9223372036854775807) (hb : -9223372036854775808 ≤ b) (hb' : b ≤ 9223372036854775807) :
    Calls Tryd.prog 40 #[.int .i64 a, .int .i64 b] w fun e w' => e = .returned (.tuple #[.int .i64 (shareL a b).1, .int .i64 (shareL a b).2]) ∧ Below w.heap.size w w' := by
  by_cases hz : b = 0
  · have hzb : (b == 0) = true := by simpa using hz
    have h1 : 0 ≤ b := by omega
    have h1' : b ≤ 0 := by omega
    have Hz := Lib.hid hz
    clear hz
    by_cases hp : a = 0
    · have hpb : (a != 0) = false := by simp [hp]
      have h0 : 0 ≤ a := by omega
      have h0' : a ≤ 0 := by omega
      have Hp := Lib.hid hp
      clear hp
      go_enter Tryd.func40, Tryd.ntmps40
      go_wp2_with (go_at_call 49; refine (check2 a b 0 _ 0 _ _ (chk_ok (by omega) (by omega) (by unfold top; omega) (by unfold top; omega)) (by simp [go_sem]) (by simp [go_sem])).mono ?_; rintro e w' ⟨rfl, rfl⟩)
      go_ret2
      exact ⟨ret2I (by unfold shareL top; rw [if_neg (by omega), if_neg (by omega), if_pos Hz.out]) (by unfold shareL top; rw [if_neg (by omega), if_neg (by omega), if_pos Hz.out]), (Below.refl _ _).alloc (Nat.le_refl _) _⟩
    · have hpb : (a != 0) = true := by simpa using hp
      go_enter Tryd.func40, Tryd.ntmps40
      go_wp2
      go_ret2
      exact ⟨ret2I (by unfold shareL top; rw [if_pos (by omega)]) (by unfold shareL top; rw [if_pos (by omega)]), Below.refl _ _⟩
  · have hzb : (b == 0) = false := by simpa using hz
    by_cases hneg : a < 0 ∨ b < 0
    · have H := Lib.hid hneg
      clear hneg
      go_enter Tryd.func40, Tryd.ntmps40
      go_wp2_with (go_at_call 49; refine (check2 a b 2 _ 0 _ _ (chk_neg H.out) (by simp [go_sem]) (by simp [go_sem])).mono ?_; rintro e w' ⟨rfl, rfl⟩)
      go_ret2
      exact ⟨ret2I (by unfold shareL top; rw [if_pos (by have h := H.out; omega)]) (by unfold shareL top; rw [if_pos (by have h := H.out; omega)]), (Below.refl _ _).alloc (Nat.le_refl _) _⟩
    · obtain ⟨h0, h1⟩ : 0 ≤ a ∧ 0 ≤ b := by omega
      clear hneg
      by_cases hov : 1099511627776 < a ∨ 1099511627776 < b
      · have H := Lib.hid hov
        clear hov
        go_enter Tryd.func40, Tryd.ntmps40
        go_wp2_with (go_at_call 49; refine (check2 a b 10 _ 0 _ _ (chk_over h0 h1 (by have h := H.out; unfold top; omega)) (by simp [go_sem]) (by simp [go_sem])).mono ?_; rintro e w' ⟨rfl, rfl⟩)
        go_ret2
        exact ⟨ret2I (by unfold shareL top; rw [if_neg (by omega), if_pos (by have h := H.out; omega)]) (by unfold shareL top; rw [if_neg (by omega), if_pos (by have h := H.out; omega)]), (Below.refl _ _).alloc (Nat.le_refl _) _⟩
      · obtain ⟨h2, h3⟩ : a ≤ 1099511627776 ∧ b ≤ 1099511627776 := by omega
        clear hov
        have hp : 0 < b := by omega
        go_enter Tryd.func40, Tryd.ntmps40
        go_wp2_with (go_at_call 49; refine (check2 a b 0 _ 0 _ _ (chk_ok h0 h1 (by unfold top; omega) (by unfold top; omega)) (by simp [go_sem]) (by simp [go_sem])).mono ?_; rintro e w' ⟨rfl, rfl⟩)
        go_ret2
        exact ⟨ret2I (by unfold shareL top; rw [if_neg (by omega), if_neg (by omega), if_neg (by omega)]) (by unfold shareL top; rw [if_neg (by omega), if_neg (by omega), if_neg (by omega)]), (Below.refl _ _).alloc (Nat.le_refl _) _⟩
set_option maxHeartbeats 400000 in
theorem rsub_any (a b : Int) (w : World) (ha : -9223372036854775808 ≤ a) (ha' : a ≤ 9223372036854775807) (hb : -9223372036854775808 ≤ b) (hb' : b ≤ 9223372036854775807) :
    Calls Tryd.prog 35 #[.int .i64 a, .int .i64 b] w fun e w' => e = .returned (.tuple #[.int .i64 (subL a b).1, .int .i64 (subL a b).2]) ∧ Below w.heap.size w w' := by
  by_cases h0 : a < 0
  · go_enter Tryd.func35, Tryd.ntmps35
    go_wp2
    go_ret2
    exact ⟨ret2I (by unfold subL top; rw [if_pos (by omega)]) (by unfold subL top; rw [if_pos (by omega)]), Below.refl _ _⟩
  · by_cases h1 : b < 0
    · go_enter Tryd.func35, Tryd.ntmps35
      go_wp2
      go_ret2
      exact ⟨ret2I (by unfold subL top; rw [if_pos (by omega)]) (by unfold subL top; rw [if_pos (by omega)]), Below.refl _ _⟩
    · by_cases h2 : a < b
      · go_enter Tryd.func35, Tryd.ntmps35
        go_wp2
        go_ret2
        exact ⟨ret2I (by unfold subL top; rw [if_pos (by omega)]) (by unfold subL top; rw [if_pos (by omega)]), Below.refl _ _⟩
      · by_cases h3 : 1099511627776 < a
        · go_enter Tryd.func35, Tryd.ntmps35
          go_wp2
          go_ret2
          exact ⟨ret2I (by unfold subL top; rw [if_neg (by omega), if_pos (by omega)]) (by unfold subL top; rw [if_neg (by omega), if_pos (by omega)]), Below.refl _ _⟩
        · go_enter Tryd.func35, Tryd.ntmps35
          go_wp2
          go_ret2
          exact ⟨ret2I (by unfold subL top; rw [if_neg (by omega), if_neg (by omega)]) (by unfold subL top; rw [if_neg (by omega), if_neg (by omega)]), Below.refl _ _⟩
set_option maxHeartbeats 400000 in
theorem rmul_any (a b : Int) (w : World) (ha : -9223372036854775808 ≤ a) (ha' : a ≤ 9223372036854775807) (hb : -9223372036854775808 ≤ b) (hb' : b ≤ 9223372036854775807) :
    Calls Tryd.prog 38 #[.int .i64 a, .int .i64 b] w fun e w' => e = .returned (.tuple #[.int .i64 (mulL a b).1, .int .i64 (mulL a b).2]) ∧ Below w.heap.size w w' := by
  by_cases h0 : a < 0
  · go_enter Tryd.func38, Tryd.ntmps38
    go_wp2
    go_ret2
    exact ⟨ret2I (by unfold mulL top; rw [if_pos (by omega)]) (by unfold mulL top; rw [if_pos (by omega)]), Below.refl _ _⟩
  · by_cases h1 : b < 0
    · go_enter Tryd.func38, Tryd.ntmps38
      go_wp2
      go_ret2
      exact ⟨ret2I (by unfold mulL top; rw [if_pos (by omega)]) (by unfold mulL top; rw [if_pos (by omega)]), Below.refl _ _⟩
    · by_cases h2 : 1099511627776 < a
      · go_enter Tryd.func38, Tryd.ntmps38
        go_wp2
        go_ret2
        exact ⟨ret2I (by unfold mulL top; rw [if_neg (by omega), if_pos (by omega)]) (by unfold mulL top; rw [if_neg (by omega), if_pos (by omega)]), Below.refl _ _⟩
      · by_cases h3 : 1099511627776 < b
        · go_enter Tryd.func38, Tryd.ntmps38
          go_wp2
          go_ret2
          exact ⟨ret2I (by unfold mulL top; rw [if_neg (by omega), if_pos (by omega)]) (by unfold mulL top; rw [if_neg (by omega), if_pos (by omega)]), Below.refl _ _⟩
        · by_cases hz : 0 < b
          · have hq : 1099511627776 / b < a ↔ 1099511627776 < a * b := by rw [Int.ediv_lt_iff_lt_mul hz]
            have Hq := Lib.hid hq
            clear hq
            by_cases hm : 1099511627776 / b < a
            · have Hm := Lib.hid (Hq.out.1 hm)
              go_enter Tryd.func38, Tryd.ntmps38
              go_wp2
              go_ret2
              exact ⟨ret2I (by unfold mulL top; rw [if_neg (by omega), if_pos (Or.inr (Or.inr Hm.out))]) (by unfold mulL top; rw [if_neg (by omega), if_pos (Or.inr (Or.inr Hm.out))]), Below.refl _ _⟩
            · have hle : a * b ≤ 1099511627776 := by have := mt Hq.out.2 hm; omega
              have hge : 0 ≤ a * b := Int.mul_nonneg (by omega) (by omega)
              go_enter Tryd.func38, Tryd.ntmps38
              go_wp2
              go_ret2
              exact ⟨ret2I (by unfold mulL top; rw [if_neg (by omega), if_neg (by omega)]) (by unfold mulL top; rw [if_neg (by omega), if_neg (by omega)]), Below.refl _ _⟩
          · obtain rfl : b = 0 := by omega
            go_enter Tryd.func38, Tryd.ntmps38
            go_wp2
            go_ret2
            exact ⟨ret2I (by unfold mulL top; rw [if_neg (by omega), if_neg (by simp; omega)]; try simp) (by unfold mulL top; rw [if_neg (by omega), if_neg (by simp; omega)]), Below.refl _ _⟩
set_option maxHeartbeats 400000 in
theorem rshare_any (a b : Int) (w : World) (ha : -9223372036854775808 ≤ a) (ha' : a ≤ 9223372036854775807) (hb : -9223372036854775808 ≤ b) (hb' : b ≤ 9223372036854775807) :
    Calls Tryd.prog 41 #[.int .i64 a, .int .i64 b] w fun e w' => e = .returned (.tuple #[.int .i64 (shareL a b).1, .int .i64 (shareL a b).2]) ∧ Below w.heap.size w w' := by
  by_cases h0 : a < 0
  · go_enter Tryd.func41, Tryd.ntmps41
    go_wp2
    go_ret2
    exact ⟨ret2I (by unfold shareL top; rw [if_pos (by omega)]) (by unfold shareL top; rw [if_pos (by omega)]), Below.refl _ _⟩
  · by_cases h1 : b < 0
    · go_enter Tryd.func41, Tryd.ntmps41
      go_wp2
      go_ret2
      exact ⟨ret2I (by unfold shareL top; rw [if_pos (by omega)]) (by unfold shareL top; rw [if_pos (by omega)]), Below.refl _ _⟩
    · by_cases hz : b = 0
      · subst hz
        have hzb : ((0 : Int) == 0) = true := rfl
        by_cases hp : 0 < a
        · go_enter Tryd.func41, Tryd.ntmps41
          go_wp2
          go_ret2
          exact ⟨ret2I (by unfold shareL top; rw [if_pos (by omega)]) (by unfold shareL top; rw [if_pos (by omega)]), Below.refl _ _⟩
        · obtain rfl : a = 0 := by omega
          go_enter Tryd.func41, Tryd.ntmps41
          go_wp2
          go_ret2
          exact ⟨ret2I (by unfold shareL top; rw [if_neg (by omega), if_neg (by omega), if_pos rfl]) (by unfold shareL top; rw [if_neg (by omega), if_neg (by omega), if_pos rfl]), Below.refl _ _⟩
      · have hzb : (b == 0) = false := by simpa using hz
        by_cases h2 : 1099511627776 < a
        · go_enter Tryd.func41, Tryd.ntmps41
          go_wp2
          go_ret2
          exact ⟨ret2I (by unfold shareL top; rw [if_neg (by omega), if_pos (by omega)]) (by unfold shareL top; rw [if_neg (by omega), if_pos (by omega)]), Below.refl _ _⟩
        · by_cases h3 : 1099511627776 < b
          · go_enter Tryd.func41, Tryd.ntmps41
            go_wp2
            go_ret2
            exact ⟨ret2I (by unfold shareL top; rw [if_neg (by omega), if_pos (by omega)]) (by unfold shareL top; rw [if_neg (by omega), if_pos (by omega)]), Below.refl _ _⟩
          · have hp : 0 < b := by omega
            go_enter Tryd.func41, Tryd.ntmps41
            go_wp2
            go_ret2
            exact ⟨ret2I (by unfold shareL top; rw [if_neg (by omega), if_neg (by omega), if_neg (by omega)]) (by unfold shareL top; rw [if_neg (by omega), if_neg (by omega), if_neg (by omega)]), Below.refl _ _⟩

end Go.Proofs.YtgmecaaogmpakaaDoor
