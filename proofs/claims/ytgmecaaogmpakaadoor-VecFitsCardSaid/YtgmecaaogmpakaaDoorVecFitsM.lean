/- Rows in a small range: what sums, differences and doubles of them are, as the calls answer them. Conditions: the ranges. -/
import Derived.Test.YtgmecaaogmpakaaDoorVecPlus
import Derived.Test.YtgmecaaogmpakaaDoorVecMade
namespace Go.Proofs.YtgmecaaogmpakaaDoor
open Go.RowKit

/-- Each of a row is at least 0, and below a bound. -/
def Rng (m : Int) (x : Nat → Int) : Prop := ∀ j, j < 5 → 0 ≤ x j ∧ x j ≤ m
theorem Rng.ints {m : Int} {x : Nat → Int} (h : Rng m x) (hm : m ≤ 1099511627776) : Ints x := fun k hk => by have := h k hk; omega

theorem firstE_zero {f : Nat → Int × Int} : ∀ {n : Nat}, firstE f n = 0 → ∀ k, k < n → (f k).2 = 0
  | 0, _, k, hk => by omega
  | n + 1, h, k, hk => by
    rw [firstE] at h
    by_cases h1 : firstE f n = 0
    · rw [if_neg (by simpa using h1)] at h
      rcases Nat.lt_or_eq_of_le (Nat.le_of_lt_succ hk) with g | rfl
      · exact firstE_zero h1 k g
      · exact h
    · rw [if_pos h1] at h
      exact absurd h h1
theorem each_ok {f : Nat → Int × Int} {r : Nat → Int} (h : ∀ k, k < 5 → f k = (r k, 0)) : firstE f 5 = 0 ∧ ∀ k, k < 5 → eachR f k = r k := by
  have h1 : firstE f 5 = 0 := firstE_none (fun j hj => by rw [h j hj])
  refine ⟨h1, fun k hk => ?_⟩
  unfold eachR
  rw [if_neg (by rw [h1]; simp), h k hk]

theorem minus_row (x y : Nat → Int) (h : ∀ k, k < 5 → 0 ≤ y k ∧ y k ≤ x k ∧ x k ≤ top) : firstE (minusF x y) 5 = 0 ∧ ∀ k, k < 5 → eachR (minusF x y) k = x k - y k := by
  refine each_ok (r := fun k => x k - y k) (fun k hk => ?_)
  have hk := h k hk
  unfold minusF subL
  rw [if_neg (by omega), if_neg (by omega)]
theorem minus_none (x y : Nat → Int) {k : Nat} (hk : k < 5) (h : x k < y k) : firstE (minusF x y) 5 ≠ 0 := by
  intro h0
  have h1 := firstE_zero h0 k hk
  unfold minusF subL at h1
  rw [if_pos (by omega)] at h1
  cases h1
theorem plus_row (x y : Nat → Int) (h : ∀ k, k < 5 → 0 ≤ x k ∧ 0 ≤ y k ∧ x k + y k ≤ top) : firstE (plusF [x, y]) 5 = 0 ∧ ∀ k, k < 5 → eachR (plusF [x, y]) k = x k + y k := by
  refine each_ok (r := fun k => x k + y k) (fun k hk => ?_)
  have hk := h k hk
  have hc : checkL [x k, y k] = 0 := chk_ok hk.1 hk.2.1 (by omega) (by omega)
  show addL [x k, y k] = _
  unfold addL
  rw [hc, if_neg (by simp), if_neg (by simp; omega)]
  simp
theorem times_row (x : Nat → Int) (h : ∀ k, k < 5 → 0 ≤ x k ∧ x k + x k ≤ top) : firstE (timesF x 2) 5 = 0 ∧ ∀ k, k < 5 → eachR (timesF x 2) k = x k + x k := by
  refine each_ok (r := fun k => x k + x k) (fun k hk => ?_)
  have hk := h k hk
  unfold top at hk
  unfold timesF mulL top
  rw [if_neg (by omega), if_neg (by omega)]
  simp only [Prod.mk.injEq, and_true]
  omega

theorem over_small (x y : Nat → Int) (hx : Rng 68719476735 x) (hy : Rng 68719476735 y) : ∀ k, k ≤ 5 → 0 ≤ overV x y k ∧ overV x y k ≤ k * 68719476735 ∧ (overV x y k = 0 ↔ ∀ j, j < k → x j ≤ y j)
  | 0, _ => ⟨by simp [overV], by simp [overV], by simp [overV]⟩
  | k + 1, h => by
    obtain ⟨h0, h1, h2⟩ := over_small x y hx hy k (by omega)
    have hxk := hx k (by omega)
    have hyk := hy k (by omega)
    rw [overV]
    by_cases hlt : y k < x k
    · rw [if_pos hlt, IntWalk.wrap64_in _ (by omega)]
      refine ⟨by omega, by omega, ⟨fun e => by omega, fun hall => ?_⟩⟩
      have := hall k (by omega)
      omega
    · rw [if_neg hlt]
      refine ⟨h0, by omega, h2.trans ⟨fun hall => all_snoc hall (by omega), fun hall j hj => hall j (by omega)⟩⟩
theorem over_zero (x y : Nat → Int) (hx : Rng 68719476735 x) (hy : Rng 68719476735 y) : (overV x y 5 == 0) = fitsV x y := by
  have h := (over_small x y hx hy 5 (Nat.le_refl _)).2.2
  cases hf : fitsV x y with
  | true => rw [beq_iff_eq]; exact h.2 ((fitsV_iff x y).1 hf)
  | false =>
    rw [beq_eq_false_iff_ne]
    intro e
    rw [(fitsV_iff x y).2 (h.1 e)] at hf
    cases hf
theorem fits_trans {x y z : Nat → Int} (h1 : fitsV x y = true) (h2 : fitsV y z = true) : fitsV x z = true := by
  rw [fitsV_iff] at *
  intro j hj
  have := h1 j hj
  have := h2 j hj
  omega
theorem fits_self (x : Nat → Int) : fitsV x x = true := fitsV_yes (fun _ _ => Int.le_refl _)
theorem fits_not {x y : Nat → Int} (h : fitsV x y = false) : ∃ k, k < 5 ∧ y k < x k := by
  by_cases g : ∃ k, k < 5 ∧ y k < x k
  · exact g
  · have : fitsV x y = true := fitsV_yes (fun j hj => by
      rcases Int.lt_or_le (y j) (x j) with q | q
      · exact absurd ⟨j, hj, q⟩ g
      · exact q)
    rw [this] at h
    cases h

theorem minus_to (x y r : Nat → Int) (e0 : Int) (w : World) (ix : Ints x) (iy : Ints y) (he : firstE (minusF x y) 5 = e0) (hr : ∀ k, k < 5 → eachR (minusF x y) k = r k) :
    Calls Tryd.prog 10 #[.agg #[.int .i64 (x 0), .int .i64 (x 1), .int .i64 (x 2), .int .i64 (x 3), .int .i64 (x 4)], .agg #[.int .i64 (y 0), .int .i64 (y 1), .int .i64 (y 2), .int .i64 (y 3), .int .i64 (y 4)]] w fun e w' => e = .returned (.tuple #[.agg #[.int .i64 (r 0), .int .i64 (r 1), .int .i64 (r 2), .int .i64 (r 3), .int .i64 (r 4)], .int .i64 e0]) ∧ Below w.heap.size w w' := by
  have k := minus_any x y w ix iy
  rw [he, hr 0 (by omega), hr 1 (by omega), hr 2 (by omega), hr 3 (by omega), hr 4 (by omega)] at k
  exact k
theorem times_to (x r : Nat → Int) (m e0 : Int) (w : World) (ix : Ints x) (hm : -9223372036854775808 ≤ m) (hm' : m ≤ 9223372036854775807) (he : firstE (timesF x m) 5 = e0) (hr : ∀ k, k < 5 → eachR (timesF x m) k = r k) :
    Calls Tryd.prog 12 #[.agg #[.int .i64 (x 0), .int .i64 (x 1), .int .i64 (x 2), .int .i64 (x 3), .int .i64 (x 4)], .int .i64 m] w fun e w' => e = .returned (.tuple #[.agg #[.int .i64 (r 0), .int .i64 (r 1), .int .i64 (r 2), .int .i64 (r 3), .int .i64 (r 4)], .int .i64 e0]) ∧ Below w.heap.size w w' := by
  have k := times_any x m w ix hm hm'
  rw [he, hr 0 (by omega), hr 1 (by omega), hr 2 (by omega), hr 3 (by omega), hr 4 (by omega)] at k
  exact k
/-- A slice of two rows that was just made. -/
theorem rows_two (w : World) (x y : Nat → Int) (t : Nat) : RowsOf (w.alloc (.cells #[.int .i64 (x 0), .int .i64 (x 1), .int .i64 (x 2), .int .i64 (x 3), .int .i64 (x 4), .int .i64 (y 0), .int .i64 (y 1), .int .i64 (y 2), .int .i64 (y 3), .int .i64 (y 4)] t)) (some ⟨w.heap.size, 0, none⟩) [x, y] := by
  intro i r hi
  refine ⟨w.heap.size, 0, rfl, by rw [alloc_size]; omega, fun k hk => ?_⟩
  rw [cell_of_row _ _ _ _ _ _ (heap_alloc_new _ _)]
  have hk : k = 0 ∨ k = 1 ∨ k = 2 ∨ k = 3 ∨ k = 4 := by omega
  match i, hi with
  | 0, hi =>
    simp only [List.getElem?_cons_zero, Option.some.injEq] at hi
    subst hi
    rcases hk with rfl | rfl | rfl | rfl | rfl <;> rfl
  | 1, hi =>
    simp only [List.getElem?_cons_succ, List.getElem?_cons_zero, Option.some.injEq] at hi
    subst hi
    rcases hk with rfl | rfl | rfl | rfl | rfl <;> rfl
  | i + 2, hi => simp at hi
theorem plus_to (A : Option Addr) (c : Nat) (x y r : Nat → Int) (e0 : Int) (w : World) (hr : RowsOf w A [x, y]) (he : firstE (plusF [x, y]) 5 = e0) (hrr : ∀ k, k < 5 → eachR (plusF [x, y]) k = r k) :
    Calls Tryd.prog 8 #[.slice A 2 c] w fun e w' => e = .returned (.tuple #[.agg #[.int .i64 (r 0), .int .i64 (r 1), .int .i64 (r 2), .int .i64 (r 3), .int .i64 (r 4)], .int .i64 e0]) ∧ Below w.heap.size w w' := by
  have k := plus_any A c [x, y] w (by simp) hr
  rw [he, hrr 0 (by omega), hrr 1 (by omega), hrr 2 (by omega), hrr 3 (by omega), hrr 4 (by omega)] at k
  exact k
theorem fits_to (x y : Nat → Int) (b : Bool) (w : World) (h : fitsV x y = b) :
    Calls Tryd.prog 18 #[.agg #[.int .i64 (x 0), .int .i64 (x 1), .int .i64 (x 2), .int .i64 (x 3), .int .i64 (x 4)], .agg #[.int .i64 (y 0), .int .i64 (y 1), .int .i64 (y 2), .int .i64 (y 3), .int .i64 (y 4)]] w fun e w' => e = .returned (.bool b) ∧ Below w.heap.size w w' := by
  subst h
  exact fits_any x y w

end Go.Proofs.YtgmecaaogmpakaaDoor
