/- Terms and their opposites; who bears what. Plain mathematics. No conditions. -/
import Derived.Test.YteclbkjonaildaaLToldM
import Derived.Test.YteclbkjonaildaaLHold
namespace Go.Proofs.Yteclbkjonaildaa
open Go.RowKit

abbrev Lab := List UInt8 × List UInt8
abbrev Ter := Int × List UInt8 × List UInt8
def oppT (t : Ter) : Ter := (([0, 2, 1, 4, 3] : List Int).getD t.1.toNat 0, t.2.1, t.2.2)
theorem opp_hold (t : Ter) (l : List Lab) (h0 : 1 ≤ t.1) (h1 : t.1 ≤ 4) : holdL (oppT t) l = !holdL t l := by
  obtain ⟨k, a, b⟩ := t
  simp only at h0 h1
  have hk : k = 1 ∨ k = 2 ∨ k = 3 ∨ k = 4 := by omega
  rcases hk with rfl | rfl | rfl | rfl
  · simp [oppT, holdL]
    rfl
  · simp [oppT, holdL]
    rfl
  · simp [oppT, holdL]
    rfl
  · simp [oppT, holdL]
    rfl
theorem holds_one (t : Ter) (l : List Lab) : holdsL [t] l = holdL t l := by simp [holdsL]
theorem holds_two (t o : Ter) (l : List Lab) : holdsL [t, o] l = (holdL t l && holdL o l) := by simp [holdsL]

theorem ordN_ne : ∀ j k, j < k → k < 8 → ordN j ≠ ordN k := by
  intro j k hjk hk
  have h : ∀ k < 8, ∀ j < k, ordN j ≠ ordN k := by decide +kernel
  exact h k hk j hjk
theorem outF_keys (h : Nat → List UInt8) (hh : ∀ k, h k = [] ∨ valueB (h k) = true) : ∀ k, k ≤ 8 → (outF h k).Pairwise (fun x y => x.1 ≠ y.1)
  | 0, _ => List.Pairwise.nil
  | k + 1, hk => by
    have ih := outF_keys h hh k (by omega)
    have h2 := (outF_ok h hh k (by omega)).2
    rw [outF]
    split
    · rw [List.pairwise_append]
      refine ⟨ih, List.pairwise_singleton _ _, fun a ha b hb => ?_⟩
      rw [List.mem_singleton] at hb
      subst hb
      obtain ⟨j, hj, e⟩ := h2 a ha
      rw [e]
      exact ordN_ne j k hj (by omega)
    · exact ih
theorem labelsF_keys (l : List (Int × Int × Int)) : (labelsF l).Pairwise (fun x y => x.1 ≠ y.1) := outF_keys _ (hasL_ok l) 8 (Nat.le_refl _)

theorem keys_ne {a : List Lab} (hp : a.Pairwise (fun x y => x.1 ≠ y.1)) {i j : Nat} {x y : Lab} (hi : a[i]? = some x) (hj : a[j]? = some y) (hne : i ≠ j) : x.1 ≠ y.1 := by
  obtain ⟨hi1, hi2⟩ := List.getElem?_eq_some_iff.1 hi
  obtain ⟨hj1, hj2⟩ := List.getElem?_eq_some_iff.1 hj
  rcases Nat.lt_or_gt_of_ne hne with h | h
  · have := List.pairwise_iff_getElem.1 hp i j hi1 hj1 h
    rwa [hi2, hj2] at this
  · have := List.pairwise_iff_getElem.1 hp j i hj1 hi1 h
    rw [hi2, hj2] at this
    exact fun e => this e.symm
theorem bear_self (x : Lab) : bearP x x = true := by simp [bearP]
theorem bears_self (a : List Lab) : bearsL a a = true := by
  unfold bearsL
  rw [List.all_eq_true]
  intro t ht
  rw [List.any_eq_true]
  exact ⟨t, ht, bear_self t⟩
theorem bears_nil (a : List Lab) : bearsL a [] = true := rfl
theorem bears_none (a : List Lab) : bearsL [] a = decide (a.length = 0) := by
  cases a with
  | nil => rfl
  | cons x t => simp [bearsL]
/-- All but one. -/
def someF (a : List Lab) (i : Nat) : List Lab := a.take i ++ a.drop (i + 1)
theorem mem_some {a : List Lab} {i : Nat} {y : Lab} : y ∈ someF a i ↔ ∃ j, j ≠ i ∧ a[j]? = some y := by
  unfold someF
  rw [List.mem_append]
  constructor
  · rintro (h | h)
    · obtain ⟨j, hj, e⟩ := List.getElem_of_mem h
      rw [List.length_take] at hj
      rw [List.getElem_take] at e
      exact ⟨j, by omega, by rw [← e]; exact List.getElem?_eq_getElem _⟩
    · obtain ⟨j, hj, e⟩ := List.getElem_of_mem h
      rw [List.length_drop] at hj
      rw [List.getElem_drop] at e
      exact ⟨i + 1 + j, by omega, by rw [← e]; exact List.getElem?_eq_getElem _⟩
  · rintro ⟨j, hne, e⟩
    obtain ⟨hj, e⟩ := List.getElem?_eq_some_iff.1 e
    rcases Nat.lt_or_gt_of_ne hne with h | h
    · refine .inl (List.mem_of_getElem? (i := j) ?_)
      rw [List.getElem?_take_of_lt h, List.getElem?_eq_getElem hj, e]
    · refine .inr (List.mem_of_getElem? (i := j - (i + 1)) ?_)
      rw [List.getElem?_drop, show i + 1 + (j - (i + 1)) = j by omega, List.getElem?_eq_getElem hj, e]
theorem some_len {a : List Lab} {i : Nat} (h : i < a.length) : (someF a i).length = a.length - 1 := by
  unfold someF
  rw [List.length_append, List.length_take, List.length_drop]
  omega
theorem bears_less {a : List Lab} (hp : a.Pairwise (fun x y => x.1 ≠ y.1)) {i : Nat} {x : Lab} (hx : a[i]? = some x) : bearsL (someF a i) a = false := by
  cases hb : bearsL (someF a i) a
  · rfl
  · unfold bearsL at hb
    rw [List.all_eq_true] at hb
    have := hb x (List.mem_of_getElem? hx)
    rw [List.any_eq_true] at this
    obtain ⟨y, hy, hyx⟩ := this
    obtain ⟨j, hne, hj⟩ := mem_some.1 hy
    have hk := keys_ne hp hj hx hne
    unfold bearP at hyx
    rw [Bool.and_eq_true, decide_eq_true_eq] at hyx
    exact absurd hyx.1 hk
theorem bears_more (a : List Lab) (i : Nat) : bearsL a (someF a i) = true := by
  unfold bearsL
  rw [List.all_eq_true]
  intro t ht
  obtain ⟨j, _, hj⟩ := mem_some.1 ht
  rw [List.any_eq_true]
  exact ⟨t, List.mem_of_getElem? hj, bear_self t⟩
theorem bears_star {a : List Lab} {i : Nat} {x : Lab} (hx : a[i]? = some x) : bearsL (someF a i ++ [(x.1, [42])]) a = true := by
  unfold bearsL
  rw [List.all_eq_true]
  intro t ht
  rw [List.any_eq_true]
  obtain ⟨j, hj, e⟩ := List.getElem_of_mem ht
  have hj' : a[j]? = some t := by rw [← e]; exact List.getElem?_eq_getElem hj
  by_cases hne : j = i
  · subst hne
    rw [hx] at hj'
    cases hj'
    exact ⟨(x.1, [42]), by simp, by simp [bearP]⟩
  · exact ⟨t, by rw [List.mem_append]; exact .inl (mem_some.2 ⟨j, hne, hj'⟩), bear_self t⟩

/-- The value of a key's first label. -/
def getL (l : List Lab) (k : List UInt8) : List UInt8 × Bool :=
  match l.find? (fun x => decide (x.1 = k)) with
  | some x => (x.2, true)
  | none => ([], false)
theorem get_key {a : List Lab} (hp : a.Pairwise (fun x y => x.1 ≠ y.1)) {i : Nat} {x : Lab} (hx : a[i]? = some x) : getL a x.1 = (x.2, true) := by
  unfold getL
  cases hf : a.find? (fun y => decide (y.1 = x.1)) with
  | none =>
    rw [List.find?_eq_none] at hf
    have := hf x (List.mem_of_getElem? hx)
    simp at this
  | some y =>
    have h1 := List.find?_some hf
    have h2 := List.mem_of_find?_eq_some hf
    rw [decide_eq_true_eq] at h1
    obtain ⟨j, hj, e⟩ := List.getElem_of_mem h2
    have hj' : a[j]? = some y := by rw [← e]; exact List.getElem?_eq_getElem hj
    by_cases hne : j = i
    · subst hne
      rw [hx] at hj'
      cases hj'
      rfl
    · exact absurd h1 (keys_ne hp hj' hx hne)
end Go.Proofs.Yteclbkjonaildaa
