/- A policy's text, as a plain function; how long its words are. No conditions. -/
import Derived.Test.YthbplchbolghjaaGreatDoorGSaidS
namespace Go.Proofs.YthbplchbolghjaaGreatDoor
open Go.RowKit

def saidsG (g : Pol) : List Said := [saidShares g.l0 g.l1, saidShares g.h0 g.h1, saidLooks g.on, (decide (0 < g.drain.length), g.drain), saidNum g.mx, saidNum g.tr, (g.rb, [])]
/-- Words, a blank ahead of each. -/
def wordsT (l : List (List UInt8)) : List UInt8 := l.flatMap (fun t => 32 :: t)
/-- A line. -/
def lineT (key : List UInt8) (x : Said) : List UInt8 := if x.1 then key ++ wordsT x.2 ++ [10] else []
/-- The first lines. -/
def textK (g : Pol) : Nat → List UInt8
  | 0 => []
  | k + 1 => textK g k ++ (match (saidsG g)[k]? with
    | some x => lineT (keysL.getD k []) x
    | none => [])
/-- Print: a text, an error. -/
def printG (g : Pol) : List UInt8 × Int := if checkG g = 0 then (textK g 7, 0) else ([], checkG g)

theorem gspan_15 (ok : Nat → Nat → Bool) : ∀ (t : List UInt8) (a : Nat), a ≤ 15 → La.spanF ok t a ≤ 15
  | [], a, h => h
  | b :: t, a, h => by
    rw [La.spanF]
    split
    · exact h
    · rename_i hn
      exact gspan_15 ok t (a + 1) (by
        have : a ≠ 15 := fun e => hn (.inl e)
        omega)
theorem gnameB_15 {s : List UInt8} (h : La.nameB s = true) : s.length ≤ 15 := by
  unfold La.nameB at h
  simp only [Bool.and_eq_true, decide_eq_true_eq] at h
  have := gspan_15 La.okName s 0 (by omega)
  omega
theorem gchkK_mem {α : Type} {mb : α → Bool} {ri : α → α → Bool} {l : List α} : ∀ {k : Nat}, La.chkK mb ri l k = true → ∀ j x, j < k → l[j]? = some x → mb x = true
  | 0, _, j, x, hj, _ => by omega
  | k + 1, h, j, x, hj, hx => by
    rw [La.chkK, Bool.and_eq_true] at h
    rcases Nat.lt_or_eq_of_le (Nat.le_of_lt_succ hj) with g | rfl
    · exact gchkK_mem h.1 j x g hx
    · have h2 := h.2
      rw [hx] at h2
      simp only at h2
      unfold La.okAt at h2
      rw [Bool.and_eq_true] at h2
      exact h2.1
theorem pct_short (n : Int) : (Qu.pctL n).1.length ≤ 100 := by
  unfold Qu.pctL
  split
  · simp
  · next h =>
    have h1 := Qu.dec_len (n / 10) (by omega) (by omega)
    have h2 := Qu.dec_len (n % 10) (by omega) (by omega)
    unfold Qu.dec
    split
    · simp only [List.length_append, List.length_cons, List.length_nil]
      omega
    · simp only [List.length_append, List.length_cons, List.length_nil]
      omega
theorem upB_iff {n m : Int} (h : upB n m = true) : 0 ≤ n ∧ n ≤ m := by simpa [upB] using h
theorem polB_all {g : Pol} (h : checkG g = 0) : sharesB g.l0 g.l1 g.h0 g.h1 = true ∧ (0 ≤ g.on ∧ g.on ≤ 31) ∧ (g.drain.length ≤ 8 ∧ namesB g.drain = true) ∧ (0 ≤ g.mx ∧ g.mx ≤ 48) ∧ (0 ≤ g.tr ∧ g.tr ≤ 8) := by
  have hp : polB g = true := by
    unfold checkG at h
    split at h
    · assumption
    · omega
  unfold polB at hp
  simp only [Bool.and_eq_true] at hp
  obtain ⟨⟨⟨⟨h1, h2⟩, h3⟩, h4⟩, h5⟩ := hp
  refine ⟨h1, upB_iff h2, ?_, upB_iff h4, upB_iff h5⟩
  simpa [drainB] using h3
theorem names_15 {l : List (List UInt8)} (h : namesB l = true) : ∀ x ∈ l, La.nameB x = true ∧ x.length ≤ 15 := by
  intro x hx
  obtain ⟨j, hj⟩ := List.getElem?_of_mem hx
  have := gchkK_mem h j x (List.getElem?_eq_some_iff.1 hj).1 hj
  exact ⟨this, gnameB_15 this⟩
theorem saids_small {g : Pol} (h : checkG g = 0) : ∀ x ∈ saidsG g, x.2.length ≤ 8 ∧ ∀ t ∈ x.2, t.length ≤ 100 := by
  obtain ⟨_, ho, ⟨hd, hn⟩, hm, ht⟩ := polB_all h
  intro x hx
  simp only [saidsG, List.mem_cons, List.not_mem_nil, or_false] at hx
  rcases hx with rfl | rfl | rfl | rfl | rfl | rfl | rfl
  · refine ⟨by simp [saidShares], fun t ht => ?_⟩
    simp only [saidShares, List.mem_cons, List.not_mem_nil, or_false] at ht
    rcases ht with rfl | rfl <;> exact pct_short _
  · refine ⟨by simp [saidShares], fun t ht => ?_⟩
    simp only [saidShares, List.mem_cons, List.not_mem_nil, or_false] at ht
    rcases ht with rfl | rfl <;> exact pct_short _
  · refine ⟨Nat.le_trans (List.length_filter_le _ _) (by decide), fun t ht => ?_⟩
    have := (List.mem_filter.1 ht).1
    simp only [looksL, List.mem_cons, List.not_mem_nil, or_false] at this
    rcases this with rfl | rfl | rfl | rfl | rfl <;> simp
  · exact ⟨hd, fun t ht => Nat.le_trans (names_15 hn t ht).2 (by omega)⟩
  · refine ⟨by simp [saidNum], fun t ht => ?_⟩
    simp only [saidNum, List.mem_cons, List.not_mem_nil, or_false] at ht
    subst ht
    have := Lib.itoa_length_le g.mx (by omega) (by omega)
    omega
  · refine ⟨by simp [saidNum], fun t ht => ?_⟩
    simp only [saidNum, List.mem_cons, List.not_mem_nil, or_false] at ht
    subst ht
    have := Lib.itoa_length_le g.tr (by omega) (by omega)
    omega
  · exact ⟨by simp, fun t ht => by cases ht⟩
theorem wordsT_len (b : Nat) : ∀ (l : List (List UInt8)), (∀ t ∈ l, t.length ≤ b) → (wordsT l).length ≤ (b + 1) * l.length
  | [], _ => by simp [wordsT]
  | t :: l, h => by
    have ih := wordsT_len b l (fun x hx => h x (List.mem_cons_of_mem _ hx))
    have h1 := h t (List.mem_cons_self ..)
    have e : wordsT (t :: l) = 32 :: t ++ wordsT l := by simp [wordsT]
    rw [e, List.length_append, List.length_cons, List.length_cons, Nat.mul_succ]
    omega
theorem textK_len {g : Pol} (h : checkG g = 0) : ∀ k, (textK g k).length ≤ 1000 * k
  | 0 => by simp [textK]
  | k + 1 => by
    have ih := textK_len h k
    rw [textK, List.length_append]
    cases hx : (saidsG g)[k]? with
    | none => simp; omega
    | some x =>
      have hs := saids_small h x (List.mem_of_getElem? hx)
      have hw := wordsT_len 100 x.2 hs.2
      have hk : (keysL.getD k []).length ≤ 8 := by
        by_cases hk : k < 7
        · obtain rfl | rfl | rfl | rfl | rfl | rfl | rfl : k = 0 ∨ k = 1 ∨ k = 2 ∨ k = 3 ∨ k = 4 ∨ k = 5 ∨ k = 6 := by omega
          all_goals decide
        · rw [List.getD_eq_getElem?_getD, List.getElem?_eq_none (by simp [keysL]; omega)]
          simp
      have : (lineT (keysL.getD k []) x).length ≤ 900 := by
        unfold lineT
        split
        · simp only [List.length_append, List.length_cons, List.length_nil]
          have : (100 + 1) * x.2.length ≤ 101 * 8 := Nat.mul_le_mul (Nat.le_refl _) hs.1
          omega
        · simp
      simp only
      omega
end Go.Proofs.YthbplchbolghjaaGreatDoor
