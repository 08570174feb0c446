/- What may be is short. Plain mathematics. No conditions. -/
import Derived.Test.YteclbkjonaildaaLMathR
import Derived.Test.YteclbkjonaildaaLCheck
namespace Go.Proofs.Yteclbkjonaildaa
open Go.RowKit

theorem own_cap {w : World} {base : Nat} {e : TypeId} {size : Nat} {A : Option Addr} {n c : Nat} {xs : List Value} (h : w.ownsRow base e size (.slice A n c) n xs) : n ≤ c ∧ c ≤ maxLen := by
  rcases h.2 with ⟨hv, h0⟩ | ⟨g, cap, cur, hv, hb, hg, h1, h2, h3, h4⟩
  · cases hv
    exact ⟨Nat.le_refl _, Nat.zero_le _⟩
  · cases hv
    exact ⟨h1, h2⟩
theorem labB_eq : (fun x : List UInt8 × List UInt8 => nameB x.1 && valueB x.2) = labB := rfl
theorem borB_eq : (fun x : List UInt8 × List UInt8 => nameB x.1 && anyB x.2) = borB := by
  funext x
  unfold borB anyB
  rfl

theorem print_short {α : Type} (part : α → List UInt8) : ∀ (l : List α) (t : List UInt8), printA part l = t → ∀ x ∈ l, (part x).length ≤ t.length := by
  intro l t h x hx
  obtain ⟨k, hk, e⟩ := List.getElem_of_mem hx
  have mono : ∀ n m, n ≤ m → (printK part l n).length ≤ (printK part l m).length := by
    intro n m hnm
    induction m with
    | zero => obtain rfl : n = 0 := by omega
              exact Nat.le_refl _
    | succ m ih =>
      rcases Nat.lt_or_eq_of_le hnm with g | rfl
      · have := ih (by omega)
        rw [printK]
        simp only [List.length_append]
        omega
      · exact Nat.le_refl _
  have h1 : (part x).length ≤ (printK part l (k + 1)).length := by
    rw [printK, List.getElem?_eq_getElem hk, e]
    simp only [List.length_append]
    omega
  have h2 := mono (k + 1) l.length hk
  rw [← h]
  unfold printA
  omega
theorem labP_parts (x : List UInt8 × List UInt8) : x.1.length ≤ (labP x).length ∧ x.2.length ≤ (labP x).length := by
  unfold labP
  simp only [List.length_append]
  omega
theorem nameB_15 {s : List UInt8} (h : nameB s = true) : s.length ≤ 15 := by
  unfold nameB at h
  simp only [Bool.and_eq_true, decide_eq_true_eq] at h
  have := span_15 okName s 0 (by omega)
  omega
theorem valueB_15 {s : List UInt8} (h : valueB s = true) : s.length ≤ 15 := by
  unfold valueB at h
  simp only [Bool.and_eq_true, decide_eq_true_eq] at h
  have := span_15 okVal s 0 (by omega)
  omega
theorem chkK_mem {α : Type} {mb : α → Bool} {ri : α → α → Bool} {l : List α} : ∀ {k : Nat}, chkK mb ri l k = true → ∀ j x, j < k → l[j]? = some x → mb x = true
  | 0, _, j, x, hj, _ => by omega
  | k + 1, h, j, x, hj, hx => by
    rw [chkK, Bool.and_eq_true] at h
    rcases Nat.lt_or_eq_of_le (Nat.le_of_lt_succ hj) with g | rfl
    · exact chkK_mem h.1 j x g hx
    · have h2 := h.2
      rw [hx] at h2
      simp only at h2
      unfold okAt at h2
      rw [Bool.and_eq_true] at h2
      exact h2.1
theorem chkA_mem {α : Type} {mb : α → Bool} {ri : α → α → Bool} {l : List α} (h : chkA mb ri l = 0) : l.length ≤ 6 ∧ ∀ x ∈ l, mb x = true := by
  unfold chkA at h
  split at h
  · cases h
  · rename_i hn
    refine ⟨by omega, fun x hx => ?_⟩
    obtain ⟨k, hk, e⟩ := List.getElem_of_mem hx
    have hc : chkK mb ri l l.length = true := by
      cases hb : chkK mb ri l l.length
      · exact absurd (.inr hb) hn
      · rfl
    exact chkK_mem hc k x hk (by rw [List.getElem?_eq_getElem hk, e])
theorem labB_short {x : List UInt8 × List UInt8} (h : labB x = true) : x.1.length ≤ 15 ∧ x.2.length ≤ 15 ∧ (labP x).length ≤ 100 := by
  unfold labB at h
  rw [Bool.and_eq_true] at h
  have h1 := nameB_15 h.1
  have h2 := valueB_15 h.2
  refine ⟨h1, h2, ?_⟩
  unfold labP
  simp only [List.length_append, List.length_cons, List.length_nil]
  omega
theorem borB_short {x : List UInt8 × List UInt8} (h : borB x = true) : x.1.length ≤ 15 ∧ x.2.length ≤ 15 ∧ (labP x).length ≤ 100 := by
  unfold borB at h
  rw [Bool.and_eq_true, Bool.or_eq_true, decide_eq_true_eq] at h
  have h1 := nameB_15 h.1
  have h2 : x.2.length ≤ 15 := by
    rcases h.2 with e | e
    · rw [e]; decide
    · exact valueB_15 e
  refine ⟨h1, h2, ?_⟩
  unfold labP
  simp only [List.length_append, List.length_cons, List.length_nil]
  omega
theorem terB_short {x : Int × List UInt8 × List UInt8} (h : terB x = true) : x.2.1.length ≤ 15 ∧ x.2.2.length ≤ 15 ∧ (terP x).length ≤ 100 := by
  have h3 : x.2.1.length ≤ 15 ∧ x.2.2.length ≤ 15 := by
    unfold terB at h
    split at h
    · rw [Bool.and_eq_true] at h
      exact ⟨nameB_15 h.1, valueB_15 h.2⟩
    · split at h
      · rw [Bool.and_eq_true, decide_eq_true_eq] at h
        exact ⟨nameB_15 h.1, by rw [h.2]; decide⟩
      · cases h
  refine ⟨h3.1, h3.2, ?_⟩
  unfold terP
  repeat' split
  all_goals ((try simp only [List.length_append, List.length_cons, List.length_nil]); omega)

end Go.Proofs.Yteclbkjonaildaa
