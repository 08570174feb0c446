/- What the law makes of pairs may be. Plain mathematics. No conditions. -/
import Derived.Test.YteclbkjonaildaaLTold3
import Derived.Test.YteclbkjonaildaaLStepTo
namespace Go.Proofs.Yteclbkjonaildaa
open Go.RowKit

theorem valueF_ok (n : Int) : valueB (valueF n) = true := by
  unfold valueF
  have b0 : (0 : Int) ≤ n % 6 := Int.emod_nonneg _ (by decide)
  have b1 : n % 6 < 6 := Int.emod_lt_of_pos _ (by decide)
  obtain ⟨k, hk⟩ : ∃ k, (n % 6).toNat = k := ⟨_, rfl⟩
  have hk6 : k < 6 := by omega
  rw [hk]
  match k, hk6 with
  | 0, _ => decide +kernel
  | 1, _ => decide +kernel
  | 2, _ => decide +kernel
  | 3, _ => decide +kernel
  | 4, _ => decide +kernel
  | 5, _ => decide +kernel
theorem smallF_ok (n : Int) : nameB (smallF n) = true := by
  unfold smallF
  have b0 : (0 : Int) ≤ n % 8 := Int.emod_nonneg _ (by decide)
  have b1 : n % 8 < 8 := Int.emod_lt_of_pos _ (by decide)
  obtain ⟨k, hk⟩ : ∃ k, (n % 8).toNat = k := ⟨_, rfl⟩
  have hk8 : k < 8 := by omega
  rw [hk]
  match k, hk8 with
  | 0, _ => decide +kernel
  | 1, _ => decide +kernel
  | 2, _ => decide +kernel
  | 3, _ => decide +kernel
  | 4, _ => decide +kernel
  | 5, _ => decide +kernel
  | 6, _ => decide +kernel
  | 7, _ => decide +kernel
theorem hasL_ok (l : List (Int × Int × Int)) : ∀ k, hasL l k = [] ∨ valueB (hasL l k) = true := by
  have key : ∀ (l : List (Int × Int × Int)) (h : Nat → List UInt8), (∀ k, h k = [] ∨ valueB (h k) = true) → ∀ k, (l.foldl (fun h x => updF h (x.1 % 8).toNat (valueF x.2.1)) h) k = [] ∨ valueB ((l.foldl (fun h x => updF h (x.1 % 8).toNat (valueF x.2.1)) h) k) = true := by
    intro l
    induction l with
    | nil => intro h hh; exact hh
    | cons x t ih =>
      intro h hh
      refine ih _ (fun k => ?_)
      show updF h (x.1 % 8).toNat (valueF x.2.1) k = [] ∨ valueB (updF h (x.1 % 8).toNat (valueF x.2.1) k) = true
      by_cases hk : k = (x.1 % 8).toNat
      · rw [show updF h (x.1 % 8).toNat (valueF x.2.1) k = valueF x.2.1 from if_pos hk]
        exact .inr (valueF_ok _)
      · rw [show updF h (x.1 % 8).toNat (valueF x.2.1) k = h k from if_neg hk]
        exact hh k
  exact key l _ (fun _ => .inl rfl)

abbrev ordN (k : Nat) : List UInt8 := smallF (ordL.getD k 0)
theorem ordN_rise : ∀ j k, j < k → k < 8 → Op.bytesLess (ordN j) (ordN k) = true := by
  intro j k hjk hk
  have h : ∀ k < 8, ∀ j < k, Op.bytesLess (ordN j) (ordN k) = true := by decide +kernel
  exact h k hk j hjk
theorem outF_ok (h : Nat → List UInt8) (hh : ∀ k, h k = [] ∨ valueB (h k) = true) : ∀ k, k ≤ 8 →
    chkK labB keyR (outF h k) (outF h k).length = true ∧ (∀ x ∈ outF h k, ∃ j < k, x.1 = ordN j)
  | 0, _ => ⟨rfl, fun x hx => by simp [outF] at hx⟩
  | k + 1, hk => by
    obtain ⟨h1, h2⟩ := outF_ok h hh k (by omega)
    rw [outF]
    split
    · rename_i hc
      refine ⟨chk_snoc h1 ?_ ?_, ?_⟩
      · unfold labB
        rw [Bool.and_eq_true]
        refine ⟨smallF_ok _, ?_⟩
        rcases hh (ordL.getD k 0).toNat with e | e
        · exact absurd e hc.1
        · exact e
      · cases hl : (outF h k).getLast? with
        | none => rfl
        | some y =>
          obtain ⟨j, hj, e⟩ := h2 y (List.mem_of_getLast? hl)
          show keyR y _ = true
          unfold keyR
          rw [e]
          exact ordN_rise j k hj (by omega)
      · intro x hx
        rw [List.mem_append, List.mem_singleton] at hx
        rcases hx with hx | rfl
        · obtain ⟨j, hj, e⟩ := h2 x hx
          exact ⟨j, by omega, e⟩
        · exact ⟨k, by omega, rfl⟩
    · exact ⟨h1, fun x hx => by
        obtain ⟨j, hj, e⟩ := h2 x hx
        exact ⟨j, by omega, e⟩⟩
theorem chkA_of {α : Type} {mb : α → Bool} {ri : α → α → Bool} {l : List α} (hl : l.length ≤ 6) (h : chkK mb ri l l.length = true) : chkA mb ri l = 0 := by
  unfold chkA
  rw [if_neg]
  rw [h]
  simp
  exact hl
theorem labelsF_ok (l : List (Int × Int × Int)) : chkA labB keyR (labelsF l) = 0 :=
  chkA_of (outF_len _ 8).2 (outF_ok _ (hasL_ok l) 8 (Nat.le_refl _)).1
theorem chkK_mono {α : Type} {mb mb' : α → Bool} {ri ri' : α → α → Bool} {l : List α} (hm : ∀ x, mb x = true → mb' x = true) (hr : ∀ x y, ri x y = true → ri' x y = true) : ∀ k, chkK mb ri l k = true → chkK mb' ri' l k = true
  | 0, _ => rfl
  | k + 1, h => by
    rw [chkK, Bool.and_eq_true] at h ⊢
    refine ⟨chkK_mono hm hr k h.1, ?_⟩
    have h2 := h.2
    cases hk : l[k]? with
    | none => rfl
    | some x =>
      rw [hk] at h2
      simp only at h2 ⊢
      unfold okAt at h2 ⊢
      rw [Bool.and_eq_true] at h2 ⊢
      refine ⟨hm x h2.1, ?_⟩
      have h3 := h2.2
      rw [Bool.or_eq_true] at h3 ⊢
      rcases h3 with h3 | h3
      · exact .inl h3
      · refine .inr ?_
        cases hp : l[k - 1]? with
        | none => rfl
        | some y =>
          rw [hp] at h3
          exact hr y x h3
theorem labelsF_bor (l : List (Int × Int × Int)) : chkA borB pairR (labelsF l) = 0 := by
  refine chkA_of (outF_len _ 8).2 (chkK_mono (mb := labB) (ri := keyR) ?_ ?_ _ (outF_ok _ (hasL_ok l) 8 (Nat.le_refl _)).1)
  · intro x hx
    unfold labB at hx
    unfold borB
    rw [Bool.and_eq_true] at hx ⊢
    exact ⟨hx.1, by rw [hx.2, Bool.or_true]⟩
  · intro x y h
    unfold keyR at h
    unfold pairR
    rw [h, Bool.true_or]
theorem labelsF_len (l : List (Int × Int × Int)) : (labelsF l).length ≤ 6 := (outF_len _ 8).2

theorem termF_ok (x : Int × Int × Int) : terB (termF x) = true := by
  have b0 : (0 : Int) ≤ x.2.2 % 4 := Int.emod_nonneg _ (by decide)
  have b1 : x.2.2 % 4 < 4 := Int.emod_lt_of_pos _ (by decide)
  unfold terB termF
  simp only
  by_cases h : 1 + x.2.2 % 4 = 1 ∨ 1 + x.2.2 % 4 = 2
  · rw [if_pos h, if_pos h, Bool.and_eq_true]
    exact ⟨smallF_ok _, valueF_ok _⟩
  · rw [if_neg h, if_neg h, if_pos (by omega), Bool.and_eq_true]
    exact ⟨smallF_ok _, by simp⟩
theorem terms_chkK (l : List (Int × List UInt8 × List UInt8)) (h : ∀ x ∈ l, terB x = true) : ∀ k, chkK terB anyR l k = true
  | 0 => rfl
  | k + 1 => by
    rw [chkK, Bool.and_eq_true]
    refine ⟨terms_chkK l h k, ?_⟩
    cases hk : l[k]? with
    | none => rfl
    | some x =>
      simp only
      unfold okAt
      rw [h x (List.mem_of_getElem? hk), Bool.true_and, Bool.or_eq_true]
      refine .inr ?_
      cases l[k - 1]? <;> rfl
def termsF (l : List (Int × Int × Int)) : List (Int × List UInt8 × List UInt8) := (l.take 6).map termF
theorem termsF_ok (l : List (Int × Int × Int)) : chkA terB anyR (termsF l) = 0 := by
  refine chkA_of ?_ (terms_chkK _ ?_ _)
  · unfold termsF
    simp
    omega
  · intro x hx
    unfold termsF at hx
    rw [List.mem_map] at hx
    obtain ⟨y, _, rfl⟩ := hx
    exact termF_ok y
end Go.Proofs.Yteclbkjonaildaa
