/- What may be is read of its text as it was: plain mathematics, for any reader of a part. No conditions. -/
import Derived.Test.YteclbkjonaildaaLMathR
import Derived.Test.YteclbkjonaildaaLMathS
namespace Go.Proofs.Yteclbkjonaildaa
open Go.RowKit

/-- A reader of a part reads each part that may be, if its text ends there, or a comma stands behind it. -/
def StepTo {α : Type} (step : List UInt8 → Nat → α × Bool × Nat) (part : α → List UInt8) (mb : α → Bool) : Prop :=
  ∀ (x : α) (pre suf : List UInt8), mb x = true → (suf = [] ∨ ∃ t, suf = 44 :: t) → step (pre ++ part x ++ suf) pre.length = (x, true, pre.length + (part x).length)
/-- The text of what stands behind a part. -/
def tailP {α : Type} (part : α → List UInt8) : List α → List UInt8
  | [] => []
  | x :: xs => 44 :: (part x ++ tailP part xs)
theorem tailP_form {α : Type} (part : α → List UInt8) (xs : List α) : tailP part xs = [] ∨ ∃ t, tailP part xs = 44 :: t := by
  cases xs with
  | nil => exact .inl rfl
  | cons x xs => exact .inr ⟨_, rfl⟩
theorem printA_tail {α : Type} (part : α → List UInt8) : ∀ (xs acc : List α), acc ≠ [] → printA part (acc ++ xs) = printA part acc ++ tailP part xs
  | [], acc, _ => by rw [List.append_nil, tailP, List.append_nil]
  | x :: xs, acc, h => by
    have e : acc ++ x :: xs = (acc ++ [x]) ++ xs := by simp
    rw [e, printA_tail part xs (acc ++ [x]) (by simp), printA_snoc, if_neg h, tailP]
    simp
theorem chkK_at {α : Type} {mb : α → Bool} {ri : α → α → Bool} {l : List α} : ∀ {n : Nat}, chkK mb ri l n = true → ∀ {k : Nat} {x : α}, k < n → l[k]? = some x → okAt mb ri l k x = true
  | 0, _, k, x, hk, _ => absurd hk (Nat.not_lt_zero _)
  | n + 1, h, k, x, hk, hx => by
    rw [chkK, Bool.and_eq_true] at h
    rcases Nat.lt_or_eq_of_le (Nat.le_of_lt_succ hk) with g | rfl
    · exact chkK_at h.1 g hx
    · have := h.2
      rw [hx] at this
      exact this

theorem readF_print {α : Type} (step : List UInt8 → Nat → α × Bool × Nat) (part : α → List UInt8) (mb : α → Bool) (ri : α → α → Bool) (hs : StepTo step part mb) :
    ∀ (f : Nat) (xs acc : List α) (x : α), chkK mb ri (acc ++ x :: xs) (acc ++ x :: xs).length = true → (acc ++ x :: xs).length ≤ 6 → xs.length < f →
      readF step ri (printA part (acc ++ x :: xs)) f acc (printA part acc ++ (if acc = [] then [] else [44])).length = (acc ++ x :: xs, 0, 0)
  | 0, xs, acc, x, _, _, hf => absurd hf (Nat.not_lt_zero _)
  | f + 1, xs, acc, x, hc, h6, hf => by
    obtain ⟨pre, hpre⟩ : ∃ pre, printA part acc ++ (if acc = [] then [] else [44]) = pre := ⟨_, rfl⟩
    have e : acc ++ x :: xs = (acc ++ [x]) ++ xs := by simp
    have hl : printA part (acc ++ x :: xs) = pre ++ part x ++ tailP part xs := by
      rw [e, printA_tail part xs (acc ++ [x]) (by simp), printA_snoc, hpre]
    have hx : (acc ++ x :: xs)[acc.length]? = some x := by simp
    have hlen : acc.length < (acc ++ x :: xs).length := by simp
    have hok := chkK_at hc hlen hx
    have hmb : mb x = true := by
      unfold okAt at hok
      rw [Bool.and_eq_true] at hok
      exact hok.1
    have hst := hs x pre (tailP part xs) hmb (tailP_form part xs)
    have h5 : ¬ acc.length = 6 := by
      intro h
      simp at h6
      omega
    have hri : ¬(acc.getLast?.map (fun y => ri y x)).getD true = false := by
      by_cases h0 : acc.length = 0
      · rw [List.length_eq_zero_iff.1 h0]
        simp
      · have hg : acc.getLast? = acc[acc.length - 1]? := List.getLast?_eq_getElem?
        have hy : acc[acc.length - 1]? = some (acc[acc.length - 1]'(by omega)) := List.getElem?_eq_getElem (by omega)
        rw [okAt_pos hmb h0 (by rw [List.getElem?_append_left (by omega)]; exact hy)] at hok
        rw [hg, hy]
        simpa using hok
    rw [hpre, hl, readF, hst]
    simp only
    rw [if_neg (by simp)]
    cases xs with
    | nil =>
      have hz : pre.length + (part x).length = (pre ++ part x ++ tailP part ([] : List α)).length := by simp [tailP]
      rw [if_neg (fun h => h.1 hz), if_neg h5, if_neg hri, if_pos hz]
    | cons y ys =>
      have hz : pre.length + (part x).length ≠ (pre ++ part x ++ tailP part (y :: ys)).length := by simp [tailP]
      have hsg : signL (pre ++ part x ++ tailP part (y :: ys)) (pre.length + (part x).length) 44 = true := by
        unfold signL
        have : (pre ++ part x ++ tailP part (y :: ys))[pre.length + (part x).length]? = some 44 := by
          rw [List.getElem?_append_right (by simp)]
          simp [tailP]
        rw [this]
        simp
      rw [if_neg (fun h => by rw [hsg] at h; exact absurd h.2 (by decide)), if_neg h5, if_neg hri, if_neg hz]
      have e2 : acc ++ x :: y :: ys = (acc ++ [x]) ++ y :: ys := by simp
      have ih := readF_print step part mb ri hs f ys (acc ++ [x]) y (by rw [← e2]; exact hc) (by rw [← e2]; exact h6) (by simp at hf; omega)
      rw [← e2, hl] at ih
      have ha : (printA part (acc ++ [x]) ++ (if acc ++ [x] = [] then [] else [44])).length = pre.length + (part x).length + 1 := by
        rw [printA_snoc, hpre, if_neg (by simp)]
        simp
        omega
      rw [ha] at ih
      exact ih

/-- What may be is read of its text as it was. -/
theorem readA_print {α : Type} (step : List UInt8 → Nat → α × Bool × Nat) (part : α → List UInt8) (mb : α → Bool) (ri : α → α → Bool) (hs : StepTo step part mb) (hne : ∀ x, mb x = true → part x ≠ []) (r : List α) (hc : chkA mb ri r = 0) :
    readA step ri (printA part r) = (r, 0, 0) := by
  have h : ¬(6 < r.length ∨ chkK mb ri r r.length = false) := by
    intro h
    unfold chkA at hc
    rw [if_pos h] at hc
    exact absurd hc (by decide)
  have h6 : r.length ≤ 6 := by
    rcases Nat.lt_or_ge 6 r.length with g | g
    · exact absurd (.inl g) h
    · exact g
  have hk : chkK mb ri r r.length = true := by
    cases g : chkK mb ri r r.length
    · exact absurd (.inr g) h
    · rfl
  cases r with
  | nil => rfl
  | cons x xs =>
    have hx := chkK_at hk (k := 0) (x := x) (by simp) rfl
    have hmb : mb x = true := by
      unfold okAt at hx
      rw [Bool.and_eq_true] at hx
      exact hx.1
    have hl : printA part (x :: xs) = part x ++ tailP part xs := by
      have := printA_tail part xs [x] (by simp)
      rw [show [x] ++ xs = x :: xs from rfl] at this
      rw [this]
      have h1 := printA_snoc part [] x
      rw [List.nil_append] at h1
      rw [h1]
      simp [printA, printK]
    have hn : printA part (x :: xs) ≠ [] := by
      rw [hl]
      intro h
      exact hne x hmb (List.append_eq_nil_iff.1 h).1
    unfold readA
    rw [if_neg hn]
    exact readF_print step part mb ri hs 7 xs [] x hk h6 (by simp at h6; omega)

end Go.Proofs.Yteclbkjonaildaa
