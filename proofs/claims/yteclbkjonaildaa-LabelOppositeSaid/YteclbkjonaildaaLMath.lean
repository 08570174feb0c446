/- What was read has just that text, and may be: plain mathematics of lists. No conditions. -/
import Derived.Test.YteclbkjonaildaaLCheck
import Derived.Test.YteclbkjonaildaaLPrintB
import Derived.Test.YteclbkjonaildaaLRise
namespace Go.Proofs.Yteclbkjonaildaa
open Go.RowKit

theorem span_take (ok : Nat → Nat → Bool) : ∀ (t : List UInt8) (a : Nat), spanF ok (t.take (spanF ok t a - a)) a = spanF ok t a
  | [], a => by simp [spanF]
  | b :: t, a => by
    by_cases h : a = 15 ∨ ok a b.toNat = false
    · rw [show spanF ok (b :: t) a = a by rw [spanF, if_pos h], Nat.sub_self, List.take_zero, spanF]
    · have e : spanF ok (b :: t) a = spanF ok t (a + 1) := by rw [spanF, if_neg h]
      have h1 := (span_le ok t (a + 1)).1
      rw [e, show spanF ok t (a + 1) - a = (spanF ok t (a + 1) - (a + 1)) + 1 by omega, List.take_succ_cons, spanF, if_neg h]
      exact span_take ok t (a + 1)
theorem word_span (ok : Nat → Nat → Bool) (l : List UInt8) (a : Nat) : spanF ok ((l.drop a).take (wordL ok l a)) 0 = wordL ok l a := by
  have := span_take ok (l.drop a) 0
  rwa [Nat.sub_zero] at this
theorem word_len (ok : Nat → Nat → Bool) (l : List UInt8) (a : Nat) (h : a ≤ l.length) : ((l.drop a).take (wordL ok l a)).length = wordL ok l a := by
  have := word_le ok l a h
  rw [List.length_take, List.length_drop]
  omega
theorem span_15 (ok : Nat → Nat → Bool) : ∀ (t : List UInt8) (a : Nat), a ≤ 15 → spanF ok t a ≤ 15
  | [], a, h => h
  | b :: t, a, h => by
    rw [spanF]
    split
    · exact h
    · rename_i hn
      exact span_15 ok t (a + 1) (by
        have : a ≠ 15 := fun e => hn (.inl e)
        omega)
theorem word_15 (ok : Nat → Nat → Bool) (l : List UInt8) (a : Nat) : wordL ok l a ≤ 15 := span_15 ok _ 0 (by omega)
theorem nameB_word (l : List UInt8) (a : Nat) (h : a ≤ l.length) (hn : 0 < wordL okName l a) : nameB ((l.drop a).take (wordL okName l a)) = true := by
  have h1 := word_len okName l a h
  unfold nameB
  rw [word_span, h1]
  simp only [decide_true, Bool.and_true, decide_eq_true_eq]
  intro e
  rw [e] at h1
  simp at h1
  omega
theorem valueB_word (l : List UInt8) (a : Nat) (h : a ≤ l.length) (hn : 0 < wordL okVal l a) : valueB ((l.drop a).take (wordL okVal l a)) = true := by
  have h1 := word_len okVal l a h
  unfold valueB
  rw [word_span, h1]
  simp only [decide_true, Bool.and_true, decide_eq_true_eq]
  intro e
  rw [e] at h1
  simp at h1
  omega
theorem sign_at {l : List UInt8} {a : Nat} {c : UInt8} (h : signL l a c = true) : l[a]? = some c := by
  unfold signL at h
  exact of_decide_eq_true h
theorem take_one {l : List UInt8} {a : Nat} {c : UInt8} (h : signL l a c = true) : (l.drop a).take 1 = [c] := by
  have h1 := sign_at h
  have h2 := (List.getElem?_eq_some_iff.1 h1).1
  rw [List.drop_eq_getElem_cons h2, List.take_succ_cons, List.take_zero]
  rw [List.getElem?_eq_getElem h2] at h1
  cases h1
  rfl
theorem take_more (l : List UInt8) (a n m : Nat) : (l.drop a).take (n + m) = (l.drop a).take n ++ (l.drop (a + n)).take m := by
  rw [List.take_add, List.drop_drop]

/-- What a step that reads a part is good for: the part's text is what was read, and it may be. -/
def StepOk {α : Type} (step : List UInt8 → Nat → α × Bool × Nat) (part : α → List UInt8) (mb : α → Bool) (l : List UInt8) : Prop :=
  ∀ a, a ≤ l.length → ∀ x z, step l a = (x, true, z) → a < z ∧ z ≤ l.length ∧ part x = (l.drop a).take (z - a) ∧ mb x = true

/-- What reads a value is good for. -/
def ValOk (vf : List UInt8 → Nat → List UInt8 × Bool × Nat) (vb : List UInt8 → Bool) (l : List UInt8) : Prop :=
  ∀ a, a ≤ l.length → ∀ v z, vf l a = (v, true, z) → a ≤ z ∧ z ≤ l.length ∧ v = (l.drop a).take (z - a) ∧ vb v = true

theorem valF_ok (l : List UInt8) : ValOk valF valueB l := by
  intro a ha v z h
  unfold valF at h
  simp only [Prod.mk.injEq, decide_eq_true_eq] at h
  obtain ⟨rfl, h1, rfl⟩ := h
  exact ⟨by omega, word_le okVal l a ha, by rw [Nat.add_sub_cancel_left], valueB_word l a ha h1⟩
def anyB (v : List UInt8) : Bool := decide (v = [42]) || valueB v
theorem anyF_ok (l : List UInt8) : ValOk anyF anyB l := by
  intro a ha v z h
  unfold anyF at h
  split at h
  · rename_i hs
    simp only [Prod.mk.injEq, true_and] at h
    obtain ⟨rfl, rfl⟩ := h
    exact ⟨by omega, sign_lt hs, by rw [Nat.add_sub_cancel_left, take_one hs], by simp [anyB]⟩
  · obtain ⟨h1, h2, h3, h4⟩ := valF_ok l a ha v z h
    exact ⟨h1, h2, h3, by simp [anyB, h4]⟩
theorem labF_ok (vf : List UInt8 → Nat → List UInt8 × Bool × Nat) (vb : List UInt8 → Bool) (l : List UInt8) (hv : ValOk vf vb l) : StepOk (labF vf) labP (fun x => nameB x.1 && vb x.2) l := by
  intro a ha x z h
  have hle := word_le okName l a ha
  unfold labF at h
  simp only at h
  split at h
  · simp at h
  · rename_i h0
    split at h
    · simp at h
    · rename_i hs
      have hs : signL l (a + wordL okName l a) 61 = true := by simpa using hs
      have hs1 := sign_lt hs
      rcases hq : vf l (a + wordL okName l a + 1) with ⟨v, is, y⟩
      rw [hq] at h
      simp only [Prod.mk.injEq] at h
      obtain ⟨rfl, rfl, rfl⟩ := h
      obtain ⟨h1, h2, h3, h4⟩ := hv _ hs1 v y hq
      refine ⟨by omega, h2, ?_, ?_⟩
      · unfold labP
        simp only
        rw [show y - a = wordL okName l a + (1 + (y - (a + wordL okName l a + 1))) by omega, take_more, take_more, take_one hs, ← h3, List.append_assoc]
      · show (nameB _ && vb v) = true
        rw [nameB_word l a ha (by omega), h4]
        rfl

theorem terF_ok (l : List UInt8) : StepOk terF terP terB l := by
  intro a ha x z h
  have hle := word_le okName l a ha
  unfold terF at h
  split at h
  · rename_i hs
    have hs1 := sign_lt hs
    have hle1 := word_le okName l (a + 1) hs1
    simp only [Prod.mk.injEq, decide_eq_true_eq] at h
    obtain ⟨rfl, h0, rfl⟩ := h
    refine ⟨by omega, hle1, ?_, ?_⟩
    · unfold terP
      simp only
      rw [if_neg (by decide), if_neg (by decide), if_neg (by decide), show a + 1 + wordL okName l (a + 1) - a = 1 + wordL okName l (a + 1) by omega, take_more, take_one hs]
    · unfold terB
      simp only
      rw [if_neg (by decide), if_pos (by decide), nameB_word l (a + 1) hs1 h0]
      rfl
  · simp only at h
    split at h
    · simp at h
    · rename_i h0
      rcases relF_cases l (a + wordL okName l a) hle with e | ⟨b, e, hb⟩ | ⟨k, b, e, hk, hb⟩
      · rw [e] at h
        simp only at h
        rw [if_neg (by simp)] at h
        simp only [Prod.mk.injEq, true_and] at h
        obtain ⟨rfl, rfl⟩ := h
        refine ⟨by omega, hle, ?_, ?_⟩
        · unfold terP
          simp only
          rw [if_neg (by decide), if_neg (by decide), if_pos trivial, Nat.add_sub_cancel_left]
        · unfold terB
          simp only
          rw [if_neg (by decide), if_pos (by decide), nameB_word l a ha (by omega)]
          rfl
      · rw [e] at h
        simp only at h
        rw [if_neg (by simp)] at h
        simp at h
      · rcases hq : valF l b with ⟨v, is, y⟩
        rw [e] at h
        simp only at h
        rw [if_pos ⟨trivial, by omega⟩, hq] at h
        simp only [Prod.mk.injEq] at h
        obtain ⟨rfl, rfl, rfl⟩ := h
        obtain ⟨h1, h2, h3, h4⟩ := valF_ok l b hb v y hq
        have hbk : (k = 1 ∧ signL l (a + wordL okName l a) 61 = true ∧ b = a + wordL okName l a + 1) ∨ (k = 2 ∧ signL l (a + wordL okName l a) 33 = true ∧ signL l (a + wordL okName l a + 1) 61 = true ∧ b = a + wordL okName l a + 2) := by
          unfold relF at e
          split at e
          · rename_i hs
            simp only [Prod.mk.injEq, true_and] at e
            exact .inl ⟨e.1.symm, hs, e.2.symm⟩
          · split at e
            · rename_i hs1
              split at e
              · rename_i hs2
                simp only [Prod.mk.injEq, true_and] at e
                exact .inr ⟨e.1.symm, hs1, hs2, e.2.symm⟩
              · simp at e
            · simp only [Prod.mk.injEq, true_and] at e
              omega
        have hn := nameB_word l a ha (by omega)
        rcases hbk with ⟨rfl, hs, rfl⟩ | ⟨rfl, hs1, hs2, rfl⟩
        · refine ⟨by omega, h2, ?_, ?_⟩
          · unfold terP
            simp only
            rw [if_pos trivial, show y - a = wordL okName l a + (1 + (y - (a + wordL okName l a + 1))) by omega, take_more, take_more, take_one hs, ← h3, List.append_assoc]
          · unfold terB
            simp only
            rw [if_pos (by decide), hn, h4]
            rfl
        · refine ⟨by omega, h2, ?_, ?_⟩
          · unfold terP
            simp only
            rw [if_neg (by decide), if_pos trivial, show y - a = wordL okName l a + (1 + (1 + (y - (a + wordL okName l a + 2)))) by omega, take_more, take_more, take_more, take_one hs1, take_one hs2, show a + wordL okName l a + 1 + 1 = a + wordL okName l a + 2 by omega, ← h3]
            simp
          · unfold terB
            simp only
            rw [if_pos (by decide), hn, h4]
            rfl

end Go.Proofs.Yteclbkjonaildaa
