/- What a list that was read is good for: its text is what was read, and it may be; where it is wrong. Plain mathematics. No conditions. -/
import Derived.Test.YteclbkjonaildaaLMath
import Derived.Test.YteclbkjonaildaaLParse
namespace Go.Proofs.Yteclbkjonaildaa
open Go.RowKit

theorem printK_append {α : Type} (part : α → List UInt8) (l r : List α) : ∀ k, k ≤ l.length → printK part (l ++ r) k = printK part l k
  | 0, _ => rfl
  | k + 1, h => by
    rw [printK, printK, printK_append part l r k (by omega), List.getElem?_append_left (by omega)]
theorem printA_snoc {α : Type} (part : α → List UInt8) (l : List α) (x : α) : printA part (l ++ [x]) = printA part l ++ (if l = [] then [] else [44]) ++ part x := by
  unfold printA
  rw [List.length_append, List.length_cons, List.length_nil, printK, printK_append part l [x] l.length (Nat.le_refl _)]
  rw [List.getElem?_append_right (Nat.le_refl _), Nat.sub_self]
  by_cases h : l = []
  · subst h; simp
  · have : ¬ l.length = 0 := fun e => h (List.length_eq_zero_iff.1 e)
    simp [h]
theorem chkK_append {α : Type} (mb : α → Bool) (ri : α → α → Bool) (l r : List α) : ∀ k, k ≤ l.length → chkK mb ri (l ++ r) k = chkK mb ri l k
  | 0, _ => rfl
  | k + 1, h => by
    rw [chkK, chkK, chkK_append mb ri l r k (by omega), List.getElem?_append_left (by omega)]
    unfold okAt
    rw [List.getElem?_append_left (by omega)]
theorem chk_snoc {α : Type} {mb : α → Bool} {ri : α → α → Bool} {l : List α} {x : α} (h : chkK mb ri l l.length = true) (hm : mb x = true) (hr : (l.getLast?.map (fun y => ri y x)).getD true = true) : chkK mb ri (l ++ [x]) (l ++ [x]).length = true := by
  rw [List.length_append, List.length_cons, List.length_nil, chkK, chkK_append mb ri l [x] l.length (Nat.le_refl _), h]
  rw [List.getElem?_append_right (Nat.le_refl _), Nat.sub_self]
  show (true && okAt mb ri (l ++ [x]) l.length x) = true
  rw [Bool.true_and]
  by_cases h0 : l.length = 0
  · exact okAt_zero hm h0
  · have hl : l.getLast? = l[l.length - 1]? := List.getLast?_eq_getElem?
    have hy : ∃ y, l[l.length - 1]? = some y := ⟨l[l.length - 1]'(by omega), List.getElem?_eq_getElem (by omega)⟩
    obtain ⟨y, hy⟩ := hy
    rw [okAt_pos hm h0 (by rw [List.getElem?_append_left (by omega)]; exact hy)]
    rw [hl, hy] at hr
    simpa using hr

/-- What reading comes to, in any case. -/
theorem readF_facts {α : Type} (step : List UInt8 → Nat → α × Bool × Nat) (ri : α → α → Bool) (l : List UInt8) (hsz : ∀ a, a ≤ l.length → (step l a).2.2 ≤ l.length) :
    ∀ (f : Nat) (acc : List α) (a : Nat) (res : List α) (x0 : Nat) (e : Int), a ≤ l.length → readF step ri l f acc a = (res, x0, e) →
      x0 ≤ l.length ∧ (e = 3 → x0 = l.length) ∧ (e ≠ 0 → res = []) ∧ (e = 0 → x0 = 0)
  | 0, acc, a, res, x0, e, ha, h => by
    simp only [readF, Prod.mk.injEq] at h
    obtain ⟨rfl, rfl, rfl⟩ := h
    exact ⟨Nat.zero_le _, fun e => absurd e (by decide), fun _ => rfl, fun _ => rfl⟩
  | f + 1, acc, a, res, x0, e, ha, h => by
    have hz := hsz a ha
    rw [readF] at h
    split at h
    · simp only [Prod.mk.injEq] at h
      obtain ⟨rfl, rfl, he⟩ := h
      refine ⟨hz, fun e3 => ?_, fun _ => rfl, fun e0 => ?_⟩
      · by_cases hq : (step l a).2.2 = l.length
        · exact hq
        · rw [if_neg hq] at he; omega
      · split at he <;> omega
    · split at h
      · simp only [Prod.mk.injEq] at h
        obtain ⟨rfl, rfl, rfl⟩ := h
        exact ⟨hz, fun e => absurd e (by decide), fun _ => rfl, fun e => absurd e (by decide)⟩
      · split at h
        · simp only [Prod.mk.injEq] at h
          obtain ⟨rfl, rfl, rfl⟩ := h
          exact ⟨ha, fun e => absurd e (by decide), fun _ => rfl, fun e => absurd e (by decide)⟩
        · split at h
          · simp only [Prod.mk.injEq] at h
            obtain ⟨rfl, rfl, rfl⟩ := h
            exact ⟨ha, fun e => absurd e (by decide), fun _ => rfl, fun e => absurd e (by decide)⟩
          · split at h
            · simp only [Prod.mk.injEq] at h
              obtain ⟨rfl, rfl, rfl⟩ := h
              exact ⟨Nat.zero_le _, fun e => absurd e (by decide), fun e => absurd rfl e, fun _ => rfl⟩
            · exact readF_facts step ri l hsz f _ _ res x0 e (by omega) h
theorem readA_facts {α : Type} (step : List UInt8 → Nat → α × Bool × Nat) (ri : α → α → Bool) (l : List UInt8) (hsz : ∀ a, a ≤ l.length → (step l a).2.2 ≤ l.length) (res : List α) (x0 : Nat) (e : Int) (h : readA step ri l = (res, x0, e)) :
    x0 ≤ l.length ∧ (e = 3 → x0 = l.length) ∧ (e ≠ 0 → res = []) ∧ (e = 0 → x0 = 0) := by
  unfold readA at h
  split at h
  · simp only [Prod.mk.injEq] at h
    obtain ⟨rfl, rfl, rfl⟩ := h
    exact ⟨Nat.zero_le _, fun e => absurd e (by decide), fun _ => rfl, fun _ => rfl⟩
  · exact readF_facts step ri l hsz 7 [] 0 res x0 e (Nat.zero_le _) h

/-- What was read of all of a text has just that text, and may be. -/
theorem readF_ok {α : Type} (step : List UInt8 → Nat → α × Bool × Nat) (part : α → List UInt8) (mb : α → Bool) (ri : α → α → Bool) (l : List UInt8) (hs : StepOk step part mb l) :
    ∀ (f : Nat) (acc : List α) (a : Nat) (res : List α) (x0 : Nat), a ≤ l.length → acc.length + f = 7 → (acc = [] → a = 0) → (acc ≠ [] → printA part acc ++ [44] = l.take a) → chkK mb ri acc acc.length = true → acc.length ≤ 6 →
      readF step ri l f acc a = (res, x0, 0) → printA part res = l ∧ chkK mb ri res res.length = true ∧ res.length ≤ 6
  | 0, acc, a, res, x0, ha, hf, _, _, _, h6, h => by omega
  | f + 1, acc, a, res, x0, ha, hf, hn, hp, hc, h6, h => by
    rcases hq : step l a with ⟨x, is, z⟩
    rw [readF, hq] at h
    simp only at h
    split at h
    · simp only [Prod.mk.injEq] at h
      have := h.2.2
      split at this <;> omega
    · rename_i his
      have his : is = true := by simpa using his
      subst his
      obtain ⟨h1, h2, h3, h4⟩ := hs a ha x z hq
      split at h
      · simp at h
      · rename_i hsep
        split at h
        · simp at h
        · rename_i hl6
          split at h
          · simp at h
          · rename_i hri
            have hri : (acc.getLast?.map (fun y => ri y x)).getD true = true := by simpa using hri
            have hpx : printA part (acc ++ [x]) = l.take z := by
              rw [printA_snoc, h3]
              by_cases hnil : acc = []
              · have ha0 := hn hnil
                subst hnil ha0
                simp [printA, printK]
              · rw [if_neg hnil, hp hnil]
                have e : z = a + (z - a) := by omega
                conv => rhs; rw [e, List.take_add]
            have hcx := chk_snoc (l := acc) (x := x) hc h4 hri
            split at h
            · rename_i hz
              simp only [Prod.mk.injEq] at h
              obtain ⟨rfl, rfl, _⟩ := h
              exact ⟨by rw [hpx, hz, List.take_length], hcx, by simp; omega⟩
            · rename_i hz
              have hsg : signL l z 44 = true := by
                cases hb : signL l z 44
                · exact absurd ⟨hz, hb⟩ hsep
                · rfl
              have hz1 := sign_lt hsg
              refine readF_ok step part mb ri l hs f (acc ++ [x]) (z + 1) res x0 hz1 (by simp; omega) (fun e => by simp at e) (fun _ => ?_) hcx (by simp; omega) h
              rw [hpx, List.take_add, take_one hsg]
theorem readA_ok {α : Type} (step : List UInt8 → Nat → α × Bool × Nat) (part : α → List UInt8) (mb : α → Bool) (ri : α → α → Bool) (l : List UInt8) (hs : StepOk step part mb l) (res : List α) (x0 : Nat) (h : readA step ri l = (res, x0, 0)) :
    printA part res = l ∧ chkA mb ri res = 0 ∧ res.length ≤ 6 := by
  have key : printA part res = l ∧ chkK mb ri res res.length = true ∧ res.length ≤ 6 := by
    unfold readA at h
    split at h
    · rename_i hl
      simp only [Prod.mk.injEq] at h
      obtain ⟨rfl, _, _⟩ := h
      exact ⟨hl.symm, rfl, Nat.zero_le _⟩
    · exact readF_ok step part mb ri l hs 7 [] 0 res x0 (Nat.zero_le _) rfl (fun _ => rfl) (fun e => absurd rfl e) rfl (Nat.zero_le _) h
  obtain ⟨h1, h2, h3⟩ := key
  refine ⟨h1, ?_, h3⟩
  unfold chkA
  rw [if_neg]
  rintro (h | h)
  · omega
  · rw [h2] at h; cases h

end Go.Proofs.Yteclbkjonaildaa
