/- How many words a text has, and how long they are. No conditions. -/
import Derived.Test.YthbplchbolghjaaGreatDoorSScan
namespace Go.Proofs.YthbplchbolghjaaGreatDoor
open Go.RowKit

/-- No text of a word is longer than this. -/
def Txt (b : Nat) (s : Sc.RS) : Prop := s.text.length ≤ b ∧ ∀ x ∈ s.words, x.2.1.length ≤ b
theorem Txt.mono {a b : Nat} {s : Sc.RS} (h : Txt a s) (hab : a ≤ b) : Txt b s := ⟨Nat.le_trans h.1 hab, fun x hx => Nat.le_trans (h.2 x hx) hab⟩
theorem Txt.add {b : Nat} {s : Sc.RS} (h : Txt b s) (c : Int) : Txt (b + 4) (Sc.addF s c) := by
  have he := Sc.enc_len c
  refine ⟨?_, fun x hx => Nat.le_trans (h.2 x hx) (Nat.le_add_right _ _)⟩
  have := h.1
  simp [Sc.addF]
  omega
theorem Txt.begin {b : Nat} {s : Sc.RS} (h : Txt b s) (k : Int) (m : Sc.Mode) : Txt b (Sc.beginF s k m) := ⟨Nat.zero_le _, h.2⟩
theorem Txt.done {b : Nat} {s : Sc.RS} (h : Txt b s) : Txt b (Sc.endF s) := by
  refine ⟨h.1, fun x hx => ?_⟩
  rcases List.mem_append.1 hx with h1 | h1
  · exact h.2 x h1
  · rw [List.mem_singleton] at h1
    subst h1
    exact h.1
theorem Txt.same {b : Nat} {s t : Sc.RS} (h : Txt b s) (h1 : t.text = s.text) (h2 : t.words = s.words) : Txt b t := ⟨by rw [h1]; exact h.1, by rw [h2]; exact h.2⟩
theorem txt_bet {b : Nat} {s : Sc.RS} (h : Txt b s) (c : Nat) : Txt (b + 4) (Sc.betF s c).1 := by
  have h4 := h.mono (Nat.le_add_right b 4)
  unfold Sc.betF
  split
  · exact h4
  · split
    · exact h4.same rfl rfl
    · split
      · exact h4.begin _ _
      · split
        · exact ((h.begin _ _).add _).done
        · split
          · exact (h.begin _ _).add _
          · split
            · exact (h.begin _ _).add _
            · exact h4
theorem txt_go {b : Nat} {s : Sc.RS} (h : Txt b s) (c : Nat) (q : Bool) : Txt (b + 4) (Sc.goF s c q).1 := by
  unfold Sc.goF
  split
  · exact h.add _
  · split
    · exact h.mono (Nat.le_add_right b 4)
    · exact txt_bet h.done c
theorem txt_step {b : Nat} {s : Sc.RS} (h : Txt b s) (c : Nat) : Txt (b + 4) (Sc.stepF s c).1 := by
  have h4 := h.mono (Nat.le_add_right b 4)
  unfold Sc.stepF
  split
  · exact txt_bet h c
  · exact txt_go h c _
  · exact txt_go h c _
  · unfold Sc.strF
    split
    · exact h4
    · split
      · exact h4
      · split
        · exact h4.done
        · split
          · exact h4.same rfl rfl
          · exact h.add _
  · unfold Sc.escF
    split
    · exact h4
    · split
      · exact (h.add _).same rfl rfl
      · split
        · exact (h.add _).same rfl rfl
        · exact h4
  · unfold Sc.comF
    split
    · exact h4.same rfl rfl
    · exact h4
theorem txt_read {b : Nat} {s : Sc.RS} (h : Txt b s) (c : Nat) : Txt (b + 4) (Sc.readF s c).1 := by
  have k := txt_step h c
  unfold Sc.readF
  split
  · exact k.same rfl rfl
  · exact k
theorem txt_scan (l : List UInt8) : ∀ (f pos b : Nat) (s : Sc.RS), Txt b s → ∀ x ∈ (Sc.scanF l f pos s).1, x.2.1.length ≤ b + 4 * f := by
  intro f
  induction f with
  | zero => intro pos b s h x hx; simp [Sc.scanF] at hx
  | succ f ih =>
    intro pos b s h x hx
    rw [Sc.scanF] at hx
    split at hx
    · split at hx
      · simp at hx
      · split at hx
        · have := ih _ _ _ (txt_read h _) x hx
          omega
        · simp at hx
    · split at hx
      · have := (txt_read h 10).2 x hx
        omega
      · simp at hx
theorem num_scan (l : List UInt8) : ∀ (f pos : Nat) (s : Sc.RS), (Sc.scanF l f pos s).1.length ≤ s.words.length + 2 * f := by
  intro f
  induction f with
  | zero => intro pos s; simp [Sc.scanF]
  | succ f ih =>
    intro pos s
    rw [Sc.scanF]
    split
    · split
      · simp
      split
      · have h1 := ih (pos + (Utf8.decode ⟨l.toArray⟩ pos).2) (Sc.readF s (Utf8.decode ⟨l.toArray⟩ pos).1).1
        obtain ⟨_, _, _, h2⟩ := Sc.read_facts s (Utf8.decode ⟨l.toArray⟩ pos).1
        omega
      · simp
    · split
      · obtain ⟨_, _, _, h2⟩ := Sc.read_facts s 10
        simp only
        omega
      · simp
theorem words_few (l : List UInt8) (hl : l.length ≤ 20000) : (Sc.wordsF l).1.length ≤ 100000 ∧ ∀ x ∈ (Sc.wordsF l).1, x.2.1.length ≤ 100000 := by
  unfold Sc.wordsF
  split
  · exact ⟨by simp, by simp⟩
  · have h1 := num_scan l (l.length + 1) 0 Sc.rs0
    have e : Sc.rs0.words.length = 0 := rfl
    refine ⟨by omega, fun x hx => ?_⟩
    have h2 := txt_scan l (l.length + 1) 0 0 Sc.rs0 ⟨Nat.le_refl _, fun x hx => by cases hx⟩ x hx
    omega
end Go.Proofs.YthbplchbolghjaaGreatDoor
