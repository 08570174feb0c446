/- Words' lines rise; two lists that are the same; how many words stand in a line: contracts. -/
import Derived.Test.YtdiighpmgfbmaaaDoorSLine
import Derived.Test.YtdiighpmgfbmaaaDoorBring
namespace Go.Proofs.YtdiighpmgfbmaaaDoor
open Go.RowKit

/-- The words' lines rise, up to the word at hand. -/
def Based (s : RS) : Prop := s.words.Pairwise (fun x y => x.2.2.1 ≤ y.2.2.1) ∧ ∀ x ∈ s.words, x.2.2.1 ≤ s.line
def Rise (s : RS) : Prop := Based s ∧ (s.mode ≠ .btw → s.mode ≠ .com → (∀ x ∈ s.words, x.2.2.1 ≤ s.wl) ∧ s.wl ≤ s.line)
theorem rise_begin (s : RS) (k : Int) (m : Mode) (h : Based s) : Rise (beginF s k m) := ⟨h, fun _ _ => ⟨h.2, Nat.le_refl _⟩⟩
theorem rise_add (s : RS) (c : Int) (h : Rise s) : Rise (addF s c) := h
theorem rise_mode (s : RS) (m : Mode) (h : Rise s) (h1 : s.mode ≠ .btw) (h2 : s.mode ≠ .com) : Rise { s with mode := m } := ⟨h.1, fun _ _ => h.2 h1 h2⟩
theorem based_end (s : RS) (h : Based s) (h1 : ∀ x ∈ s.words, x.2.2.1 ≤ s.wl) (h2 : s.wl ≤ s.line) : Based (endF s) := by
  refine ⟨List.pairwise_append.2 ⟨h.1, List.pairwise_singleton _ _, fun x hx y hy => ?_⟩, fun x hx => ?_⟩
  · simp only [List.mem_singleton] at hy
    subst hy
    exact h1 x hx
  · rcases List.mem_append.1 hx with hx | hx
    · exact h.2 x hx
    · simp only [List.mem_singleton] at hx
      subst hx
      exact h2
theorem rise_btw (s : RS) (h : Based s) (hm : s.mode = .btw) : Rise s := ⟨h, fun k => absurd hm k⟩
theorem rise_end (s : RS) (h : Rise s) (h1 : s.mode ≠ .btw) (h2 : s.mode ≠ .com) : Rise (endF s) := rise_btw _ (based_end s h.1 (h.2 h1 h2).1 (h.2 h1 h2).2) rfl
theorem rise_bet (s : RS) (c : Nat) (h : Based s) (hm : s.mode = .btw) : Rise (betF s c).1 := by
  unfold betF
  split
  · exact rise_btw s h hm
  split
  · exact ⟨h, fun _ k => absurd rfl k⟩
  split
  · exact rise_begin s _ _ h
  split
  · exact rise_btw _ (based_end _ h h.2 (Nat.le_refl _)) rfl
  split
  · exact rise_add _ _ (rise_begin s _ _ h)
  split
  · exact rise_add _ _ (rise_begin s _ _ h)
  · exact rise_btw s h hm
theorem rise_go (s : RS) (c : Nat) (b : Bool) (h : Rise s) (h1 : s.mode ≠ .btw) (h2 : s.mode ≠ .com) : Rise (goF s c b).1 := by
  unfold goF
  split
  · exact rise_add s _ h
  split
  · exact h
  · exact rise_bet _ c (rise_end s h h1 h2).1 rfl
theorem rise_step (s : RS) (c : Nat) (h : Rise s) : Rise (stepF s c).1 := by
  unfold stepF
  cases hm : s.mode
  all_goals simp only
  · exact rise_bet s c h.1 hm
  · exact rise_go s c _ h (by rw [hm]; intro k; cases k) (by rw [hm]; intro k; cases k)
  · exact rise_go s c _ h (by rw [hm]; intro k; cases k) (by rw [hm]; intro k; cases k)
  · unfold strF
    split
    · exact h
    split
    · exact h
    split
    · exact rise_end s h (by rw [hm]; intro k; cases k) (by rw [hm]; intro k; cases k)
    split
    · exact rise_mode s _ h (by rw [hm]; intro k; cases k) (by rw [hm]; intro k; cases k)
    · exact rise_add s _ h
  · unfold escF
    split
    · exact h
    split
    · exact rise_mode _ _ (rise_add s _ h) (by show s.mode ≠ _; rw [hm]; intro k; cases k) (by show s.mode ≠ _; rw [hm]; intro k; cases k)
    split
    · exact rise_mode _ _ (rise_add s _ h) (by show s.mode ≠ _; rw [hm]; intro k; cases k) (by show s.mode ≠ _; rw [hm]; intro k; cases k)
    · exact h
  · unfold comF
    split
    · exact rise_btw _ h.1 rfl
    · exact h
theorem rise_adv (s : RS) (c : Nat) (h : Rise s) : Rise (advF s c) := by
  have hl : s.line ≤ (advF s c).line := by
    show s.line ≤ (if c = 10 then s.line + 1 else s.line)
    split <;> omega
  exact ⟨⟨h.1.1, fun x hx => Nat.le_trans (h.1.2 x hx) hl⟩, fun h1 h2 => ⟨(h.2 h1 h2).1, Nat.le_trans (h.2 h1 h2).2 hl⟩⟩
theorem rise_read (s : RS) (c : Nat) (h : Rise s) : Rise (readF s c).1 := by
  unfold readF
  split
  · exact rise_adv _ c (rise_step s c h)
  · exact rise_step s c h
theorem rise_scan (l : List UInt8) : ∀ (f pos : Nat) (s : RS), Rise s → (scanF l f pos s).1.Pairwise (fun x y => x.2.2.1 ≤ y.2.2.1) := by
  intro f
  induction f with
  | zero => intro pos s h; exact List.Pairwise.nil
  | succ f ih =>
    intro pos s h
    rw [scanF]
    split
    · split
      · exact List.Pairwise.nil
      split
      · exact ih _ _ (rise_read s _ h)
      · exact List.Pairwise.nil
    · split
      · exact (rise_read s 10 h).1.1
      · exact List.Pairwise.nil
theorem words_rise (l : List UInt8) : (wordsF l).1.Pairwise (fun x y => x.2.2.1 ≤ y.2.2.1) := by
  unfold wordsF
  split
  · exact List.Pairwise.nil
  · exact rise_scan l _ _ _ ⟨⟨List.Pairwise.nil, fun x hx => by cases hx⟩, fun h => absurd rfl h⟩

/-- How many of these come first. -/
theorem tw_at {α : Type} (p : α → Bool) : ∀ (u : List α) (k : Nat), (k < (u.takeWhile p).length → ∃ y, u[k]? = some y ∧ p y = true) ∧ (k = (u.takeWhile p).length → u[k]? = none ∨ ∃ y, u[k]? = some y ∧ p y = false) := by
  intro u
  induction u with
  | nil => intro k; exact ⟨fun h => by simp at h, fun _ => .inl (by simp)⟩
  | cons a t ih =>
    intro k
    cases hp : p a
    · rw [List.takeWhile_cons_of_neg (by simp [hp])]
      refine ⟨fun h => by simp at h, ?_⟩
      rintro rfl
      exact .inr ⟨a, rfl, hp⟩
    · rw [List.takeWhile_cons_of_pos hp]
      cases k with
      | zero => exact ⟨fun _ => ⟨a, rfl, hp⟩, fun h => by simp at h⟩
      | succ k =>
        obtain ⟨i1, i2⟩ := ih k
        exact ⟨fun h => i1 (by simpa using h), fun h => i2 (by simpa using h)⟩
theorem filter_tw (a : Nat) : ∀ (u : List W4), u.Pairwise (fun x y => x.2.2.1 ≤ y.2.2.1) → (∀ x ∈ u, a ≤ x.2.2.1) → u.filter (lineB a) = u.takeWhile (lineB a) := by
  intro u
  induction u with
  | nil => intro _ _; rfl
  | cons x t ih =>
    intro hp hx
    obtain ⟨h1, h2⟩ := List.pairwise_cons.1 hp
    cases hl : lineB a x
    · rw [List.takeWhile_cons_of_neg (by simp [hl]), List.filter_cons_of_neg (by simp [hl])]
      rw [List.filter_eq_nil_iff]
      intro y hy
      have e1 := hx x (by simp)
      have e2 := h1 y hy
      have e3 : x.2.2.1 ≠ a := by simpa [lineB] using hl
      simp [lineB]
      omega
    · rw [List.takeWhile_cons_of_pos hl, List.filter_cons_of_pos hl, ih h2 (fun y hy => hx y (by simp [hy]))]
theorem line_tw (l : List W4) (h : l.Pairwise (fun x y => x.2.2.1 ≤ y.2.2.1)) (fr : Nat) (x : W4) (hx : l[fr]? = some x) : lineF l fr = ((l.drop fr).takeWhile (lineB x.2.2.1)).length := by
  unfold lineF
  rw [hx]
  simp only
  have hp := h.drop (i := fr)
  rw [filter_tw _ _ hp]
  intro y hy
  obtain ⟨hf, he⟩ := List.getElem?_eq_some_iff.1 hx
  rw [List.drop_eq_getElem_cons hf] at hp hy
  rcases List.mem_cons.1 hy with hy | hy
  · rw [hy, he]
    exact Nat.le_refl _
  · have := (List.pairwise_cons.1 hp).1 y hy
    rw [he] at this
    exact this
end Go.Proofs.YtdiighpmgfbmaaaDoor
