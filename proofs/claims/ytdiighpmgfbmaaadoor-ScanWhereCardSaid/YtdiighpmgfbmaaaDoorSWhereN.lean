/- Where an error stands: in a line of the text that words stand ahead of. Mathematics alone. -/
import Derived.Test.YtdiighpmgfbmaaaDoorSWhereS
namespace Go.Proofs.YtdiighpmgfbmaaaDoor
open Go.RowKit

/-- How many runes. -/
def rnF : Nat → List UInt8 → Nat
  | 0, _ => 0
  | f + 1, u => if u = [] then 0 else 1 + rnF f (u.drop (Lib.decodeL u).2)
def rn (u : List UInt8) : Nat := rnF u.length u
theorem rnF_same : ∀ (f g : Nat) (u : List UInt8), u.length ≤ f → u.length ≤ g → rnF f u = rnF g u := by
  intro f
  induction f with
  | zero =>
    intro g u h1 h2
    obtain rfl := List.length_eq_zero_iff.1 (Nat.le_zero.1 h1)
    cases g <;> simp [rnF]
  | succ f ih =>
    intro g u h1 h2
    by_cases hu : u = []
    · subst hu
      cases g <;> simp [rnF]
    · have hw := Lib.decodeL_width u
      have hp : 0 < u.length := List.length_pos_iff.2 hu
      obtain ⟨g, rfl⟩ : ∃ k, g = k + 1 := ⟨g - 1, by omega⟩
      rw [rnF, rnF, if_neg hu, if_neg hu, ih g _ (by rw [List.length_drop]; omega) (by rw [List.length_drop]; omega)]
theorem rn_nil : rn [] = 0 := rfl
theorem rn_step (u : List UInt8) (hu : u ≠ []) : rn u = 1 + rn (u.drop (Lib.decodeL u).2) := by
  have hw := Lib.decodeL_width u
  have hp : 0 < u.length := List.length_pos_iff.2 hu
  unfold rn
  obtain ⟨g, hg⟩ : ∃ k, u.length = k + 1 := ⟨u.length - 1, by omega⟩
  rw [hg, rnF, if_neg hu, rnF_same g (u.drop (Lib.decodeL u).2).length _ (by rw [List.length_drop]; omega) (Nat.le_refl _)]
theorem rn_pos (u : List UInt8) (hu : u ≠ []) : 1 ≤ rn u := by
  rw [rn_step u hu]
  omega
theorem rn_from (l : List UInt8) : ∀ (f pos : Nat), Lib.runeCountFrom ⟨l.toArray⟩ f pos = rnF f (l.drop pos) := by
  intro f
  induction f with
  | zero => intro pos; rfl
  | succ f ih =>
    intro pos
    rw [Lib.runeCountFrom, rnF, dec_drop, ih, List.drop_drop]
    by_cases h : pos < l.length
    · rw [if_pos (show pos < (⟨l.toArray⟩ : ByteArray).size from h), if_neg (by
        intro e
        have := congrArg List.length e
        simp at this
        omega)]
    · rw [if_neg (show ¬ pos < (⟨l.toArray⟩ : ByteArray).size from h), if_pos (List.drop_eq_nil_of_le (by omega))]
theorem rn_count (l : List UInt8) : Lib.runeCount ⟨l.toArray⟩ = rn l := rn_from l l.length 0

def cnt (u : List UInt8) : Nat := u.countP (fun b => b == 10)

/-- No line's end among these. -/
def NoEnd (l : List UInt8) (a b : Nat) : Prop := ∀ k x, a ≤ k → k < b → l[k]? = some x → x ≠ 10
theorem NoEnd.cnt {l : List UInt8} {a b : Nat} (h : NoEnd l a b) (hab : a ≤ b) : cnt (l.take b) = cnt (l.take a) := by
  have e : l.take b = l.take a ++ (l.take b).drop a := by
    have h1 := List.take_append_drop a (l.take b)
    rw [List.take_take, Nat.min_eq_left hab] at h1
    exact h1.symm
  unfold Proofs.YtdiighpmgfbmaaaDoor.cnt
  rw [e, List.countP_append]
  have : List.countP (fun b => b == (10 : UInt8)) ((l.take b).drop a) = 0 := by
    rw [List.countP_eq_zero]
    intro x hx
    obtain ⟨k, hk, e⟩ := List.mem_iff_getElem.1 hx
    have h1 : ((l.take b).drop a)[k]? = some x := by rw [List.getElem?_eq_getElem hk, e]
    rw [List.getElem?_drop, List.getElem?_take] at h1
    split at h1
    · have := h (a + k) x (by omega) (by assumption) h1
      simpa using this
    · cases h1
  rw [this]
  omega

/-- A line's end at or behind a place. -/
theorem line_end (l : List UInt8) : ∀ (n pos : Nat), pos + n = l.length → ∃ en, pos ≤ en ∧ en ≤ l.length ∧ NoEnd l pos en ∧ (en = l.length ∨ l[en]? = some 10) := by
  intro n
  induction n with
  | zero => intro pos h; exact ⟨pos, Nat.le_refl _, by omega, fun k x h1 h2 => by omega, .inl (by omega)⟩
  | succ n ih =>
    intro pos h
    have hp : pos < l.length := by omega
    by_cases h10 : l[pos] = 10
    · exact ⟨pos, Nat.le_refl _, by omega, fun k x h1 h2 => by omega, .inr (by rw [List.getElem?_eq_getElem hp, h10])⟩
    · obtain ⟨en, e1, e2, e3, e4⟩ := ih (pos + 1) (by omega)
      refine ⟨en, by omega, e2, fun k x h1 h2 hx => ?_, e4⟩
      by_cases hk : k = pos
      · subst hk
        rw [List.getElem?_eq_getElem hp] at hx
        cases hx
        exact h10
      · exact e3 k x (by omega) h2 hx

/-- How the reading stands at a place: the line begins at beg. -/
structure Way (l : List UInt8) (beg pos : Nat) (s : RS) : Prop where
  le : beg ≤ pos
  here : pos ≤ l.length
  line : s.line = 1 + cnt (l.take beg)
  first : beg = 0 ∨ l[beg - 1]? = some 10
  none : NoEnd l beg pos
  col1 : 1 ≤ s.col
  cols : ∀ m, pos ≤ m → m ≤ l.length → rn ((l.take m).drop beg) + 1 = s.col + rn ((l.take m).drop pos)
  fine : (wordsF (l.take beg)).2.2.2 = 0
  road : ∀ m, pos ≤ m → m ≤ l.length → ∃ g, m < pos + g ∧ scanF (l.take m) (m + 1) 0 rs0 = scanF (l.take m) g pos s

/-- What is told of an error. -/
def Told (l : List UInt8) (x y : Nat) (e : Int) : Prop :=
  ∃ beg en, beg ≤ en ∧ en ≤ l.length ∧ x = 1 + cnt (l.take beg) ∧ (beg = 0 ∨ l[beg - 1]? = some 10) ∧ NoEnd l beg en ∧ (en = l.length ∨ l[en]? = some 10) ∧ (wordsF (l.take beg)).2.2.2 = 0 ∧ 1 ≤ y ∧
    (e = 3 ∧ y = rn ((l.take en).drop beg) + 1 ∨ e = 4 ∧ y ≤ rn ((l.take en).drop beg))

theorem Way.atEnd {l : List UInt8} {beg pos : Nat} {s : RS} (h : Way l beg pos s) (he : pos = l.length ∨ l[pos]? = some 10) : Told l s.line s.col 3 := by
  refine ⟨beg, pos, h.le, h.here, h.line, h.first, h.none, he, h.fine, h.col1, .inl ⟨rfl, ?_⟩⟩
  have := h.cols pos (Nat.le_refl _) h.here
  rw [show (l.take pos).drop pos = [] from List.drop_eq_nil_of_le (by rw [List.length_take]; omega), rn_nil] at this
  omega
theorem Way.atRune {l : List UInt8} {beg pos : Nat} {s : RS} (h : Way l beg pos s) (hp : pos < l.length) (hn : l[pos] ≠ 10) : Told l s.line s.col 4 := by
  obtain ⟨en, e1, e2, e3, e4⟩ := line_end l (l.length - pos) pos (by omega)
  have hlt : pos < en := by
    rcases e4 with e4 | e4
    · omega
    · by_cases hpe : pos = en
      · subst hpe
        rw [List.getElem?_eq_getElem hp] at e4
        exact absurd (Option.some.inj e4) hn
      · omega
  refine ⟨beg, en, by have := h.le; omega, e2, h.line, h.first, ?_, e4, h.fine, h.col1, .inr ⟨rfl, ?_⟩⟩
  · intro k x h1 h2 hx
    by_cases hk : k < pos
    · exact h.none k x h1 hk hx
    · exact e3 k x (by omega) h2 hx
  · have := h.cols en (by omega) e2
    have h1 : (l.take en).drop pos ≠ [] := by
      intro e
      have := congrArg List.length e
      rw [List.length_drop, List.length_take, List.length_nil] at this
      omega
    have := rn_pos _ h1
    omega
end Go.Proofs.YtdiighpmgfbmaaaDoor
