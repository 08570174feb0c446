/- What is read from a place on: one rune, in the words of the document's reader. Mathematics alone. -/
import Derived.Test.YtdiighpmgfbmaaaDoorSWhereM
namespace Go.Proofs.YtdiighpmgfbmaaaDoor
open Go.RowKit

theorem scan_fuel (l : List UInt8) : ∀ (f g pos : Nat) (s : RS), pos ≤ l.length → l.length < pos + f → l.length < pos + g → scanF l f pos s = scanF l g pos s := by
  intro f
  induction f with
  | zero => intro g pos s h1 h2; omega
  | succ f ih =>
    intro g pos s h1 h2 h3
    obtain ⟨g, rfl⟩ : ∃ k, g = k + 1 := ⟨g - 1, by omega⟩
    rw [scanF, scanF]
    by_cases hp : pos < l.length
    · have hw := Lib.decode_width_pos ⟨l.toArray⟩ pos hp
      have hi := dec_in l pos hp
      rw [ih g _ _ hi (by omega) (by omega)]
    · rw [if_neg hp, if_neg hp]

/-- What is read from a place on. -/
def road (l : List UInt8) (pos : Nat) (s : RS) : Res := scanF l (l.length + 1 - pos) pos s
theorem words_road (l : List UInt8) (h : l.length ≤ 65536) : wordsF l = road l 0 rs0 := by
  unfold wordsF road
  rw [if_neg (by omega)]
  rfl

theorem writ_iff (l : List UInt8) (pos : Nat) (hp : pos < l.length) (hc : (Utf8.decode ⟨l.toArray⟩ pos).1 = 65533) : writB l pos = decide (1 < (Utf8.decode ⟨l.toArray⟩ pos).2) := by
  have hdd := dec_drop l pos
  have hne : l.drop pos ≠ [] := by
    intro e
    have := congrArg List.length e
    simp at this
    omega
  cases hw : writB l pos
  · symm
    rw [decide_eq_false_iff_not]
    intro hn
    have hv : ¬ ((Lib.decodeL (l.drop pos)).1 = 65533 ∧ (Lib.decodeL (l.drop pos)).2 = 1) := by
      rw [hdd]
      rintro ⟨_, h⟩
      omega
    have hen := Lib.encode_decode (l.drop pos) hne hv
    rw [hdd, hc] at hen
    have : writB l pos = true := by
      unfold writB
      rw [← List.take_append_drop (Utf8.decode ⟨l.toArray⟩ pos).2 (l.drop pos), ← hen]
      rfl
    rw [hw] at this
    cases this
  · symm
    rw [decide_eq_true_eq]
    obtain ⟨r, hr⟩ := pre_fffd _ hw
    have := dec_fffd r
    rw [← hr, hdd] at this
    rw [this]
    decide

theorem rune_at (l : List UInt8) (pos : Nat) (hp : pos < l.length) : runeF l pos = (((Utf8.decode ⟨l.toArray⟩ pos).1 : Int), !decide ((Utf8.decode ⟨l.toArray⟩ pos).1 = 65533) || decide (1 < (Utf8.decode ⟨l.toArray⟩ pos).2)) := by
  unfold runeF
  rw [if_pos hp]
theorem rune_end (l : List UInt8) (pos : Nat) (hp : ¬ pos < l.length) : runeF l pos = (-1, true) := by
  unfold runeF
  rw [if_neg hp]

theorem road_step (l : List UInt8) (pos c n : Nat) (s s1 : RS) (hp : pos < l.length) (hd : Utf8.decode ⟨l.toArray⟩ pos = (c, n)) (hb : (runeF l pos).2 = true) (hr : stepF s c = (s1, 0)) : road l pos s = road l (pos + n) (advF s1 c) := by
  have hw := Lib.decode_width_pos ⟨l.toArray⟩ pos hp
  have hi := dec_in l pos hp
  have hwr := writ_iff l pos hp
  rw [rune_at l pos hp] at hb
  rw [hd] at hw hi hb hwr
  simp only at hw hi hb hwr
  have h1 : readF s c = (advF s1 c, 0) := by
    unfold readF
    rw [hr, if_pos rfl]
  unfold road
  obtain ⟨g, hg⟩ : ∃ k, l.length + 1 - pos = k + 1 := ⟨l.length - pos, by omega⟩
  rw [hg, scanF, if_pos hp, hd]
  simp only
  rw [if_neg (by
    rintro ⟨h, k⟩
    rw [hwr h] at k
    subst h
    simp at hb k
    omega), h1, if_pos rfl]
  exact scan_fuel l _ _ _ _ hi (by omega) (by omega)
theorem road_bad (l : List UInt8) (pos : Nat) (s : RS) (hp : pos < l.length) (hb : (runeF l pos).2 = false) : road l pos s = ([], s.line, s.col, 4) := by
  have hwr := writ_iff l pos hp
  rw [rune_at l pos hp] at hb
  simp only [Bool.or_eq_false_iff, Bool.not_eq_false', decide_eq_true_eq] at hb
  unfold road
  obtain ⟨g, hg⟩ : ∃ k, l.length + 1 - pos = k + 1 := ⟨l.length - pos, by omega⟩
  rw [hg, scanF, if_pos hp, if_pos ⟨hb.1, by rw [hwr hb.1]; exact hb.2⟩]
theorem road_err (l : List UInt8) (pos c n : Nat) (s : RS) (e : Int) (hp : pos < l.length) (hd : Utf8.decode ⟨l.toArray⟩ pos = (c, n)) (hb : (runeF l pos).2 = true) (hr : (stepF s c).2 = e) (he : e ≠ 0) : road l pos s = ([], s.line, s.col, e) := by
  have hwr := writ_iff l pos hp
  rw [rune_at l pos hp] at hb
  rw [hd] at hb hwr
  simp only at hb hwr
  obtain ⟨f1, f2, _, _⟩ := step_facts s c
  have h1 : readF s c = stepF s c := by
    unfold readF
    rw [if_neg (by rw [hr]; exact he)]
  unfold road
  obtain ⟨g, hg⟩ : ∃ k, l.length + 1 - pos = k + 1 := ⟨l.length - pos, by omega⟩
  rw [hg, scanF, if_pos hp, hd]
  simp only
  rw [if_neg (by
    rintro ⟨h, k⟩
    rw [hwr h] at k
    subst h
    simp at hb k
    omega), h1, if_neg (by rw [hr]; exact he), f1, f2, hr]
theorem road_fin (l : List UInt8) (pos : Nat) (s s1 : RS) (hp : ¬ pos < l.length) (hi : pos ≤ l.length) (hr : stepF s 10 = (s1, 0)) : road l pos s = (s1.words, 0, 0, 0) := by
  have h1 : readF s 10 = (advF s1 10, 0) := by
    unfold readF
    rw [hr, if_pos rfl]
  unfold road
  obtain ⟨g, hg⟩ : ∃ k, l.length + 1 - pos = k + 1 := ⟨l.length - pos, by omega⟩
  rw [hg, scanF, if_neg hp, h1, if_pos rfl]
  rfl
theorem road_out (l : List UInt8) (pos : Nat) (s : RS) (e : Int) (hp : ¬ pos < l.length) (hi : pos ≤ l.length) (hr : (stepF s 10).2 = e) (he : e ≠ 0) : road l pos s = ([], s.line, s.col, e) := by
  obtain ⟨f1, f2, _, _⟩ := step_facts s 10
  have h1 : readF s 10 = stepF s 10 := by
    unfold readF
    rw [if_neg (by rw [hr]; exact he)]
  unfold road
  obtain ⟨g, hg⟩ : ∃ k, l.length + 1 - pos = k + 1 := ⟨l.length - pos, by omega⟩
  rw [hg, scanF, if_neg hp, h1, if_neg (by rw [hr]; exact he), f1, f2, hr]

/-- The rune that is read at a place; at the end: a line's end. -/
def nextC (l : List UInt8) (pos : Nat) : Nat := if pos < l.length then (Utf8.decode ⟨l.toArray⟩ pos).1 else 10
/-- Two that make the same step of it go the same way. -/
theorem road_swap (l : List UInt8) (pos : Nat) (s t : RS) (h : stepF s (nextC l pos) = stepF t (nextC l pos)) (h1 : s.line = t.line) (h2 : s.col = t.col) : road l pos s = road l pos t := by
  unfold nextC at h
  have hr : readF s (nextC l pos) = readF t (nextC l pos) := by
    unfold readF nextC
    rw [h]
  unfold nextC at hr
  unfold road
  rcases hg : l.length + 1 - pos with _ | g
  · rfl
  rw [scanF, scanF, h1, h2]
  by_cases hp : pos < l.length
  · rw [if_pos hp] at hr
    rw [if_pos hp, if_pos hp, hr]
  · rw [if_neg hp] at hr
    rw [if_neg hp, if_neg hp, hr]
end Go.Proofs.YtdiighpmgfbmaaaDoor
