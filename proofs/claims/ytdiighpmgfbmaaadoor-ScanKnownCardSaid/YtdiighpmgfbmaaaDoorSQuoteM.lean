/- The program's Quote and the document's say the same of every text. Mathematics alone. -/
import Derived.Test.YtdiighpmgfbmaaaDoorSRefQt
namespace Go.Proofs.YtdiighpmgfbmaaaDoor
open Go.RowKit

theorem dec_drop (l : List UInt8) (a : Nat) : Lib.decodeL (l.drop a) = Utf8.decode ⟨l.toArray⟩ a := Lib.decodeL_drop ⟨l.toArray⟩ a

theorem esc_same (l : List UInt8) (pos : Nat) (hp : pos < l.length) (hv : ¬ ((Utf8.decode ⟨l.toArray⟩ pos).1 = 65533 ∧ (Utf8.decode ⟨l.toArray⟩ pos).2 = 1)) :
    escF1 (Utf8.decode ⟨l.toArray⟩ pos).1 = escR l pos (Utf8.decode ⟨l.toArray⟩ pos).2 (Utf8.decode ⟨l.toArray⟩ pos).1 := by
  have hne : l.drop pos ≠ [] := by
    intro h
    have := congrArg List.length h
    simp at this
    omega
  have he := Lib.encode_decode (l.drop pos) hne (by rw [dec_drop]; exact hv)
  rw [dec_drop] at he
  generalize Utf8.decode ⟨l.toArray⟩ pos = q at he ⊢
  obtain ⟨c, n⟩ := q
  simp only at he ⊢
  unfold escF1 escR
  by_cases h10 : c = 10
  · subst h10; rfl
  by_cases h34 : c = 34
  · subst h34; rfl
  by_cases h92 : c = 92
  · subst h92; rfl
  rw [if_neg h10, if_neg h34, if_neg h92, if_neg h34, if_neg h92, if_neg h10]
  exact he

theorem quo_good (l : List UInt8) : ∀ (f pos : Nat) (acc : List UInt8), pos ≤ l.length → l.length < pos + f → Lib.validD (l.drop pos) = true →
    rquF l f pos acc = (match quoF l f pos acc with | some t => (t, 0) | none => ([], 4)) := by
  intro f
  induction f with
  | zero => intro pos acc h1 h2; omega
  | succ f ih =>
    intro pos acc h1 h2 hv
    rw [rquF, quoF]
    by_cases hp : pos < l.length
    · rw [if_pos hp, if_pos hp]
      have hne : l.drop pos ≠ [] := by
        intro h
        have := congrArg List.length h
        simp at this
        omega
      have hst := Lib.validD_step (l.drop pos) hne
      rw [hv, dec_drop, List.drop_drop] at hst
      have hb : ¬ ((Utf8.decode ⟨l.toArray⟩ pos).1 = 65533 ∧ (Utf8.decode ⟨l.toArray⟩ pos).2 = 1) := by
        intro h
        rw [if_pos h] at hst
        cases hst
      rw [if_neg hb] at hst
      have hw := Lib.decode_width_pos ⟨l.toArray⟩ pos hp
      have hi := dec_in l pos hp
      rw [← esc_same l pos hp hb]
      by_cases hc : (Utf8.decode ⟨l.toArray⟩ pos).1 < 32 ∧ (Utf8.decode ⟨l.toArray⟩ pos).1 ≠ 10
      · rw [if_pos (Or.inr hc), if_pos hc]
      · rw [if_neg (by
          rintro (h | h)
          · exact hb ⟨h.1, by omega⟩
          · exact hc h), if_neg hc]
        exact ih _ _ hi (by omega) hst.symm
    · rw [if_neg hp, if_neg hp]

theorem quo_bad (l : List UInt8) : ∀ (f pos : Nat) (acc : List UInt8), pos ≤ l.length → Lib.validD (l.drop pos) = false → rquF l f pos acc = ([], 4) := by
  intro f
  induction f with
  | zero => intro pos acc _ _; rfl
  | succ f ih =>
    intro pos acc h1 hv
    rw [rquF]
    by_cases hp : pos < l.length
    · rw [if_pos hp]
      have hne : l.drop pos ≠ [] := by
        intro h
        have := congrArg List.length h
        simp at this
        omega
      have hst := Lib.validD_step (l.drop pos) hne
      rw [hv, dec_drop, List.drop_drop] at hst
      have hi := dec_in l pos hp
      by_cases hb : (Utf8.decode ⟨l.toArray⟩ pos).1 = 65533 ∧ (Utf8.decode ⟨l.toArray⟩ pos).2 = 1
      · rw [if_pos (Or.inl ⟨hb.1, by omega⟩)]
      · rw [if_neg hb] at hst
        split
        · rfl
        · exact ih _ _ hi hst.symm
    · have : l.drop pos = [] := List.drop_eq_nil_of_le (by omega)
      rw [this, Lib.validD_nil] at hv
      cases hv

/-- The same answer. -/
theorem quote_same (l : List UInt8) : quoteF l = rquF l (l.length + 1) 0 [34] := by
  unfold quoteF
  cases hv : Lib.validD l
  · rw [if_pos rfl]
    exact (quo_bad l _ 0 _ (by omega) hv).symm
  · rw [if_neg (by simp)]
    exact (quo_good l _ 0 _ (by omega) (by omega) hv).symm
end Go.Proofs.YtdiighpmgfbmaaaDoor
