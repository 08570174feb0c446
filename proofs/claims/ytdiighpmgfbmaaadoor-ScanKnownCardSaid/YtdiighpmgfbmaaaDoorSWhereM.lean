/- A text whose words are told is UTF-8, and no place is told then. Mathematics alone. -/
import Derived.Test.YtdiighpmgfbmaaaDoorSBackM
namespace Go.Proofs.YtdiighpmgfbmaaaDoor
open Go.RowKit

theorem pre_fffd (u : List UInt8) (h : Lib.hasPrefix u fffd = true) : ∃ r, u = 239 :: 191 :: 189 :: r := by
  match u, h with
  | [], h => exact absurd h (by decide)
  | [a], h => exact absurd h (by simp [Lib.hasPrefix, fffd])
  | [a, b], h => exact absurd h (by simp [Lib.hasPrefix, fffd])
  | a :: b :: c :: r, h =>
    refine ⟨r, ?_⟩
    simp [Lib.hasPrefix, fffd] at h
    obtain ⟨rfl, rfl, rfl⟩ := h
    rfl
theorem dec_fffd (r : List UInt8) : Lib.decodeL (239 :: 191 :: 189 :: r) = (65533, 3) := by
  rw [Lib.decodeL_N]
  simp only [List.getD_cons_zero, List.getD_cons_succ, List.length_cons]
  unfold Lib.decodeN
  rw [if_neg (by decide), if_neg (by intro h; exact absurd h.1 (by decide)), if_pos ⟨by decide, ⟨by omega, by decide⟩, by omega, by decide⟩, if_pos (by decide)]
  decide

theorem scan_ok (l : List UInt8) : ∀ (f pos : Nat) (s : RS) (ws : List (Int × List UInt8 × Nat × Nat)) (x0 x1 : Nat), pos ≤ l.length → l.length < pos + f → scanF l f pos s = (ws, x0, x1, 0) → x0 = 0 ∧ x1 = 0 ∧ Lib.validD (l.drop pos) = true := by
  intro f
  induction f with
  | zero => intro pos s ws x0 x1 h1 h2; omega
  | succ f ih =>
    intro pos s ws x0 x1 h1 h2 h
    rw [scanF] at h
    by_cases hp : pos < l.length
    · rw [if_pos hp] at h
      have hne : l.drop pos ≠ [] := by
        intro e
        have := congrArg List.length e
        simp at this
        omega
      have hst := Lib.validD_step (l.drop pos) hne
      have hwd := Lib.decode_width_pos ⟨l.toArray⟩ pos hp
      have hi := dec_in l pos hp
      split at h
      · simp only [Prod.mk.injEq] at h
        exact absurd h.2.2.2 (by decide)
      rename_i hw
      split at h
      · obtain ⟨k0, k1, k2⟩ := ih _ _ _ _ _ hi (by omega) h
        refine ⟨k0, k1, ?_⟩
        rw [hst, dec_drop, if_neg ?_, List.drop_drop]
        · exact k2
        · rintro ⟨e1, e2⟩
          have hw2 : writB l pos = true := by
            cases hwb : writB l pos
            · exact absurd ⟨e1, hwb⟩ hw
            · rfl
          obtain ⟨r, hr⟩ := pre_fffd _ hw2
          have := dec_fffd r
          rw [← hr, dec_drop] at this
          rw [this] at e2
          exact absurd e2 (by decide)
      · rename_i hr
        simp only [Prod.mk.injEq] at h
        exact absurd h.2.2.2 hr
    · rw [if_neg hp] at h
      have e : l.drop pos = [] := List.drop_eq_nil_of_le (by omega)
      split at h
      · simp only [Prod.mk.injEq] at h
        exact ⟨h.2.1.symm, h.2.2.1.symm, by rw [e]; rfl⟩
      · rename_i hr
        simp only [Prod.mk.injEq] at h
        exact absurd h.2.2.2 hr
end Go.Proofs.YtdiighpmgfbmaaaDoor
