/- What a step's error is, what stands behind a line's end, and that a text's beginning is read as in the whole. Mathematics alone. -/
import Derived.Test.YtdiighpmgfbmaaaDoorSWhereM
namespace Go.Proofs.YtdiighpmgfbmaaaDoor
open Go.RowKit

theorem bet_err (s : RS) (c : Nat) (h : (betF s c).2 ≠ 0) : (betF s c).2 = 4 ∧ c ≠ 10 := by
  unfold betF at h ⊢
  by_cases h10 : c = 10 ∨ blB c = true
  · rw [if_pos h10] at h
    exact absurd rfl h
  · rw [if_neg h10] at h ⊢
    refine ⟨?_, fun e => h10 (.inl e)⟩
    repeat' split at h
    all_goals first | exact absurd rfl h | simp_all
theorem go_err (s : RS) (c : Nat) (b : Bool) (h : (goF s c b).2 ≠ 0) : (goF s c b).2 = 4 ∧ c ≠ 10 := by
  unfold goF at h ⊢
  split
  · rename_i hb
    rw [if_pos hb] at h
    exact absurd rfl h
  · rename_i hb
    rw [if_neg hb] at h
    split
    · rename_i hc
      exact ⟨rfl, hc.2.2.2⟩
    · rename_i hc
      rw [if_neg hc] at h
      exact bet_err _ _ h
/-- A step's error is 3 just where a line ends. -/
theorem step_err (s : RS) (c : Nat) (h : (stepF s c).2 ≠ 0) : ((stepF s c).2 = 3 ∧ c = 10) ∨ ((stepF s c).2 = 4 ∧ c ≠ 10) := by
  unfold stepF at h ⊢
  cases hm : s.mode
  all_goals rw [hm] at h
  all_goals simp only at h ⊢
  · exact .inr (bet_err s c h)
  · exact .inr (go_err s c _ h)
  · exact .inr (go_err s c _ h)
  · unfold strF at h ⊢
    by_cases h10 : c = 10
    · rw [if_pos h10]; exact .inl ⟨rfl, h10⟩
    · rw [if_neg h10] at h ⊢
      right
      refine ⟨?_, h10⟩
      repeat' split at h
      all_goals first | exact absurd rfl h | simp_all
  · unfold escF at h ⊢
    by_cases h10 : c = 10
    · rw [if_pos h10]; exact .inl ⟨rfl, h10⟩
    · rw [if_neg h10] at h ⊢
      right
      refine ⟨?_, h10⟩
      repeat' split at h
      all_goals first | exact absurd rfl h | simp_all
  · unfold comF at h
    split at h
    all_goals exact absurd rfl h
/-- Behind a line's end it is between words. -/
theorem step_end (s : RS) (h : (stepF s 10).2 = 0) : (stepF s 10).1.mode = .btw := by
  unfold stepF at h ⊢
  cases hm : s.mode
  all_goals rw [hm] at h
  all_goals simp only at h ⊢
  · exact hm
  · rfl
  · rfl
  · exact absurd (show (3 : Int) = 0 from h) (by decide)
  · exact absurd (show (3 : Int) = 0 from h) (by decide)
  · rfl
theorem end_fine (s : RS) (h : s.mode = .btw) : readF s 10 = (advF s 10, 0) := by
  have e : stepF s 10 = (s, 0) := by
    unfold stepF
    rw [h]
    rfl
  unfold readF
  rw [e, if_pos rfl]

/-- A step over a text's beginning is the whole text's. -/
theorem step_cut (l : List UInt8) (m g pos : Nat) (s s1 : RS) (hp : pos < l.length) (hm : m ≤ l.length) (hn : pos + (Lib.decodeL (l.drop pos)).2 ≤ m)
    (hv : ¬ ((Lib.decodeL (l.drop pos)).1 = 65533 ∧ (Lib.decodeL (l.drop pos)).2 = 1)) (hr : stepF s (Lib.decodeL (l.drop pos)).1 = (s1, 0)) :
    scanF (l.take m) (g + 1) pos s = scanF (l.take m) g (pos + (Lib.decodeL (l.drop pos)).2) (advF s1 (Lib.decodeL (l.drop pos)).1) := by
  have hne : l.drop pos ≠ [] := by
    intro e
    have := congrArg List.length e
    simp at this
    omega
  have hw := Lib.decodeL_width (l.drop pos)
  have hpre := fun r => dec_pre (l.drop pos) r hne hv
  have hen := Lib.encode_decode (l.drop pos) hne hv
  generalize Lib.decodeL (l.drop pos) = d at *
  obtain ⟨c, n⟩ := d
  simp only at *
  have hcut : (l.take m).drop pos = (l.drop pos).take n ++ (l.take m).drop (pos + n) := by
    rw [List.drop_take, List.drop_take, ← List.drop_drop, ← List.take_append_drop n ((l.drop pos).take (m - pos)), List.take_take, List.drop_take, Nat.min_eq_left (by omega), Nat.sub_sub]
  refine scan_step (l.take m) g pos s s1 c n (by rw [List.length_take]; omega) (by rw [hcut]; exact hpre _) (fun e => ?_) hr
  unfold writB
  rw [hcut, ← hen, e]
  rfl
end Go.Proofs.YtdiighpmgfbmaaaDoor
