/- What Words reads of what Quote makes: the whole; and when Quote makes nothing. Mathematics alone. -/
import Derived.Test.YtdakkjfhmidkeaaDoorSBackM
namespace Go.Proofs.YtdakkjfhmidkeaaDoor
open Go.RowKit

theorem quo_long (l : List UInt8) : ∀ (f pos : Nat) (acc t : List UInt8), pos ≤ l.length → quoF l f pos acc = some t → t.length ≤ acc.length + 4 * (l.length - pos) + 1 := by
  intro f
  induction f with
  | zero => intro pos acc t _ h; cases h
  | succ f ih =>
    intro pos acc t h1 h
    rw [quoF] at h
    split at h
    · rename_i hp
      have hwd := Lib.decode_width_pos ⟨l.toArray⟩ pos hp
      have hi := dec_in l pos hp
      have he := esc_len (Utf8.decode ⟨l.toArray⟩ pos).1
      split at h
      · cases h
      · have := ih _ _ _ hi h
        rw [List.length_append] at this
        omega
    · cases h
      simp

theorem back_words (l t : List UInt8) (hl : l.length ≤ 400) (hv : Lib.validD l = true) (h : quoF l (l.length + 1) 0 [34] = some t) : ∃ k : Nat, wordsF (32 :: (t ++ [59])) = ([(3, l, 1, 2), (4, [59], 1, k)], 0, 0, 0) := by
  have hlen := quo_long l _ 0 _ t (by omega) h
  obtain ⟨q, rfl⟩ := quo_acc _ _ _ _ _ h
  simp only [List.cons_append, List.nil_append, List.length_cons, List.length_nil] at hlen ⊢
  obtain ⟨T, hT⟩ : ∃ T : List UInt8, 32 :: 34 :: (q ++ [59]) = T := ⟨_, rfl⟩
  have hTl : T.length = q.length + 3 := by rw [← hT]; simp
  rw [hT]
  unfold wordsF
  rw [if_neg (by omega), hTl]
  have d0 : Lib.decodeL (T.drop 0) = (32, 1) := by
    rw [← hT]
    exact Lib.decodeL_ascii 32 _ (by decide)
  have d1 : Lib.decodeL (T.drop 1) = (34, 1) := by
    rw [← hT]
    exact Lib.decodeL_ascii 34 _ (by decide)
  have e0 : stepF rs0 32 = (rs0, 0) := by rfl
  have e1 : stepF (advF rs0 32) 34 = (beginF (advF rs0 32) 3 .str, 0) := by rfl
  rw [scan_step T (q.length + 3) 0 rs0 _ 32 1 (by omega) d0 (by intro e; cases e) e0, scan_step T (q.length + 2) (0 + 1) _ _ 34 1 (by omega) d1 (by intro e; cases e) e1]
  obtain ⟨s', g', k1, k2, k3, k4, k5⟩ := back_go l T [59] (l.length + 1) 0 [34] q 2 (q.length + 2) (advF (beginF (advF rs0 32) 3 .str) 34) (by omega) hv h (by rw [← hT]; rfl) rfl rfl (by omega)
  rw [show 0 + 1 + 1 = 2 from rfl, k1]
  obtain ⟨g, rfl⟩ : ∃ k, g' = k + 2 := ⟨g' - 2, by omega⟩
  have d2 : Lib.decodeL (T.drop (2 + q.length)) = (59, 1) := by
    have := drop_add T q [59] 2 (by rw [← hT]; rfl)
    rw [this]
    exact Lib.decodeL_ascii 59 _ (by decide)
  have e2 : stepF s' 59 = (endF (addF (beginF s' 4 .btw) 59), 0) := by
    unfold stepF
    rw [k3]
    rfl
  rw [scan_step T (g + 1) (2 + q.length) s' _ 59 1 (by omega) d2 (by intro e; cases e) e2, scanF, if_neg (by omega)]
  have e3 : readF (advF (endF (addF (beginF s' 4 .btw) 59)) 59) 10 = (advF (advF (endF (addF (beginF s' 4 .btw) 59)) 59) 10, 0) := by rfl
  rw [e3, if_pos rfl]
  refine ⟨s'.col, ?_⟩
  show (s'.words ++ [(4, [] ++ Lib.encodeRune 59, s'.line, s'.col)], 0, 0, 0) = _
  rw [k5, k4]
  rfl

/-- When Quote makes nothing of a text of UTF-8. -/
theorem quo_none (l : List UInt8) : ∀ (f pos : Nat) (acc : List UInt8), pos ≤ l.length → l.length < pos + f → Lib.validD (l.drop pos) = true →
    (quoF l f pos acc = none ↔ ∃ b ∈ l.drop pos, b.toNat < 32 ∧ b.toNat ≠ 10) := by
  intro f
  induction f with
  | zero => intro pos acc h1 h2; omega
  | succ f ih =>
    intro pos acc h1 h2 hv
    rw [quoF]
    by_cases hp : pos < l.length
    · rw [if_pos hp]
      have hne : l.drop pos ≠ [] := by
        intro h
        have := congrArg List.length h
        simp at this
        omega
      have hst := Lib.validD_step (l.drop pos) hne
      rw [hv] at hst
      have hb : ¬ ((Lib.decodeL (l.drop pos)).1 = 65533 ∧ (Lib.decodeL (l.drop pos)).2 = 1) := by
        intro h
        rw [if_pos h] at hst
        cases hst
      rw [if_neg hb, List.drop_drop] at hst
      have hsb := small_byte (l.drop pos) hne hb
      have hsr := small_rune (l.drop pos) hne hb
      have hw := Lib.decode_width_pos ⟨l.toArray⟩ pos hp
      have hi := dec_in l pos hp
      rw [dec_drop] at hst hsb hsr
      have hcut : l.drop pos = (l.drop pos).take (Utf8.decode ⟨l.toArray⟩ pos).2 ++ l.drop (pos + (Utf8.decode ⟨l.toArray⟩ pos).2) := by
        rw [← List.drop_drop, List.take_append_drop]
      generalize Utf8.decode ⟨l.toArray⟩ pos = d at hst hsb hsr hw hi hcut ⊢
      obtain ⟨c, n⟩ := d
      simp only at hst hsb hsr hw hi hcut ⊢
      by_cases hc : c < 32 ∧ c ≠ 10
      · rw [if_pos hc]
        obtain ⟨b, t, e, eb⟩ := hsr (by omega)
        exact ⟨fun _ => ⟨b, by rw [e]; simp, by omega⟩, fun _ => rfl⟩
      · rw [if_neg hc, ih _ _ hi (by omega) hst.symm]
        constructor
        · rintro ⟨b, h, k⟩
          exact ⟨b, by rw [hcut]; exact List.mem_append_right _ h, k⟩
        · rintro ⟨b, h, k⟩
          rw [hcut] at h
          rcases List.mem_append.1 h with h | h
          · have := hsb b h (by omega)
            exact absurd (by omega) hc
          · exact ⟨b, h, k⟩
    · rw [if_neg hp]
      have : l.drop pos = [] := List.drop_eq_nil_of_le (by omega)
      rw [this]
      simp
end Go.Proofs.YtdakkjfhmidkeaaDoor
