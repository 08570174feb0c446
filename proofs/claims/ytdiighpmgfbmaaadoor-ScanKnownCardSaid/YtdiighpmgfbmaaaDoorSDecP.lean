/- A rune reads the same whatever stands behind it. Mathematics alone. -/
import Derived.Lib.MapLaws
import Derived.Lib.TrimUEq
namespace Go.Proofs.YtdiighpmgfbmaaaDoor
open Go

theorem dec_pre (u r : List UInt8) (hne : u ≠ []) (hv : ¬ ((Lib.decodeL u).1 = 65533 ∧ (Lib.decodeL u).2 = 1)) : Lib.decodeL (u.take (Lib.decodeL u).2 ++ r) = Lib.decodeL u := by
  have hl : 0 < u.length := List.length_pos_iff.2 hne
  rw [Lib.decodeL_N u] at hv ⊢
  rcases Lib.decodeN_shape u.length (u.getD 0 0).toNat (u.getD 1 0).toNat (u.getD 2 0).toNat (u.getD 3 0).toNat with ⟨c, e⟩ | ⟨c1, c2, c3, cv, e⟩ | ⟨c1, c2, c3, c4, cv, cs, e⟩ | ⟨c1, c2, c3, c4, c5, cv, cw, e⟩ | e
  · rw [e]
    dsimp only
    rw [Lib.takeA u hl, Lib.decodeL_N]
    simp only [List.cons_append, List.nil_append, List.getD_cons_zero]
    unfold Lib.decodeN
    rw [if_pos c]
  · rw [e]
    dsimp only
    rw [Lib.takeB u c2, Lib.decodeL_N]
    simp only [List.cons_append, List.nil_append, List.getD_cons_zero, List.getD_cons_succ, List.length_cons]
    unfold Lib.decodeN
    rw [if_neg (by omega), if_pos ⟨c1, by omega, c3⟩, if_pos (by omega)]
  · rw [e]
    dsimp only
    rw [Lib.takeC u c2, Lib.decodeL_N]
    simp only [List.cons_append, List.nil_append, List.getD_cons_zero, List.getD_cons_succ, List.length_cons]
    unfold Lib.decodeN
    rw [if_neg (by omega), if_neg (by omega), if_pos ⟨c1, ⟨by omega, c3⟩, by omega, c4⟩, if_pos (by omega)]
  · rw [e]
    dsimp only
    rw [Lib.takeD u c2, Lib.decodeL_N]
    simp only [List.cons_append, List.nil_append, List.getD_cons_zero, List.getD_cons_succ, List.length_cons]
    unfold Lib.decodeN
    rw [if_neg (by omega), if_neg (by omega), if_neg (by omega), if_pos ⟨c1, ⟨by omega, c3⟩, ⟨by omega, c4⟩, by omega, c5⟩, if_pos (by omega)]
  · rw [e] at hv
    exact absurd ⟨rfl, rfl⟩ hv

/-- A small byte of a rune is the rune. -/
theorem small_byte (u : List UInt8) (hne : u ≠ []) (hv : ¬ ((Lib.decodeL u).1 = 65533 ∧ (Lib.decodeL u).2 = 1)) (b : UInt8) (hb : b ∈ u.take (Lib.decodeL u).2) (h : b.toNat < 128) : (Lib.decodeL u).1 = b.toNat := by
  have hl : 0 < u.length := List.length_pos_iff.2 hne
  rw [Lib.decodeL_N u] at hv hb ⊢
  rcases Lib.decodeN_shape u.length (u.getD 0 0).toNat (u.getD 1 0).toNat (u.getD 2 0).toNat (u.getD 3 0).toNat with ⟨c, e⟩ | ⟨c1, c2, c3, cv, e⟩ | ⟨c1, c2, c3, c4, cv, cs, e⟩ | ⟨c1, c2, c3, c4, c5, cv, cw, e⟩ | e
  · rw [e] at hb ⊢
    dsimp only at hb ⊢
    rw [Lib.takeA u hl] at hb
    simp only [List.mem_singleton] at hb
    rw [hb]
  · rw [e] at hb
    dsimp only at hb
    rw [Lib.takeB u c2] at hb
    simp only [List.mem_cons, List.not_mem_nil, or_false] at hb
    exfalso
    rcases hb with rfl | rfl <;> omega
  · rw [e] at hb
    dsimp only at hb
    rw [Lib.takeC u c2] at hb
    simp only [List.mem_cons, List.not_mem_nil, or_false] at hb
    exfalso
    rcases hb with rfl | rfl | rfl <;> omega
  · rw [e] at hb
    dsimp only at hb
    rw [Lib.takeD u c2] at hb
    simp only [List.mem_cons, List.not_mem_nil, or_false] at hb
    exfalso
    rcases hb with rfl | rfl | rfl | rfl <;> omega
  · rw [e] at hv
    exact absurd ⟨rfl, rfl⟩ hv
theorem small_rune (u : List UInt8) (hne : u ≠ []) (hv : ¬ ((Lib.decodeL u).1 = 65533 ∧ (Lib.decodeL u).2 = 1)) (h : (Lib.decodeL u).1 < 128) : ∃ b t, u = b :: t ∧ b.toNat = (Lib.decodeL u).1 := by
  have hl : 0 < u.length := List.length_pos_iff.2 hne
  cases u with
  | nil => exact absurd rfl hne
  | cons b t =>
    refine ⟨b, t, rfl, ?_⟩
    rw [Lib.decodeL_N] at hv h ⊢
    rcases Lib.decodeN_shape (b :: t).length ((b :: t).getD 0 0).toNat ((b :: t).getD 1 0).toNat ((b :: t).getD 2 0).toNat ((b :: t).getD 3 0).toNat with ⟨c, e⟩ | ⟨c1, c2, c3, cv, e⟩ | ⟨c1, c2, c3, c4, cv, cs, e⟩ | ⟨c1, c2, c3, c4, c5, cv, cw, e⟩ | e
    · rw [e]
      rfl
    all_goals (exfalso; rw [e] at h; simp only at h; omega)
end Go.Proofs.YtdiighpmgfbmaaaDoor
