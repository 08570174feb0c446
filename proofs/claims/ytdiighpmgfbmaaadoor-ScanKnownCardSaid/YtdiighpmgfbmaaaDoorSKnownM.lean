/- The longest text of words of one letter: what is read of it. Mathematics alone. -/
import Derived.Test.YtdiighpmgfbmaaaDoorSRefH
import Derived.Test.YtdiighpmgfbmaaaDoorSBackM
import Derived.Lib.Repeat
namespace Go.Proofs.YtdiighpmgfbmaaaDoor
open Go.RowKit

def aB : List UInt8 := [97, 32]
/-- One word more. -/
theorem word_more (T : List UInt8) (g p : Nat) (s : RS) (r : List UInt8) (hT : T.drop p = 97 :: 32 :: r) (hm : s.mode = .btw) :
    ∃ s' : RS, scanF T (g + 2) p s = scanF T g (p + 2) s' ∧ s'.mode = .btw ∧ s'.line = s.line ∧ s'.words.length = s.words.length + 1 ∧ ∀ x ∈ s'.words, x ∈ s.words ∨ x.2.2.1 = s.line := by
  have hl : (T.drop p).length = r.length + 2 := by rw [hT]; rfl
  rw [List.length_drop] at hl
  have d1 : Lib.decodeL (T.drop p) = (97, 1) := by
    rw [hT]
    exact Lib.decodeL_ascii 97 _ (by decide)
  have d2 : Lib.decodeL (T.drop (p + 1)) = (32, 1) := by
    have := drop_add T [97] (32 :: r) p hT
    simp only [List.length_cons, List.length_nil] at this
    rw [this]
    exact Lib.decodeL_ascii 32 _ (by decide)
  have s1 : stepF s 97 = (addF (beginF s 1 .nam) 97, 0) := by
    unfold stepF
    rw [hm]
    rfl
  have s2 : stepF (advF (addF (beginF s 1 .nam) 97) 97) 32 = (endF (advF (addF (beginF s 1 .nam) 97) 97), 0) := by rfl
  refine ⟨advF (endF (advF (addF (beginF s 1 .nam) 97) 97)) 32, ?_, rfl, rfl, ?_, ?_⟩
  · rw [scan_step T (g + 1) p s _ 97 1 (by omega) d1 (by intro e; cases e) s1, scan_step T g (p + 1) _ _ 32 1 (by omega) d2 (by intro e; cases e) s2]
  · show (s.words ++ [_]).length = _
    simp
  · intro x hx
    have hx' : x ∈ s.words ++ [(1, ([] : List UInt8) ++ Lib.encodeRune 97, s.line, s.col)] := hx
    rcases List.mem_append.1 hx' with h | h
    · exact .inl h
    · simp only [List.mem_singleton] at h
      subst h
      exact .inr rfl
theorem words_many (n : Nat) : ∀ (k : Nat), k ≤ n → ∀ g : Nat, ∃ s : RS, scanF (Lib.repeatL aB n) (g + 2 * k) 0 rs0 = scanF (Lib.repeatL aB n) g (2 * k) s ∧ s.mode = .btw ∧ s.line = 1 ∧ s.words.length = k ∧ ∀ x ∈ s.words, x.2.2.1 = 1 := by
  intro k
  induction k with
  | zero => intro _ g; exact ⟨rs0, rfl, rfl, rfl, rfl, fun x hx => by cases hx⟩
  | succ k ih =>
    intro hk g
    obtain ⟨s, h1, h2, h3, h4, h5⟩ := ih (by omega) (g + 2)
    have hd : (Lib.repeatL aB n).drop (2 * k) = 97 :: 32 :: Lib.repeatL aB (n - k - 1) := by
      have e : n = k + ((n - k - 1) + 1) := by omega
      have hl : (Lib.repeatL aB k).length = 2 * k := by rw [Lib.repeatL_length, Nat.mul_comm]; rfl
      have e2 : Lib.repeatL aB n = Lib.repeatL aB k ++ Lib.repeatL aB ((n - k - 1) + 1) := by
        rw [← Lib.repeatL_add, ← e]
      rw [e2, ← hl, List.drop_left]
      rfl
    obtain ⟨s', k1, k2, k3, k4, k5⟩ := word_more (Lib.repeatL aB n) g (2 * k) s _ hd h2
    refine ⟨s', ?_, k2, by rw [k3, h3], by rw [k4, h4], fun x hx => ?_⟩
    · rw [show g + 2 * (k + 1) = g + 2 + 2 * k by omega, h1, k1, show 2 * (k + 1) = 2 * k + 2 by omega]
    · rcases k5 x hx with h | h
      · exact h5 x h
      · rw [h, h3]
theorem words_full (n : Nat) (hn : 2 * n ≤ 65536) : ∃ ws, wordsF (Lib.repeatL aB n) = (ws, 0, 0, 0) ∧ ws.length = n ∧ ∀ x ∈ ws, x.2.2.1 = 1 := by
  have hl : (Lib.repeatL aB n).length = 2 * n := by rw [Lib.repeatL_length, Nat.mul_comm]; rfl
  obtain ⟨s, h1, h2, h3, h4, h5⟩ := words_many n n (Nat.le_refl _) 1
  unfold wordsF
  rw [if_neg (by omega), hl, show 2 * n + 1 = 1 + 2 * n by omega, h1, scanF, if_neg (by omega)]
  have e : stepF s 10 = (s, 0) := by
    unfold stepF
    rw [h2]
    rfl
  have e3 : readF s 10 = (advF s 10, 0) := by
    unfold readF
    rw [e, if_pos rfl]
  rw [e3, if_pos rfl]
  exact ⟨s.words, rfl, h4, h5⟩
theorem words_over (l : List UInt8) (h : 65536 < l.length) : wordsF l = ([], 0, 0, 5) := by
  unfold wordsF
  rw [if_pos h]
theorem line_all (ws : List W4) (h : ∀ x ∈ ws, x.2.2.1 = 1) : lineF ws 0 = ws.length := by
  unfold lineF
  cases ws with
  | nil => rfl
  | cons x t =>
    have hx := h x (by simp)
    show ((x :: t).filter (lineB x.2.2.1)).length = _
    rw [List.filter_eq_self.2 (fun y hy => by
      unfold lineB
      rw [decide_eq_true_eq, hx, h y hy])]
end Go.Proofs.YtdiighpmgfbmaaaDoor
