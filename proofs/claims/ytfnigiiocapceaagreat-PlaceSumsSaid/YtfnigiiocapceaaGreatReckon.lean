/- What Add, Sub, Mul and Share answer, the program's and the document's, of every number. No conditions but that a row lies in memory. -/
import Derived.Test.YtfnigiiocapceaaGreatCheck
namespace Go.Proofs.YtfnigiiocapceaaGreat.Qu
open Go.RowKit

def subL (a b : Int) : Int × Int := if a < 0 ∨ b < 0 ∨ a < b then (0, 2) else if top < a then (0, 10) else (a - b, 0)
def mulL (a b : Int) : Int × Int := if a < 0 ∨ b < 0 then (0, 2) else if top < a ∨ top < b ∨ top < a * b then (0, 10) else (a * b, 0)
def shareL (a b : Int) : Int × Int := if a < 0 ∨ b < 0 ∨ (b = 0 ∧ a ≠ 0) then (0, 2) else if top < a ∨ top < b then (0, 10) else if b = 0 then (0, 0) else (a * 1000 / b, 0)

theorem check2 (a b r : Int) (g o c : Nat) (w : World) (hr : checkL [a, b] = r) (h0 : w.cell? ⟨g, o, none⟩ = some (.int .i64 a)) (h1 : w.cell? ⟨g, o + 1, none⟩ = some (.int .i64 b)) :
    Calls Tryz.prog 146 #[.slice (some ⟨g, o, none⟩) 2 c] w fun e w' => e = .returned (.int .i64 r) ∧ w = w' := by
  subst hr
  refine check_any (some ⟨g, o, none⟩) c [a, b] w (by simp [maxLen]) ?_
  intro k x hk
  match k, hk with
  | 0, hk => exact ⟨g, o, rfl, by simp at hk; subst hk; exact h0⟩
  | 1, hk => exact ⟨g, o, rfl, by simp at hk; subst hk; exact h1⟩
  | k + 2, hk => simp at hk

theorem chk_neg {a b : Int} (h : a < 0 ∨ b < 0) : checkL [a, b] = 2 := by
  unfold checkL; rw [if_pos]; rcases h with h | h
  · exact ⟨a, by simp, h⟩
  · exact ⟨b, by simp, h⟩
theorem chk_over {a b : Int} (ha : 0 ≤ a) (hb : 0 ≤ b) (h : top < a ∨ top < b) : checkL [a, b] = 10 := by
  unfold checkL; rw [if_neg, if_pos]
  · rcases h with h | h
    · exact ⟨a, by simp, h⟩
    · exact ⟨b, by simp, h⟩
  · rintro ⟨x, hx, h0⟩; simp at hx; rcases hx with rfl | rfl <;> omega
theorem chk_ok {a b : Int} (ha : 0 ≤ a) (hb : 0 ≤ b) (ha' : a ≤ top) (hb' : b ≤ top) : checkL [a, b] = 0 := by
  unfold checkL; rw [if_neg, if_neg]
  · rintro ⟨x, hx, h0⟩; simp at hx; rcases hx with rfl | rfl <;> omega
  · rintro ⟨x, hx, h0⟩; simp at hx; rcases hx with rfl | rfl <;> omega

theorem ret2I {a b c d : Int} (h : a = c) (k : b = d) : Ending.returned (.tuple #[.int .i64 a, .int .i64 b]) = .returned (.tuple #[.int .i64 c, .int .i64 d]) := by rw [h, k]

end Go.Proofs.YtfnigiiocapceaaGreat.Qu
