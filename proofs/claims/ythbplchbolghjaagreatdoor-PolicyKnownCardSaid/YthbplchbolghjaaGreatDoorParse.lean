/- What Parse and Percent answer, of every text: as a plain function of its bytes. No conditions. -/
import Derived.Test.YthbplchbolghjaaGreatDoorReadAll
namespace Go.Proofs.YthbplchbolghjaaGreatDoor.Qu
open Go.RowKit

theorem scan_ok (s : ByteArray) (P : Nat) (m : List (List UInt8 × Int)) (hm : ∀ k x, look m k = some x → k.length ≤ 100) : ∀ (f pos : Nat) (r r' : Rd) (q : Nat), r.Ok P → scanF s P m f pos r = (some r', q) → r'.Ok P
  | 0, pos, r, r', q, h, hs => by
    simp only [scanF, Prod.mk.injEq, Option.some.injEq] at hs
    obtain ⟨rfl, _⟩ := hs
    exact h
  | f + 1, pos, r, r', q, h, hs => by
    rw [scanF] at hs
    by_cases hp : pos < s.size
    · rw [if_pos hp] at hs
      cases ht : r.take (Utf8.decode s pos).1 P m with
      | none => rw [ht] at hs; simp at hs
      | some r1 =>
        rw [ht] at hs
        exact scan_ok s P m hm f _ r1 r' q (take_ok h hm ht) hs
    · rw [if_neg hp] at hs
      simp only [Prod.mk.injEq, Option.some.injEq] at hs
      obtain ⟨rfl, _⟩ := hs
      exact h

theorem rd0_ok (P : Nat) : rd0.Ok P := ⟨by decide, by simp [rd0], fun _ => rfl, by decide, by simp [rd0]⟩

/-- What is read without an error: the number has all its places, the scale stands in the table. -/
theorem readL_ok {s : ByteArray} {P : Nat} {m : List (List UInt8 × Int)} {v sc a : Int} (hm : ∀ k x, look m k = some x → k.length ≤ 100) (h : readL s P m = (v, sc, a, 0)) :
    0 ≤ v ∧ v < 1125899906842625 * 10 ^ P ∧ sc ≠ 0 ∧ ∃ k, look m k = some sc := by
  unfold readL at h
  split at h
  · cases h
  · rename_i r q hs
    have ho := scan_ok s P m hm _ _ _ _ _ (rd0_ok P) hs
    split at h
    · cases h
    · rename_i hc
      simp only [Prod.mk.injEq] at h
      obtain ⟨rfl, rfl, _, _⟩ := h
      have hv := val_lt ho ho.kP
      have hne : (look m r.s).getD 0 ≠ 0 := fun e => hc (Or.inr e)
      refine ⟨hv.1, hv.2, hne, r.s, ?_⟩
      cases hl : look m r.s with
      | none => rw [hl] at hne; exact absurd rfl hne
      | some x => rfl

theorem suf_len : ∀ k x, look sufM k = some x → k.length ≤ 100 := by
  intro k x h
  simp only [sufM, look] at h
  repeat' (split at h)
  all_goals first | (rename_i e; subst e; decide) | (cases h)
theorem pct_len : ∀ k x, look pctM k = some x → k.length ≤ 100 := by
  intro k x h
  simp only [pctM, look] at h
  repeat' (split at h)
  all_goals first | (rename_i e; subst e; decide) | (cases h)
theorem suf_val {k : List UInt8} {x : Int} (h : look sufM k = some x) : 0 ≤ x ∧ x ≤ 1073741824000 := by
  simp only [sufM, look] at h
  repeat' (split at h)
  all_goals first | (cases h; omega) | (cases h)
theorem pct_val {k : List UInt8} {x : Int} (h : look pctM k = some x) : x = 1 := by
  simp only [pctM, look] at h
  repeat' (split at h)
  all_goals first | (cases h; rfl) | (cases h)

theorem read_is (s : ByteArray) (P M : Nat) (m : List (List UInt8 × Int)) (w : World) (v sc a e0 : Int) (hq : readL s P m = (v, sc, a, e0)) (hM : MapAt w M m) (hm : ∀ k x, look m k = some x → k.length ≤ 100) (hP : P ≤ 3) :
    Calls Tryz.prog 142 #[.string s, .agg #[.int .i64 (P : Int), .map (some M)]] w fun e w' =>
      e = .returned (.tuple #[.int .i64 v, .int .i64 sc, .int .i64 a, .int .i64 e0]) ∧ Below w.heap.size w w' := by
  have h := read_any s P M m w hM hm hP
  rw [hq] at h
  exact h

/-- Number, place, error. -/
def parseL (s : ByteArray) (milli : Bool) : Int × Int × Int :=
  match readL s 3 sufM with
  | (v, sc, a, e) => if e ≠ 0 then (0, a, e) else
    let c := if milli then sc * 1000 else sc
    if 1099511627776000000 / c < v then (0, 0, 10) else if v * c % 1000000 ≠ 0 then (0, 0, 4) else (v * c / 1000000, 0, 0)

def percentL (s : ByteArray) : Int × Int × Int :=
  match readL s 1 pctM with
  | (v, sc, a, e) => if e ≠ 0 then (0, a, e) else if 1000 < v * sc then (0, 0, 10) else (v * sc, 0, 0)

theorem ret3I {a b c a' b' c' : Int} (h : (a, b, c) = (a', b', c')) : Ending.returned (.tuple #[.int .i64 a, .int .i64 b, .int .i64 c]) = .returned (.tuple #[.int .i64 a', .int .i64 b', .int .i64 c']) := by
  simp only [Prod.mk.injEq] at h
  obtain ⟨rfl, rfl, rfl⟩ := h
  rfl

end Go.Proofs.YthbplchbolghjaaGreatDoor.Qu
