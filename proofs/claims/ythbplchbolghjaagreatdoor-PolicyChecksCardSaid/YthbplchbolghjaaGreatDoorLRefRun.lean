/- What the document's reader of a word answers, as a plain function. Condition: a text that can lie in memory. -/
import Derived.Test.YthbplchbolghjaaGreatDoorLRead
namespace Go.Proofs.YthbplchbolghjaaGreatDoor.La
open Go.RowKit

def insB (n : Nat) : Bool := letB n || digB n
def insAt (l : List UInt8) (i : Nat) : Bool := match l[i]? with | some b => insB b.toNat | none => false

theorem rletter_any (b : UInt8) (w : World) :
    Calls Tryz.prog 58 #[.int .u8 (b.toNat : Int)] w fun e w' => e = .returned (.bool (letB b.toNat)) ∧ w = w' := by
  have hb : b.toNat < 256 := b.toNat_lt
  generalize b.toNat = c at *
  go_enter Tryz.func58, Tryz.ntmps58
  go_wp2
  all_goals
    go_ret
    refine ⟨retB ?_, rfl⟩
    unfold letB
    rw [Bool.eq_iff_iff]
    simp
    try omega
theorem rinside_any (b : UInt8) (w : World) :
    Calls Tryz.prog 86 #[.int .u8 (b.toNat : Int)] w fun e w' => e = .returned (.bool (insB b.toNat)) ∧ w = w' := by
  have K := Lib.hid (fun w => rletter_any b w)
  have hb : b.toNat < 256 := b.toNat_lt
  generalize b.toNat = c at *
  cases hl : letB c
  · rw [hl] at K
    have E : Hid (insB c = digB c) := by show insB c = _; unfold insB; rw [hl]; rfl
    clear hl
    go_enter Tryz.func86, Tryz.ntmps86
    go_wp2_with fail
    refine (K.out _).mono ?_
    rintro e w1 ⟨rfl, rfl⟩
    go_wp2
    all_goals
      go_ret
      refine ⟨retB ?_, rfl⟩
      rw [E.out]
      unfold digB
      rw [Bool.eq_iff_iff]
      simp
      try omega
  · rw [hl] at K
    have E : Hid (insB c = true) := by show insB c = _; unfold insB; rw [hl]; rfl
    clear hl
    go_enter Tryz.func86, Tryz.ntmps86
    go_wp2_with fail
    refine (K.out _).mono ?_
    rintro e w1 ⟨rfl, rfl⟩
    go_wp2
    go_ret
    exact ⟨retB (by rw [E.out]), rfl⟩

/-- A word that stands at a byte, and where it ends; where it is wrong, and how. -/
def runF (nm : Bool) (l : List UInt8) (a : Nat) : List UInt8 × Nat × Int :=
  if wordL (if nm = true then okName else okVal) l a = 0 ∧ a = l.length then ([], a, 3)
  else if wordL (if nm = true then okName else okVal) l a = 0 ∨ insAt l (a + wordL (if nm = true then okName else okVal) l a) = true then ([], a + wordL (if nm = true then okName else okVal) l a, 4)
  else ((l.drop a).take (wordL (if nm = true then okName else okVal) l a), a + wordL (if nm = true then okName else okVal) l a, 0)
/-- What the document's reader leaves. -/
def RunsTo (w : World) (x : List UInt8 × Nat × Int) (e : Ending) (w' : World) : Prop := e = .returned (.tuple #[strV x.1, .int .i64 (x.2.1 : Int), .int .i64 x.2.2]) ∧ w = w'

theorem run_word {nm : Bool} {l : List UInt8} {a p : Nat} (h : wordL (if nm = true then okName else okVal) l a = p - a) (ha : a ≤ p) (hp : p ≤ l.length) :
    runF nm l a = if p = a ∧ p = l.length then ([], p, 3) else if p = a ∨ insAt l p = true then ([], p, 4) else ((l.drop a).take (p - a), p, 0) := by
  unfold runF
  rw [h]
  by_cases hpa : p = a
  · subst hpa
    simp
  · have e : a + (p - a) = p := by omega
    have h0 : ¬ (p - a = 0) := by omega
    simp only [e, h0, hpa, false_and, if_false, false_or]
theorem slice_at (l : List UInt8) (a p : Nat) : (⟨l.toArray⟩ : ByteArray).extract a p = ⟨((l.drop a).take (p - a)).toArray⟩ := cut_eq l a p

end Go.Proofs.YthbplchbolghjaaGreatDoor.La
