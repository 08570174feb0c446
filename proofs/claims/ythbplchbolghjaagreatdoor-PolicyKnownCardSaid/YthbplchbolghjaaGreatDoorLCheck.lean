/- What Check, CheckBears and CheckTerms answer, as plain functions. Condition: the lists lie in memory. -/
import Derived.Test.YthbplchbolghjaaGreatDoorLPrintB
import Derived.Test.YthbplchbolghjaaGreatDoorLSpan
namespace Go.Proofs.YthbplchbolghjaaGreatDoor.La
open Go.RowKit

def nameB (s : List UInt8) : Bool := decide (s ≠ []) && decide (spanF okName s 0 = s.length)
def valueB (s : List UInt8) : Bool := decide (s ≠ []) && decide (spanF okVal s 0 = s.length)

theorem nil_size : ((⟨#[]⟩ : ByteArray).size) = 0 := rfl
set_option maxHeartbeats 400000 in
theorem nameB_any (s : List UInt8) (w : World) (hl : s.length ≤ 9223372036854775807) :
    Calls Tryz.prog 56 #[strV s] w fun e w' => e = .returned (.bool (nameB s)) ∧ Below w.heap.size w w' := by
  have K := Lib.hid (nameLen_any s w hl)
  by_cases hs : s = []
  · have h1 : s.isEmpty = true := by simp [hs]
    have E : Hid (nameB s = false) := by show nameB s = false; unfold nameB; simp [hs]
    have Hs := Lib.hid hs
    clear hs
    go_enter Tryz.func56, Tryz.ntmps56
    go_wp2
    go_ret
    exact ⟨retB (by rw [E.out]), Below.refl _ _⟩
  · have h1 : s.isEmpty = false := by simpa using hs
    have h2 : (!s.isEmpty) = true := by simpa using hs
    have E : Hid (nameB s = decide (spanF okName s 0 = s.length)) := by show nameB s = _; unfold nameB; simp [hs]
    have Hs := Lib.hid hs
    clear hs
    go_enter Tryz.func56, Tryz.ntmps56
    go_wp2_with fail
    refine K.out.mono ?_
    rintro e w1 ⟨rfl, hb⟩
    have HB := Lib.hid hb
    clear hb
    go_wp2
    go_ret
    refine ⟨retB ?_, HB.out⟩
    rw [E.out, Bool.eq_iff_iff]
    simp
    try omega
def labB (x : List UInt8 × List UInt8) : Bool := nameB x.1 && valueB x.2
def borB (x : List UInt8 × List UInt8) : Bool := nameB x.1 && (decide (x.2 = [42]) || valueB x.2)
def terB (x : Int × List UInt8 × List UInt8) : Bool :=
  if x.1 = 1 ∨ x.1 = 2 then nameB x.2.1 && valueB x.2.2 else if x.1 = 3 ∨ x.1 = 4 then nameB x.2.1 && decide (x.2.2 = []) else false

/-- May x stand at k? -/
def okAt {α : Type} (mb : α → Bool) (ri : α → α → Bool) (l : List α) (k : Nat) (x : α) : Bool :=
  mb x && (decide (k = 0) || (match l[k - 1]? with | none => true | some y => ri y x))
theorem okAt_no {α : Type} {mb : α → Bool} {ri : α → α → Bool} {l : List α} {k : Nat} {x : α} (h : mb x = false) : okAt mb ri l k x = false := by unfold okAt; rw [h]; rfl
theorem okAt_zero {α : Type} {mb : α → Bool} {ri : α → α → Bool} {l : List α} {k : Nat} {x : α} (h : mb x = true) (h0 : k = 0) : okAt mb ri l k x = true := by unfold okAt; rw [h, h0]; rfl
theorem okAt_pos {α : Type} {mb : α → Bool} {ri : α → α → Bool} {l : List α} {k : Nat} {x y : α} (h : mb x = true) (h0 : ¬ k = 0) (hy : l[k - 1]? = some y) : okAt mb ri l k x = ri y x := by unfold okAt; rw [h, hy, decide_eq_false h0]; rfl
/-- May the first k stand there, each of them, and behind the one ahead? -/
def chkK {α : Type} (mb : α → Bool) (ri : α → α → Bool) (l : List α) : Nat → Bool
  | 0 => true
  | k + 1 => chkK mb ri l k && (match l[k]? with
    | none => true
    | some x => okAt mb ri l k x)
def chkA {α : Type} (mb : α → Bool) (ri : α → α → Bool) (l : List α) : Int := if 6 < l.length ∨ chkK mb ri l l.length = false then 2 else 0
theorem chkK_false {α : Type} {mb : α → Bool} {ri : α → α → Bool} {l : List α} {k : Nat} (h : chkK mb ri l k = false) : ∀ {n : Nat}, k ≤ n → chkK mb ri l n = false := by
  intro n hn
  induction n with
  | zero => obtain rfl : k = 0 := by omega
            exact h
  | succ n ih =>
    rcases Nat.lt_or_eq_of_le hn with g | rfl
    · rw [chkK, ih (by omega)]
      rfl
    · exact h

end Go.Proofs.YthbplchbolghjaaGreatDoor.La
