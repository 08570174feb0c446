/- What Print and PrintPercent answer, the program's and the document's, of every number: as plain functions. Condition: the library's table of powers of ten lies as it was laid. -/
import Derived.Test.YthbplchbolghjaaGreatDoorBase
import Derived.Test.YthbplchbolghjaaGreatDoorShelf
import Derived.Lib.AppendIntMem
import Derived.Lib.ItoaLen
import Derived.WalkSpells
namespace Go.Proofs.YthbplchbolghjaaGreatDoor.Qu
open Go.RowKit

/-- The library's powers of ten lie as they were laid. -/
def Tab (w : World) : Prop := Lib.TabIs Tryz.prog w "internal/strconv.uint64pow10" .u64 Lib.pow10Tab
theorem Tab.below {w w' : World} (h : Tab w) (hb : Below w.heap.size w w') : Tab w' := Lib.tabBelow_of_tabIs h w' hb
theorem Tab.belowB {w w' : World} {B : Nat} (h : Tab w) (hb : Below B w w') (hB : w.heap.size ≤ B) : Tab w' := h.below (hb.mono hB)
theorem Tab.alloc {w : World} (h : Tab w) (o : Obj) : Tab (w.alloc o) := h.below ((Below.refl _ _).alloc (Nat.le_refl _) _)

theorem itoa_any (n : Int) (w : World) (h0 : 0 ≤ n) (h1 : n ≤ 9223372036854775807) (ht : Tab w) :
    Calls Tryz.prog 53 #[.int .i64 n] w fun e w' => e = .returned (.string ⟨(Lib.decDigits n.toNat).toArray⟩) ∧ Below w.heap.size w w' := by
  refine (Tryz.strconv_Itoa n (by omega) h1 w ht).mono ?_
  rintro e w' ⟨rfl, k, os, rfl⟩
  refine ⟨?_, Lib.below_grow _ _ (Nat.le_refl _) _ _⟩
  unfold Lib.itoa
  rw [if_neg (by omega)]

theorem dec_len (n : Int) (h0 : 0 ≤ n) (h1 : n ≤ 9223372036854775807) : (Lib.decDigits n.toNat).length ≤ 21 := by
  have h := Lib.itoa_length_le n (by omega) h1
  unfold Lib.itoa at h
  rwa [if_neg (by omega)] at h

def dec (n : Int) : List UInt8 := Lib.decDigits n.toNat

theorem itoa_dec (n : Int) (w : World) (h0 : 0 ≤ n) (h1 : n ≤ 9223372036854775807) (ht : Tab w) :
    Calls Tryz.prog 53 #[.int .i64 n] w fun e w' => e = .returned (.string ⟨(dec n).toArray⟩) ∧ Below w.heap.size w w' := itoa_any n w h0 h1 ht

theorem size_l (s : List UInt8) : (⟨s.toArray⟩ : ByteArray).size = s.length := by
  show s.toArray.size = _
  simp
theorem join_l (P : Program) (w : World) (s t : List UInt8) (hs : s.length ≤ 100) (ht : t.length ≤ 100) : (Op.stringOp .add ⟨s.toArray⟩ ⟨t.toArray⟩).run P w = .ok (.string ⟨(s ++ t).toArray⟩) w :=
  run_string_add_lists w s t (by omega) (by omega)

/-- Print, in thousandths. -/
def milliL (n : Int) : List UInt8 := if n % 1000 = 0 then dec (n / 1000) else dec n ++ [109]
/-- Print, not in thousandths. -/
def wholeL (n : Int) : List UInt8 :=
  if n = 0 then [48] else if n % 1073741824 = 0 then dec (n / 1073741824) ++ [71, 105] else if n % 1048576 = 0 then dec (n / 1048576) ++ [77, 105] else if n % 1024 = 0 then dec (n / 1024) ++ [75, 105] else dec n

theorem retS {a b : List UInt8} (h : a = b) : Ending.returned (.string ⟨a.toArray⟩) = .returned (.string ⟨b.toArray⟩) := by rw [h]

/-- Text, error. -/
def printL (n : Int) (milli : Bool) : List UInt8 × Int := if n < 0 ∨ 1099511627776 < n then ([], 2) else if milli = true then (milliL n, 0) else (wholeL n, 0)

theorem retSI {a b : List UInt8} {x y : Int} (h : (a, x) = (b, y)) : Ending.returned (.tuple #[.string ⟨a.toArray⟩, .int .i64 x]) = .returned (.tuple #[.string ⟨b.toArray⟩, .int .i64 y]) := by
  simp only [Prod.mk.injEq] at h
  obtain ⟨rfl, rfl⟩ := h
  rfl

/-- Text, error, of a share. -/
def pctL (n : Int) : List UInt8 × Int := if n < 0 ∨ 1000 < n then ([], 2) else if n % 10 = 0 then (dec (n / 10) ++ [37], 0) else (dec (n / 10) ++ ([46] ++ dec (n % 10)) ++ [37], 0)

end Go.Proofs.YthbplchbolghjaaGreatDoor.Qu
