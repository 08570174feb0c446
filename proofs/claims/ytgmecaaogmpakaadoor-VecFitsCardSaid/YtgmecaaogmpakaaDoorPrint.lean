/- What Print and PrintPercent answer, the program's and the document's, of every number: as plain functions. Condition: the library's table of powers of ten lies as it was laid. -/
import Derived.Test.YtgmecaaogmpakaaDoorBase
import Derived.Test.YtgmecaaogmpakaaDoorShelf
import Derived.Lib.AppendIntMem
import Derived.Lib.ItoaLen
import Derived.WalkSpells
namespace Go.Proofs.YtgmecaaogmpakaaDoor
open Go.RowKit

/-- The library's powers of ten lie as they were laid. -/
def Tab (w : World) : Prop := Lib.TabIs Tryd.prog w "internal/strconv.uint64pow10" .u64 Lib.pow10Tab
theorem Tab.below {w w' : World} (h : Tab w) (hb : Below w.heap.size w w') : Tab w' := Lib.tabBelow_of_tabIs h w' hb
theorem Tab.belowB {w w' : World} {B : Nat} (h : Tab w) (hb : Below B w w') (hB : w.heap.size ≤ B) : Tab w' := h.below (hb.mono hB)
theorem Tab.alloc {w : World} (h : Tab w) (o : Obj) : Tab (w.alloc o) := h.below ((Below.refl _ _).alloc (Nat.le_refl _) _)

theorem itoa_any (n : Int) (w : World) (h0 : 0 ≤ n) (h1 : n ≤ 9223372036854775807) (ht : Tab w) :
    Calls Tryd.prog 55 #[.int .i64 n] w fun e w' => e = .returned (.string ⟨(Lib.decDigits n.toNat).toArray⟩) ∧ Below w.heap.size w w' := by
  refine (Tryd.strconv_Itoa n (by omega) h1 w ht).mono ?_
  rintro e w' ⟨rfl, k, os, rfl⟩
  refine ⟨?_, Lib.below_grow _ _ (Nat.le_refl _) _ _⟩
  unfold Lib.itoa
  rw [if_neg (by omega)]

theorem dec_len (n : Int) (h0 : 0 ≤ n) (h1 : n ≤ 9223372036854775807) : (Lib.decDigits n.toNat).length ≤ 21 := by
  have h := Lib.itoa_length_le n (by omega) h1
  unfold Lib.itoa at h
  rwa [if_neg (by omega)] at h

def dec (n : Int) : List UInt8 := Lib.decDigits n.toNat

theorem itoa_dec (n : Int) (w : World) (h0 : 0 ≤ n) (h1 : n ≤ 9223372036854775807) (ht : Tab w) :
    Calls Tryd.prog 55 #[.int .i64 n] w fun e w' => e = .returned (.string ⟨(dec n).toArray⟩) ∧ Below w.heap.size w w' := itoa_any n w h0 h1 ht

theorem size_l (s : List UInt8) : (⟨s.toArray⟩ : ByteArray).size = s.length := by
  show s.toArray.size = _
  simp
theorem join_l (P : Program) (w : World) (s t : List UInt8) (hs : s.length ≤ 100) (ht : t.length ≤ 100) : (Op.stringOp .add ⟨s.toArray⟩ ⟨t.toArray⟩).run P w = .ok (.string ⟨(s ++ t).toArray⟩) w :=
  run_string_add_lists w s t (by omega) (by omega)

/-- Print, in thousandths. -/
def milliL (n : Int) : List UInt8 := if n % 1000 = 0 then dec (n / 1000) else dec n ++ [109]
/-- Print, not in thousandths. -/
def wholeL (n : Int) : List UInt8 :=
  if n = 0 then [48] else if n % 1073741824 = 0 then dec (n / 1073741824) ++ [71, 105] else if n % 1048576 = 0 then dec (n / 1048576) ++ [77, 105] else if n % 1024 = 0 then dec (n / 1024) ++ [75, 105] else dec n

theorem retS {a b : List UInt8} (h : a = b) : Ending.returned (.string ⟨a.toArray⟩) = .returned (.string ⟨b.toArray⟩) := by rw [h]

set_option maxHeartbeats 400000 in
theorem printMilli_any (n : Int) (w : World) (h0 : 0 ≤ n) (h1 : n ≤ 1099511627776) (ht : Tab w) :
    Calls Tryd.prog 50 #[.int .i64 n] w fun e w' => e = .returned (.string ⟨(milliL n).toArray⟩) ∧ Below w.heap.size w w' := by
  have Ht := Lib.hid ht
  clear ht
  by_cases hz : n % 1000 = 0
  · have hzb : (n % 1000 == 0) = true := by simpa using hz
    have Hz := Lib.hid hz
    clear hz
    go_enter Tryd.func50, Tryd.ntmps50
    go_wp2_with fail
    refine (itoa_dec _ _ (by omega) (by omega) Ht.out).mono ?_
    rintro e w' ⟨rfl, hb⟩
    have Hb := Lib.hid hb
    clear hb
    go_wp2
    go_ret
    exact ⟨retS (by unfold milliL; rw [if_pos Hz.out]), Hb.out⟩
  · have hzb : (n % 1000 == 0) = false := by simpa using hz
    have Hz := Lib.hid hz
    clear hz
    go_enter Tryd.func50, Tryd.ntmps50
    go_wp2_with fail
    refine (itoa_dec _ _ (by omega) (by omega) Ht.out).mono ?_
    rintro e w' ⟨rfl, hb⟩
    have Hb := Lib.hid hb
    clear hb
    have hj := join_l Tryd.prog w' (dec n) [109] (Nat.le_trans (dec_len n h0 (by omega)) (by decide)) (by decide)
    go_wp2
    go_ret
    exact ⟨retS (by unfold milliL; rw [if_neg Hz.out]), Hb.out⟩

set_option maxHeartbeats 400000 in
theorem printWhole_any (n : Int) (w : World) (h0 : 0 ≤ n) (h1 : n ≤ 1099511627776) (ht : Tab w) :
    Calls Tryd.prog 51 #[.int .i64 n] w fun e w' => e = .returned (.string ⟨(wholeL n).toArray⟩) ∧ Below w.heap.size w w' := by
  have Ht := Lib.hid ht
  clear ht
  by_cases z : n = 0
  · have zb : (n == 0) = true := by simpa using z
    have Z := Lib.hid z
    clear z
    go_enter Tryd.func51, Tryd.ntmps51
    go_wp2
    go_ret
    exact ⟨retS (by unfold wholeL; rw [if_pos Z.out]), Below.refl _ _⟩
  · have zb : (n == 0) = false := by simpa using z
    have Z := Lib.hid z
    clear z
    by_cases g : n % 1073741824 = 0
    · have gb : (n % 1073741824 == 0) = true := by simpa using g
      have G := Lib.hid g
      clear g
      go_enter Tryd.func51, Tryd.ntmps51
      go_wp2_with fail
      refine (itoa_dec _ _ (by omega) (by omega) Ht.out).mono ?_
      rintro e w' ⟨rfl, hb⟩
      have Hb := Lib.hid hb
      clear hb
      have hj := join_l Tryd.prog w' (dec (n / 1073741824)) [71, 105] (Nat.le_trans (dec_len (n / 1073741824) (by omega) (by omega)) (by decide)) (by decide)
      go_wp2
      go_ret
      exact ⟨retS (by unfold wholeL; rw [if_neg Z.out, if_pos G.out]), Hb.out⟩
    · have gb : (n % 1073741824 == 0) = false := by simpa using g
      have G := Lib.hid g
      clear g
      by_cases m : n % 1048576 = 0
      · have mb : (n % 1048576 == 0) = true := by simpa using m
        have M := Lib.hid m
        clear m
        go_enter Tryd.func51, Tryd.ntmps51
        go_wp2_with fail
        refine (itoa_dec _ _ (by omega) (by omega) Ht.out).mono ?_
        rintro e w' ⟨rfl, hb⟩
        have Hb := Lib.hid hb
        clear hb
        have hj := join_l Tryd.prog w' (dec (n / 1048576)) [77, 105] (Nat.le_trans (dec_len (n / 1048576) (by omega) (by omega)) (by decide)) (by decide)
        go_wp2
        go_ret
        exact ⟨retS (by unfold wholeL; rw [if_neg Z.out, if_neg G.out, if_pos M.out]), Hb.out⟩
      · have mb : (n % 1048576 == 0) = false := by simpa using m
        have M := Lib.hid m
        clear m
        by_cases k : n % 1024 = 0
        · have kb : (n % 1024 == 0) = true := by simpa using k
          have K := Lib.hid k
          clear k
          go_enter Tryd.func51, Tryd.ntmps51
          go_wp2_with fail
          refine (itoa_dec _ _ (by omega) (by omega) Ht.out).mono ?_
          rintro e w' ⟨rfl, hb⟩
          have Hb := Lib.hid hb
          clear hb
          have hj := join_l Tryd.prog w' (dec (n / 1024)) [75, 105] (Nat.le_trans (dec_len (n / 1024) (by omega) (by omega)) (by decide)) (by decide)
          go_wp2
          go_ret
          exact ⟨retS (by unfold wholeL; rw [if_neg Z.out, if_neg G.out, if_neg M.out, if_pos K.out]), Hb.out⟩
        · have kb : (n % 1024 == 0) = false := by simpa using k
          have K := Lib.hid k
          clear k
          go_enter Tryd.func51, Tryd.ntmps51
          go_wp2_with fail
          refine (itoa_dec _ _ (by omega) (by omega) Ht.out).mono ?_
          rintro e w' ⟨rfl, hb⟩
          have Hb := Lib.hid hb
          clear hb
          go_wp2
          go_ret
          exact ⟨retS (by unfold wholeL; rw [if_neg Z.out, if_neg G.out, if_neg M.out, if_neg K.out]), Hb.out⟩

/-- Text, error. -/
def printL (n : Int) (milli : Bool) : List UInt8 × Int := if n < 0 ∨ 1099511627776 < n then ([], 2) else if milli = true then (milliL n, 0) else (wholeL n, 0)

theorem retSI {a b : List UInt8} {x y : Int} (h : (a, x) = (b, y)) : Ending.returned (.tuple #[.string ⟨a.toArray⟩, .int .i64 x]) = .returned (.tuple #[.string ⟨b.toArray⟩, .int .i64 y]) := by
  simp only [Prod.mk.injEq] at h
  obtain ⟨rfl, rfl⟩ := h
  rfl

set_option maxHeartbeats 400000 in
theorem print_any (n : Int) (milli : Bool) (w : World) (ht : Tab w) :
    Calls Tryd.prog 43 #[.int .i64 n, .bool milli] w fun e w' => e = .returned (.tuple #[.string ⟨(printL n milli).1.toArray⟩, .int .i64 (printL n milli).2]) ∧ Below w.heap.size w w' := by
  have Ht := Lib.hid ht
  clear ht
  by_cases h0 : n < 0
  · go_enter Tryd.func43, Tryd.ntmps43
    go_wp2
    go_ret2
    exact ⟨retSI (a := []) (by unfold printL; rw [if_pos (Or.inl h0)]), Below.refl _ _⟩
  · by_cases h1 : 1099511627776 < n
    · go_enter Tryd.func43, Tryd.ntmps43
      go_wp2
      go_ret2
      exact ⟨retSI (a := []) (by unfold printL; rw [if_pos (Or.inr h1)]), Below.refl _ _⟩
    · cases milli
      · go_enter Tryd.func43, Tryd.ntmps43
        go_wp2_with fail
        refine (printWhole_any n _ (by omega) (by omega) Ht.out).mono ?_
        rintro e w' ⟨rfl, hb⟩
        have Hb := Lib.hid hb
        clear hb
        go_wp2
        go_ret2
        exact ⟨retSI (by unfold printL; rw [if_neg (by omega)]; rfl), Hb.out⟩
      · go_enter Tryd.func43, Tryd.ntmps43
        go_wp2_with fail
        refine (printMilli_any n _ (by omega) (by omega) Ht.out).mono ?_
        rintro e w' ⟨rfl, hb⟩
        have Hb := Lib.hid hb
        clear hb
        go_wp2
        go_ret2
        exact ⟨retSI (by unfold printL; rw [if_neg (by omega)]; rfl), Hb.out⟩

/-- Text, error, of a share. -/
def pctL (n : Int) : List UInt8 × Int := if n < 0 ∨ 1000 < n then ([], 2) else if n % 10 = 0 then (dec (n / 10) ++ [37], 0) else (dec (n / 10) ++ ([46] ++ dec (n % 10)) ++ [37], 0)

end Go.Proofs.YtgmecaaogmpakaaDoor
