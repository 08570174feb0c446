/- What was printed is parsed as it was, and what can be parsed says what its print says: the walk. Condition: the library's table of powers of ten lies as it was laid. -/
import Derived.Test.YtmhblnlbfhfegaaDoorBackMath
import Derived.Test.YtmhblnlbfhfegaaDoorWorks
import Derived.Test.YtmhblnlbfhfegaaDoorBring
namespace Go.Proofs.YtmhblnlbfhfegaaDoor
open Go.RowKit

/-- A text, cut at a hundred bytes. -/
theorem cut_list (s : ByteArray) : ∃ l : List UInt8, s.extract 0 (min (s.size : Int) 100).toNat = ⟨l.toArray⟩ ∧ l.length ≤ s.size ∧ l.length ≤ 100 := by
  refine ⟨bytesOf (s.extract 0 (min (s.size : Int) 100).toNat), (of_bytes _).symm, ?_, ?_⟩
  · show (s.extract 0 _).data.toList.length ≤ _
    rw [Array.length_toList]
    show (s.extract 0 _).size ≤ _
    rw [ByteArray.size_extract]
    omega
  · show (s.extract 0 _).data.toList.length ≤ _
    rw [Array.length_toList]
    show (s.extract 0 _).size ≤ _
    rw [ByteArray.size_extract]
    omega

set_option maxRecDepth 100000 in
set_option maxHeartbeats 2000000 in
theorem back_any (n : Int) (s : ByteArray) (milli : Bool) (w : World) (hs : s.size ≤ maxLen) (ht : Tab w) (_hx : -9223372036854775808 ≤ n) (_hx' : n ≤ 9223372036854775807) :
    Calls Tryd.prog 6 #[.int .i64 n, .string s, .bool milli] w fun e w' => e = .returned (.bool true) ∧ Below w.heap.size w w' := by
  have HT := Lib.hid ht
  clear ht
  unfold maxLen at hs
  have HB : Hid (Below w.heap.size w w) := Below.refl _ _
  go_enter Tryd.func6, Tryd.ntmps6
  go_wp2_with fail
  refine (works_any _ (HT.out.below HB.out)).mono ?_
  rintro e w1 ⟨rfl, hb⟩
  replace HB := Lib.hid (HB.out.trans (hb.mono HB.out.size))
  clear hb
  go_wp2_with fail
  refine (bring_any n _ _ (by omega) (by omega)).mono ?_
  rintro e w' ⟨rfl, rfl⟩
  have ha0 : 0 ≤ n % 1099511627777 := by omega
  have ha1 : n % 1099511627777 ≤ 1099511627776 := by omega
  generalize n % 1099511627777 = a at *
  obtain ⟨t1, hp1, hq1⟩ := back_print a milli ha0 ha1
  have Hp1 := Lib.hid hp1
  have Hq1 := Lib.hid hq1
  clear hp1 hq1
  go_wp2_with fail
  refine (print_is a milli _ t1 0 (HT.out.below HB.out) Hp1.out).mono ?_
  rintro e w2 ⟨rfl, hb⟩
  replace HB := Lib.hid (HB.out.trans (hb.mono HB.out.size))
  clear hb
  go_wp2_with fail
  refine (says_yes ⟨t1.toArray⟩ milli a _ Hq1.out).mono ?_
  rintro e w3 ⟨rfl, hb⟩
  replace HB := Lib.hid (HB.out.trans (hb.mono HB.out.size))
  clear hb
  have hr0 : 0 ≤ a % 1001 := by omega
  have hr1 : a % 1001 ≤ 1000 := by omega
  obtain ⟨t2, hp2, hq2⟩ := back_percent (a % 1001) hr0 hr1
  have Hp2 := Lib.hid hp2
  have Hq2 := Lib.hid hq2
  clear hp2 hq2
  go_wp2_with fail
  refine (pct_is (a % 1001) _ t2 0 (HT.out.below HB.out) Hp2.out).mono ?_
  rintro e w4 ⟨rfl, hb⟩
  replace HB := Lib.hid (HB.out.trans (hb.mono HB.out.size))
  clear hb
  go_wp2_with fail
  refine (percent_is ⟨t2.toArray⟩ _ (a % 1001) 0 0 Hq2.out).mono ?_
  rintro e w5 ⟨rfl, hb⟩
  replace HB := Lib.hid (HB.out.trans (hb.mono HB.out.size))
  clear hb
  have hne : (a % 1001 != a % 1001) = false := by simp
  obtain ⟨l, hl, hl1, hl2⟩ := cut_list s
  have Hl := Lib.hid hl
  clear hl
  rcases hq : parseL ⟨l.toArray⟩ milli with ⟨m, at0, e0⟩
  obtain ⟨r0, r1, r2, r3, r4⟩ := parse_range l milli m at0 e0 hq
  have Hq := Lib.hid hq
  have R4 := Lib.hid r4
  clear hq r4
  have r5 : at0 ≤ (s.size : Int) := by omega
  by_cases he : e0 = 0
  · subst he
    obtain ⟨t3, hp3, hq3⟩ := back_print m milli r2 r3
    have Hp3 := Lib.hid hp3
    have Hq3 := Lib.hid hq3
    clear hp3 hq3
    go_wp2_with fail
    rw [Hl.out]
    refine (parse_is ⟨l.toArray⟩ milli _ m at0 0 Hq.out).mono ?_
    rintro e w6 ⟨rfl, hb⟩
    replace HB := Lib.hid (HB.out.trans (hb.mono HB.out.size))
    clear hb
    go_wp2_with fail
    refine (print_is m milli _ t3 0 (HT.out.below HB.out) Hp3.out).mono ?_
    rintro e w7 ⟨rfl, hb⟩
    replace HB := Lib.hid (HB.out.trans (hb.mono HB.out.size))
    clear hb
    go_wp2_with fail
    refine (says_yes ⟨t3.toArray⟩ milli m _ Hq3.out).mono ?_
    rintro e w8 ⟨rfl, hb⟩
    replace HB := Lib.hid (HB.out.trans (hb.mono HB.out.size))
    clear hb
    go_wp2
    go_ret
    exact ⟨rfl, HB.out⟩
  · obtain rfl : m = 0 := R4.out he
    have heb : (e0 != 0) = true := by simpa using he
    have He := Lib.hid he
    clear he
    go_wp2_with fail
    rw [Hl.out]
    refine (parse_is ⟨l.toArray⟩ milli _ 0 at0 e0 Hq.out).mono ?_
    rintro e w6 ⟨rfl, hb⟩
    replace HB := Lib.hid (HB.out.trans (hb.mono HB.out.size))
    clear hb
    go_wp2
    go_ret
    exact ⟨rfl, HB.out⟩

end Go.Proofs.YtmhblnlbfhfegaaDoor
