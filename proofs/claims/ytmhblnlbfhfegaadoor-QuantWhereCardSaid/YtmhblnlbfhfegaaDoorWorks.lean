/- The chapter's quantities come out as the chapter says: the examples that every law asks. Condition: the library's table of powers of ten lies as it was laid. -/
import Derived.Test.YtmhblnlbfhfegaaDoorParse
import Derived.Test.YtmhblnlbfhfegaaDoorPrint
import Derived.Test.YtmhblnlbfhfegaaDoorReckon
namespace Go.Proofs.YtmhblnlbfhfegaaDoor
open Go.RowKit

theorem parse_is (s : ByteArray) (milli : Bool) (w : World) (n a e0 : Int) (h : parseL s milli = (n, a, e0)) :
    Calls Tryd.prog 11 #[.string s, .bool milli] w fun e w' => e = .returned (.tuple #[.int .i64 n, .int .i64 a, .int .i64 e0]) ∧ Below w.heap.size w w' := by
  have k := parse_any s milli w
  rw [h] at k
  exact k
theorem percent_is (s : ByteArray) (w : World) (n a e0 : Int) (h : percentL s = (n, a, e0)) :
    Calls Tryd.prog 13 #[.string s] w fun e w' => e = .returned (.tuple #[.int .i64 n, .int .i64 a, .int .i64 e0]) ∧ Below w.heap.size w w' := by
  have k := percent_any s w
  rw [h] at k
  exact k
theorem print_is (n : Int) (milli : Bool) (w : World) (t : List UInt8) (e0 : Int) (ht : Tab w) (h : printL n milli = (t, e0)) :
    Calls Tryd.prog 16 #[.int .i64 n, .bool milli] w fun e w' => e = .returned (.tuple #[.string ⟨t.toArray⟩, .int .i64 e0]) ∧ Below w.heap.size w w' := by
  have k := print_any n milli w ht
  rw [h] at k
  exact k
theorem pct_is (n : Int) (w : World) (t : List UInt8) (e0 : Int) (ht : Tab w) (h : pctL n = (t, e0)) :
    Calls Tryd.prog 18 #[.int .i64 n] w fun e w' => e = .returned (.tuple #[.string ⟨t.toArray⟩, .int .i64 e0]) ∧ Below w.heap.size w w' := by
  have k := printPercent_any n w ht
  rw [h] at k
  exact k

set_option maxHeartbeats 400000 in
theorem says_yes (s : ByteArray) (milli : Bool) (n : Int) (w : World) (h : parseL s milli = (n, 0, 0)) :
    Calls Tryd.prog 29 #[.string s, .bool milli, .int .i64 n] w fun e w' => e = .returned (.bool true) ∧ Below w.heap.size w w' := by
  have H := Lib.hid h
  clear h
  have hb : (n == n) = true := by simp
  go_enter Tryd.func29, Tryd.ntmps29
  go_wp2_with fail
  refine (parse_is s milli _ n 0 0 H.out).mono ?_
  rintro e w' ⟨rfl, hb⟩
  have Hb := Lib.hid hb
  clear hb
  go_wp2
  go_ret
  exact ⟨rfl, Hb.out⟩

set_option maxHeartbeats 400000 in
theorem wrong_yes (s : ByteArray) (a e0 : Int) (w : World) (h : parseL s false = (0, a, e0)) :
    Calls Tryd.prog 40 #[.string s, .int .i64 a, .int .i64 e0] w fun e w' => e = .returned (.bool true) ∧ Below w.heap.size w w' := by
  have H := Lib.hid h
  clear h
  have h1 : (a == a) = true := by simp
  have h2 : (e0 == e0) = true := by simp
  go_enter Tryd.func40, Tryd.ntmps40
  go_wp2_with fail
  refine (parse_is s false _ 0 a e0 H.out).mono ?_
  rintro e w' ⟨rfl, hb⟩
  have Hb := Lib.hid hb
  clear hb
  go_wp2
  go_ret
  exact ⟨rfl, Hb.out⟩

set_option maxHeartbeats 400000 in
theorem prints_yes (n : Int) (milli : Bool) (t : List UInt8) (w : World) (ht : Tab w) (h : printL n milli = (t, 0)) :
    Calls Tryd.prog 41 #[.int .i64 n, .bool milli, .string ⟨t.toArray⟩] w fun e w' => e = .returned (.bool true) ∧ Below w.heap.size w w' := by
  have H := Lib.hid h
  have Ht := Lib.hid ht
  clear h ht
  go_enter Tryd.func41, Tryd.ntmps41
  go_wp2_with fail
  refine (print_is n milli _ t 0 Ht.out H.out).mono ?_
  rintro e w' ⟨rfl, hb⟩
  have Hb := Lib.hid hb
  clear hb
  go_wp2
  go_ret
  exact ⟨rfl, Hb.out⟩

theorem x1 : parseL ⟨#[49, 46, 53]⟩ true = (1500, 0, 0) := by decide +kernel
theorem x2 : parseL ⟨#[53, 48, 48, 109]⟩ true = (500, 0, 0) := by decide +kernel
theorem x3 : parseL ⟨#[50, 71, 105]⟩ false = (2147483648, 0, 0) := by decide +kernel
theorem x4 : parseL ⟨#[49, 46, 53, 107]⟩ false = (1500, 0, 0) := by decide +kernel
theorem x5 : parseL ⟨#[49, 46, 53]⟩ false = (0, 0, 4) := by decide +kernel
theorem x6 : parseL ⟨#[48, 55]⟩ false = (0, 1, 4) := by decide +kernel
theorem x7 : parseL ⟨#[49, 46]⟩ false = (0, 2, 3) := by decide +kernel
theorem x8 : parseL ⟨#[50, 120]⟩ false = (0, 1, 4) := by decide +kernel
theorem x9 : parseL ⟨#[53, 195, 169]⟩ false = (0, 1, 4) := by decide +kernel
theorem x10 : parseL ⟨#[]⟩ false = (0, 0, 3) := by decide +kernel
theorem x11 : parseL ⟨#[49, 48, 50, 53, 71, 105]⟩ false = (0, 0, 10) := by decide +kernel
theorem y1 : percentL ⟨#[56, 53, 46, 53, 37]⟩ = (855, 0, 0) := by decide +kernel
theorem y2 : percentL ⟨#[56, 53]⟩ = (0, 2, 3) := by decide +kernel
theorem y3 : percentL ⟨#[49, 48, 49, 37]⟩ = (0, 0, 10) := by decide +kernel
theorem z1 : printL 1500 true = ([49, 53, 48, 48, 109], 0) := by simp [printL, milliL, dec, Lib.decDigits]
theorem z2 : printL 3072 false = ([51, 75, 105], 0) := by simp [printL, wholeL, dec, Lib.decDigits]
theorem z3 : printL 0 false = ([48], 0) := by simp [printL, wholeL]
theorem z4 : pctL 855 = ([56, 53, 46, 53, 37], 0) := by simp [pctL, dec, Lib.decDigits]

theorem share_is (a b n e0 : Int) (w : World) (hr : 0 ≤ a ∧ a ≤ 9223372036854775807 ∧ 0 ≤ b ∧ b ≤ 9223372036854775807) (h : shareL a b = (n, e0)) :
    Calls Tryd.prog 26 #[.int .i64 a, .int .i64 b] w fun e w' => e = .returned (.tuple #[.int .i64 n, .int .i64 e0]) ∧ Below w.heap.size w w' := by
  have k := share_any a b w (by omega) (by omega) (by omega) (by omega)
  rw [h] at k
  exact k
theorem sub_is (a b n e0 : Int) (w : World) (hr : 0 ≤ a ∧ a ≤ 9223372036854775807 ∧ 0 ≤ b ∧ b ≤ 9223372036854775807) (h : subL a b = (n, e0)) :
    Calls Tryd.prog 22 #[.int .i64 a, .int .i64 b] w fun e w' => e = .returned (.tuple #[.int .i64 n, .int .i64 e0]) ∧ Below w.heap.size w w' := by
  have k := sub_any a b w (by omega) (by omega) (by omega) (by omega)
  rw [h] at k
  exact k
theorem mul_is (a b n e0 : Int) (w : World) (hr : 0 ≤ a ∧ a ≤ 9223372036854775807 ∧ 0 ≤ b ∧ b ≤ 9223372036854775807) (h : mulL a b = (n, e0)) :
    Calls Tryd.prog 24 #[.int .i64 a, .int .i64 b] w fun e w' => e = .returned (.tuple #[.int .i64 n, .int .i64 e0]) ∧ Below w.heap.size w w' := by
  have k := mul_any a b w (by omega) (by omega) (by omega) (by omega)
  rw [h] at k
  exact k

set_option maxRecDepth 100000 in
set_option maxHeartbeats 4000000 in
theorem works_any (w : World) (ht : Tab w) :
    Calls Tryd.prog 15 #[] w fun e w' => e = .returned (.bool true) ∧ Below w.heap.size w w' := by
  have HT := Lib.hid ht
  clear ht
  have HB : Hid (Below w.heap.size w w) := Below.refl _ _
  go_enter Tryd.func15, Tryd.ntmps15
  go_wp2_with fail
  refine (says_yes _ _ _ _ x1).mono ?_
  rintro e w1 ⟨rfl, hb⟩
  replace HB := Lib.hid (HB.out.trans (hb.mono HB.out.size))
  clear hb
  go_wp2_with fail
  refine (says_yes _ _ _ _ x2).mono ?_
  rintro e w2 ⟨rfl, hb⟩
  replace HB := Lib.hid (HB.out.trans (hb.mono HB.out.size))
  clear hb
  go_wp2_with fail
  refine (says_yes _ _ _ _ x3).mono ?_
  rintro e w3 ⟨rfl, hb⟩
  replace HB := Lib.hid (HB.out.trans (hb.mono HB.out.size))
  clear hb
  go_wp2_with fail
  refine (says_yes _ _ _ _ x4).mono ?_
  rintro e w4 ⟨rfl, hb⟩
  replace HB := Lib.hid (HB.out.trans (hb.mono HB.out.size))
  clear hb
  go_wp2_with fail
  refine (wrong_yes _ _ _ _ x5).mono ?_
  rintro e w5 ⟨rfl, hb⟩
  replace HB := Lib.hid (HB.out.trans (hb.mono HB.out.size))
  clear hb
  go_wp2_with fail
  refine (wrong_yes _ _ _ _ x6).mono ?_
  rintro e w6 ⟨rfl, hb⟩
  replace HB := Lib.hid (HB.out.trans (hb.mono HB.out.size))
  clear hb
  go_wp2_with fail
  refine (wrong_yes _ _ _ _ x7).mono ?_
  rintro e w7 ⟨rfl, hb⟩
  replace HB := Lib.hid (HB.out.trans (hb.mono HB.out.size))
  clear hb
  go_wp2_with fail
  refine (wrong_yes _ _ _ _ x8).mono ?_
  rintro e w8 ⟨rfl, hb⟩
  replace HB := Lib.hid (HB.out.trans (hb.mono HB.out.size))
  clear hb
  go_wp2_with fail
  refine (wrong_yes _ _ _ _ x9).mono ?_
  rintro e w9 ⟨rfl, hb⟩
  replace HB := Lib.hid (HB.out.trans (hb.mono HB.out.size))
  clear hb
  go_wp2_with fail
  refine (wrong_yes _ _ _ _ x10).mono ?_
  rintro e w10 ⟨rfl, hb⟩
  replace HB := Lib.hid (HB.out.trans (hb.mono HB.out.size))
  clear hb
  go_wp2_with fail
  refine (wrong_yes _ _ _ _ x11).mono ?_
  rintro e w11 ⟨rfl, hb⟩
  replace HB := Lib.hid (HB.out.trans (hb.mono HB.out.size))
  clear hb
  go_wp2_with fail
  refine (percent_is _ _ _ _ _ y1).mono ?_
  rintro e w12 ⟨rfl, hb⟩
  replace HB := Lib.hid (HB.out.trans (hb.mono HB.out.size))
  clear hb
  go_wp2_with fail
  refine (percent_is _ _ _ _ _ y2).mono ?_
  rintro e w13 ⟨rfl, hb⟩
  replace HB := Lib.hid (HB.out.trans (hb.mono HB.out.size))
  clear hb
  go_wp2_with fail
  refine (percent_is _ _ _ _ _ y3).mono ?_
  rintro e w14 ⟨rfl, hb⟩
  replace HB := Lib.hid (HB.out.trans (hb.mono HB.out.size))
  clear hb
  go_wp2_with fail
  refine (pct_is 855 _ _ _ (HT.out.below HB.out) z4).mono ?_
  rintro e w15 ⟨rfl, hb⟩
  replace HB := Lib.hid (HB.out.trans (hb.mono HB.out.size))
  clear hb
  go_wp2_with fail
  refine (prints_yes 1500 true _ _ (HT.out.below HB.out) z1).mono ?_
  rintro e w16 ⟨rfl, hb⟩
  replace HB := Lib.hid (HB.out.trans (hb.mono HB.out.size))
  clear hb
  go_wp2_with fail
  refine (prints_yes 3072 false _ _ (HT.out.below HB.out) z2).mono ?_
  rintro e w17 ⟨rfl, hb⟩
  replace HB := Lib.hid (HB.out.trans (hb.mono HB.out.size))
  clear hb
  go_wp2_with fail
  refine (prints_yes 0 false _ _ (HT.out.below HB.out) z3).mono ?_
  rintro e w18 ⟨rfl, hb⟩
  replace HB := Lib.hid (HB.out.trans (hb.mono HB.out.size))
  clear hb
  go_wp2_with fail
  refine (share_is 1 3 333 0 _ (by decide) (by decide)).mono ?_
  rintro e w19 ⟨rfl, hb⟩
  replace HB := Lib.hid (HB.out.trans (hb.mono HB.out.size))
  clear hb
  go_wp2_with fail
  refine (share_is 0 0 0 0 _ (by decide) (by decide)).mono ?_
  rintro e w20 ⟨rfl, hb⟩
  replace HB := Lib.hid (HB.out.trans (hb.mono HB.out.size))
  clear hb
  go_wp2_with fail
  refine (share_is 1 0 0 2 _ (by decide) (by decide)).mono ?_
  rintro e w21 ⟨rfl, hb⟩
  replace HB := Lib.hid (HB.out.trans (hb.mono HB.out.size))
  clear hb
  go_wp2_with fail
  refine (sub_is 2 3 0 2 _ (by decide) (by decide)).mono ?_
  rintro e w22 ⟨rfl, hb⟩
  replace HB := Lib.hid (HB.out.trans (hb.mono HB.out.size))
  clear hb
  go_wp2_with fail
  refine (mul_is 1048576 2097152 0 10 _ (by decide) (by decide)).mono ?_
  rintro e w23 ⟨rfl, hb⟩
  replace HB := Lib.hid (HB.out.trans (hb.mono HB.out.size))
  clear hb
  go_wp2
  go_ret
  exact ⟨rfl, HB.out⟩

end Go.Proofs.YtmhblnlbfhfegaaDoor
