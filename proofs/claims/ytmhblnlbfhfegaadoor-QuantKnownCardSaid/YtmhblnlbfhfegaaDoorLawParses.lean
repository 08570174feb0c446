/- Parse and Percent answer as the chapter says, of all texts: the walk. Condition: the library's table of powers of ten lies as it was laid. -/
import Derived.Test.YtmhblnlbfhfegaaDoorRefPercent
import Derived.Test.YtmhblnlbfhfegaaDoorLawBack
namespace Go.Proofs.YtmhblnlbfhfegaaDoor
open Go.RowKit

theorem rparse_is (s : ByteArray) (milli : Bool) (w : World) (hs : s.size ≤ 100) (n a e0 : Int) (h : parseL s milli = (n, a, e0)) :
    Calls Tryd.prog 12 #[.string s, .bool milli] w fun e w' => e = .returned (.tuple #[.int .i64 n, .int .i64 a, .int .i64 e0]) ∧ Below w.heap.size w w' := by
  have k := rparse_any s milli w hs
  rw [h] at k
  exact k
theorem rpercent_is (s : ByteArray) (w : World) (hs : s.size ≤ 100) (n a e0 : Int) (h : percentL s = (n, a, e0)) :
    Calls Tryd.prog 14 #[.string s] w fun e w' => e = .returned (.tuple #[.int .i64 n, .int .i64 a, .int .i64 e0]) ∧ w = w' := by
  have k := rpercent_any s w hs
  rw [h] at k
  exact k

set_option maxRecDepth 100000 in
set_option maxHeartbeats 2000000 in
theorem parses_any (s : ByteArray) (milli : Bool) (w : World) (hs : s.size ≤ maxLen) (ht : Tab w) :
    Calls Tryd.prog 3 #[.string s, .bool milli] w fun e w' => e = .returned (.bool true) ∧ Below w.heap.size w w' := by
  have HT := Lib.hid ht
  clear ht
  unfold maxLen at hs
  have HB : Hid (Below w.heap.size w w) := Below.refl _ _
  obtain ⟨l, hl, hl1, hl2⟩ := cut_list s
  have Hl := Lib.hid hl
  have hsz : (⟨l.toArray⟩ : ByteArray).size ≤ 100 := by rw [size_l]; exact hl2
  have Hsz := Lib.hid hsz
  clear hl hsz
  rcases h1 : parseL ⟨l.toArray⟩ milli with ⟨a1, a2, a3⟩
  rcases h2 : percentL ⟨l.toArray⟩ with ⟨b1, b2, b3⟩
  have H1 := Lib.hid h1
  have H2 := Lib.hid h2
  clear h1 h2
  go_enter Tryd.func3, Tryd.ntmps3
  go_wp2_with fail
  rw [Hl.out]
  refine (parse_is ⟨l.toArray⟩ milli _ a1 a2 a3 H1.out).mono ?_
  rintro e w1 ⟨rfl, hb⟩
  replace HB := Lib.hid (HB.out.trans (hb.mono HB.out.size))
  clear hb
  go_wp2_with fail
  refine (rparse_is ⟨l.toArray⟩ milli _ Hsz.out a1 a2 a3 H1.out).mono ?_
  rintro e w2 ⟨rfl, hb⟩
  replace HB := Lib.hid (HB.out.trans (hb.mono HB.out.size))
  clear hb
  go_wp2_with fail
  refine (percent_is ⟨l.toArray⟩ _ b1 b2 b3 H2.out).mono ?_
  rintro e w3 ⟨rfl, hb⟩
  replace HB := Lib.hid (HB.out.trans (hb.mono HB.out.size))
  clear hb
  go_wp2_with fail
  refine (rpercent_is ⟨l.toArray⟩ _ Hsz.out b1 b2 b3 H2.out).mono ?_
  rintro e w4 ⟨rfl, rfl⟩
  go_wp2_with fail
  refine (works_any _ (HT.out.below HB.out)).mono ?_
  rintro e w5 ⟨rfl, hb⟩
  replace HB := Lib.hid (HB.out.trans (hb.mono HB.out.size))
  clear hb
  go_wp2
  go_ret
  exact ⟨rfl, HB.out⟩

end Go.Proofs.YtmhblnlbfhfegaaDoor
