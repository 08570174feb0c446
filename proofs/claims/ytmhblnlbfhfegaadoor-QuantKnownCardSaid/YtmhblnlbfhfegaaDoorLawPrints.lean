/- Print and PrintPercent answer as the chapter says, of all numbers: the walk. Condition: the library's table of powers of ten lies as it was laid. -/
import Derived.Test.YtmhblnlbfhfegaaDoorRefPrint
import Derived.Test.YtmhblnlbfhfegaaDoorWorks
namespace Go.Proofs.YtmhblnlbfhfegaaDoor
open Go.RowKit

theorem rprint_is (n : Int) (milli : Bool) (w : World) (t : List UInt8) (e0 : Int) (ht : Tab w) (h : printL n milli = (t, e0)) :
    Calls Tryd.prog 17 #[.int .i64 n, .bool milli] w fun e w' => e = .returned (.tuple #[.string ⟨t.toArray⟩, .int .i64 e0]) ∧ Below w.heap.size w w' := by
  have k := rprint_any n milli w ht
  rw [h] at k
  exact k
theorem rpct_is (n : Int) (w : World) (t : List UInt8) (e0 : Int) (ht : Tab w) (h : pctL n = (t, e0)) :
    Calls Tryd.prog 19 #[.int .i64 n] w fun e w' => e = .returned (.tuple #[.string ⟨t.toArray⟩, .int .i64 e0]) ∧ Below w.heap.size w w' := by
  have k := rprintPercent_any n w ht
  rw [h] at k
  exact k

set_option maxRecDepth 100000 in
set_option maxHeartbeats 2000000 in
theorem prints_law (n : Int) (milli : Bool) (w : World) (ht : Tab w) (_hx : -9223372036854775808 ≤ n) (_hx' : n ≤ 9223372036854775807) :
    Calls Tryd.prog 4 #[.int .i64 n, .bool milli] w fun e w' => e = .returned (.bool true) ∧ Below w.heap.size w w' := by
  have HT := Lib.hid ht
  clear ht
  have HB : Hid (Below w.heap.size w w) := Below.refl _ _
  rcases h1 : printL n milli with ⟨t1, e1⟩
  rcases h2 : pctL n with ⟨t2, e2⟩
  have H1 := Lib.hid h1
  have H2 := Lib.hid h2
  clear h1 h2
  go_enter Tryd.func4, Tryd.ntmps4
  go_wp2_with fail
  refine (print_is n milli _ t1 e1 (HT.out.below HB.out) H1.out).mono ?_
  rintro e w1 ⟨rfl, hb⟩
  replace HB := Lib.hid (HB.out.trans (hb.mono HB.out.size))
  clear hb
  go_wp2_with fail
  refine (rprint_is n milli _ t1 e1 (HT.out.below HB.out) H1.out).mono ?_
  rintro e w2 ⟨rfl, hb⟩
  replace HB := Lib.hid (HB.out.trans (hb.mono HB.out.size))
  clear hb
  go_wp2_with fail
  refine (pct_is n _ t2 e2 (HT.out.below HB.out) H2.out).mono ?_
  rintro e w3 ⟨rfl, hb⟩
  replace HB := Lib.hid (HB.out.trans (hb.mono HB.out.size))
  clear hb
  go_wp2_with fail
  refine (rpct_is n _ t2 e2 (HT.out.below HB.out) H2.out).mono ?_
  rintro e w4 ⟨rfl, hb⟩
  replace HB := Lib.hid (HB.out.trans (hb.mono HB.out.size))
  clear hb
  go_wp2_with fail
  refine (works_any _ (HT.out.below HB.out)).mono ?_
  rintro e w5 ⟨rfl, hb⟩
  replace HB := Lib.hid (HB.out.trans (hb.mono HB.out.size))
  clear hb
  go_wp2
  go_ret
  exact ⟨rfl, HB.out⟩

end Go.Proofs.YtmhblnlbfhfegaaDoor
