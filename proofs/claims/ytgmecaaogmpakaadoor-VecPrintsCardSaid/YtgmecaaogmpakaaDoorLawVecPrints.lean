/- Print answers as the chapter says, of all rows: the walk. Conditions: the names of the places, and the library's table of powers of ten, lie as they were laid. -/
import Derived.Test.YtgmecaaogmpakaaDoorVecWorks
import Derived.Test.YtgmecaaogmpakaaDoorVecRPrint
namespace Go.Proofs.YtgmecaaogmpakaaDoor
open Go.RowKit

set_option maxRecDepth 100000 in
set_option maxHeartbeats 1000000 in
theorem vecPrints_any (x : Nat → Int) (w : World) (hn : NamesAt w) (ht : Tab w) :
    Calls Tryd.prog 4 #[.agg #[.int .i64 (x 0), .int .i64 (x 1), .int .i64 (x 2), .int .i64 (x 3), .int .i64 (x 4)]] w fun e w' => e = .returned (.bool true) ∧ Below w.heap.size w w' := by
  have HN := Lib.hid hn
  have HT := Lib.hid ht
  clear hn ht
  rcases hp : printV x with ⟨t, e0⟩
  have Hp := Lib.hid hp
  clear hp
  have h1 : (t == t) = true := by simp
  have h2 : (e0 == e0) = true := by simp
  go_enter Tryd.func4, Tryd.ntmps4
  go_wp2_with fail
  have HB := Lib.hid (below1 w (.cells #[.int .i64 (x 0), .int .i64 (x 1), .int .i64 (x 2), .int .i64 (x 3), .int .i64 (x 4)] 24))
  have HR := Lib.hid (RowAt.new w x)
  refine (vprint_is x _ t e0 (HN.out.below HB.out) (HT.out.below HB.out) Hp.out).mono ?_
  rintro e w1 ⟨rfl, hb⟩
  replace HR := Lib.hid (RowAt.below HR.out hb HR.out.lt)
  replace HB := Lib.hid (HB.out.trans (hb.mono HB.out.size))
  clear hb
  go_wp2_with (refine wpList_load_row rfl 24 (.tmp 1) rfl w.heap.size rfl 24 _ (0, 0) _ HR.out Tryd.underlying24 rfl vec_size ?_)
  refine (rvprint_is x _ t e0 (HT.out.below HB.out) Hp.out).mono ?_
  rintro e w2 ⟨rfl, hb⟩
  replace HB := Lib.hid (HB.out.trans (hb.mono HB.out.size))
  clear hb HR
  go_wp2_with fail
  refine (worksV_any _ (HN.out.below HB.out) (HT.out.below HB.out)).mono ?_
  rintro e w3 ⟨rfl, hb⟩
  replace HB := Lib.hid (HB.out.trans (hb.mono HB.out.size))
  clear hb
  go_wp2
  go_ret
  exact ⟨rfl, HB.out⟩

end Go.Proofs.YtgmecaaogmpakaaDoor
