/- What Minus, Times and Share answer of every two rows, or a row and a number: place by place, or the first error. Condition: they are ints. -/
import Derived.Test.YtgmecaaogmpakaaDoorVecClo
namespace Go.Proofs.YtgmecaaogmpakaaDoor
open Go.RowKit

def minusF (x y : Nat → Int) : Nat → Int × Int := fun k => subL (x k) (y k)
def timesF (x : Nat → Int) (m : Int) : Nat → Int × Int := fun k => mulL (x k) m
def shareF (x y : Nat → Int) : Nat → Int × Int := fun k => shareL (x k) (y k)

theorem run_func (fn : Fn) (first cap : Array Value) (w : World) : (Instr.makeFunc fn first cap).run Tryd.prog w = .ok (.func fn first cap) w := rfl
theorem alloc_size (w : World) (o : Obj) : (w.alloc o).heap.size = w.heap.size + 1 := by
  show (w.heap.push o).size = _
  simp
theorem below3 (w : World) (a b c : Obj) : Below w.heap.size w (((w.alloc a).alloc b).alloc c) := (below2 w a b).alloc (by rw [alloc_size, alloc_size]; omega) _
theorem new3 (w : World) (a b : Obj) (z : Nat → Int) : RowAt (((w.alloc a).alloc b).alloc (.cells #[.int .i64 (z 0), .int .i64 (z 1), .int .i64 (z 2), .int .i64 (z 3), .int .i64 (z 4)] 24)) (w.heap.size + 2) z := by
  have h := RowAt.new ((w.alloc a).alloc b) z
  rwa [alloc_size, alloc_size] at h

set_option maxRecDepth 100000 in
set_option maxHeartbeats 400000 in
theorem minus_any (x y : Nat → Int) (w : World) (ix : Ints x) (iy : Ints y) :
    Calls Tryd.prog 10 #[.agg #[.int .i64 (x 0), .int .i64 (x 1), .int .i64 (x 2), .int .i64 (x 3), .int .i64 (x 4)], .agg #[.int .i64 (y 0), .int .i64 (y 1), .int .i64 (y 2), .int .i64 (y 3), .int .i64 (y 4)]] w fun e w' => e = .returned (.tuple #[.agg #[.int .i64 (eachR (minusF x y) 0), .int .i64 (eachR (minusF x y) 1), .int .i64 (eachR (minusF x y) 2), .int .i64 (eachR (minusF x y) 3), .int .i64 (eachR (minusF x y) 4)], .int .i64 (firstE (minusF x y) 5)]) ∧ Below w.heap.size w w' := by
  have hmf := run_func
  go_enter Tryd.func10, Tryd.ntmps10
  go_wp2_with fail
  clear hmf
  have hx : RowAt (((w.alloc (.cells #[.int .i64 (x 0), .int .i64 (x 1), .int .i64 (x 2), .int .i64 (x 3), .int .i64 (x 4)] 24)).alloc (.cells #[.int .i64 (y 0), .int .i64 (y 1), .int .i64 (y 2), .int .i64 (y 3), .int .i64 (y 4)] 24)).alloc (.cells #[.int .i64 0, .int .i64 0, .int .i64 0, .int .i64 0, .int .i64 0] 24)) w.heap.size x := ((two_at w x y).1).alloc _
  have hy : RowAt (((w.alloc (.cells #[.int .i64 (x 0), .int .i64 (x 1), .int .i64 (x 2), .int .i64 (x 3), .int .i64 (x 4)] 24)).alloc (.cells #[.int .i64 (y 0), .int .i64 (y 1), .int .i64 (y 2), .int .i64 (y 3), .int .i64 (y 4)] 24)).alloc (.cells #[.int .i64 0, .int .i64 0, .int .i64 0, .int .i64 0, .int .i64 0] 24)) (w.heap.size + 1) y := ((two_at w x y).2).alloc _
  have hz : RowAt (((w.alloc (.cells #[.int .i64 (x 0), .int .i64 (x 1), .int .i64 (x 2), .int .i64 (x 3), .int .i64 (x 4)] 24)).alloc (.cells #[.int .i64 (y 0), .int .i64 (y 1), .int .i64 (y 2), .int .i64 (y 3), .int .i64 (y 4)] 24)).alloc (.cells #[.int .i64 0, .int .i64 0, .int .i64 0, .int .i64 0, .int .i64 0] 24)) (w.heap.size + 2) (fun _ => 0) := new3 w _ _ (fun _ => 0)
  have hb0 := below3 w (.cells #[.int .i64 (x 0), .int .i64 (x 1), .int .i64 (x 2), .int .i64 (x 3), .int .i64 (x 4)] 24) (.cells #[.int .i64 (y 0), .int .i64 (y 1), .int .i64 (y 2), .int .i64 (y 3), .int .i64 (y 4)] 24) (.cells #[.int .i64 0, .int .i64 0, .int .i64 0, .int .i64 0, .int .i64 0] 24)
  refine (each_any 33 _ _ (minusF x y) _ Tryd.call33 ?_).mono ?_
  · intro k hk w' hb
    exact minus_in x y k _ _ w' hk (hx.below hb hx.lt) (hy.below hb hy.lt) ix iy
  rintro e w1 ⟨rfl, hb⟩
  have Hz := Lib.hid (hz.below hb hz.lt)
  have HB := Lib.hid (hb0.trans (hb.mono hb0.size))
  clear hx hy hz hb0 hb
  go_wp2_with (refine wpList_store_row rfl 24 (.tmp 4) (.tmp 8) rfl (w.heap.size + 2) _ rfl rfl 24 _ Hz.out vec_size (by kernel_rfl) (by kernel_rfl) ?_)
  refine bodyPost_row2 Tryd.results10 (w.heap.size + 2) _ _ _ _ (.int .i64 (firstE (minusF x y) 5)) ?d1 ?p1 ?s1 (Hz.out.put (eachR (minusF x y))) Tryd.underlying24 rfl vec_size ?_
  case d1 => rfl
  case p1 => rfl
  case s1 => rfl
  exact ⟨rfl, below_setRow HB.out (by omega) _⟩

set_option maxRecDepth 100000 in
set_option maxHeartbeats 400000 in
theorem times_any (x : Nat → Int) (m : Int) (w : World) (ix : Ints x) (m0 : -9223372036854775808 ≤ m) (m1 : m ≤ 9223372036854775807) :
    Calls Tryd.prog 12 #[.agg #[.int .i64 (x 0), .int .i64 (x 1), .int .i64 (x 2), .int .i64 (x 3), .int .i64 (x 4)], .int .i64 m] w fun e w' => e = .returned (.tuple #[.agg #[.int .i64 (eachR (timesF x m) 0), .int .i64 (eachR (timesF x m) 1), .int .i64 (eachR (timesF x m) 2), .int .i64 (eachR (timesF x m) 3), .int .i64 (eachR (timesF x m) 4)], .int .i64 (firstE (timesF x m) 5)]) ∧ Below w.heap.size w w' := by
  have hmf := run_func
  go_enter Tryd.func12, Tryd.ntmps12
  go_wp2_with fail
  clear hmf
  have hx : RowAt (((w.alloc (.cells #[.int .i64 (x 0), .int .i64 (x 1), .int .i64 (x 2), .int .i64 (x 3), .int .i64 (x 4)] 24)).alloc (.cells #[.int .i64 m] 3)).alloc (.cells #[.int .i64 0, .int .i64 0, .int .i64 0, .int .i64 0, .int .i64 0] 24)) w.heap.size x := ((RowAt.new w x).alloc _).alloc _
  have hy : (((w.alloc (.cells #[.int .i64 (x 0), .int .i64 (x 1), .int .i64 (x 2), .int .i64 (x 3), .int .i64 (x 4)] 24)).alloc (.cells #[.int .i64 m] 3)).alloc (.cells #[.int .i64 0, .int .i64 0, .int .i64 0, .int .i64 0, .int .i64 0] 24)).cell? ⟨w.heap.size + 1, 0, none⟩ = some (.int .i64 m) := by simp [go_sem]
  have hs : w.heap.size + 1 < (((w.alloc (.cells #[.int .i64 (x 0), .int .i64 (x 1), .int .i64 (x 2), .int .i64 (x 3), .int .i64 (x 4)] 24)).alloc (.cells #[.int .i64 m] 3)).alloc (.cells #[.int .i64 0, .int .i64 0, .int .i64 0, .int .i64 0, .int .i64 0] 24)).heap.size := by rw [alloc_size, alloc_size, alloc_size]; omega
  have hz : RowAt (((w.alloc (.cells #[.int .i64 (x 0), .int .i64 (x 1), .int .i64 (x 2), .int .i64 (x 3), .int .i64 (x 4)] 24)).alloc (.cells #[.int .i64 m] 3)).alloc (.cells #[.int .i64 0, .int .i64 0, .int .i64 0, .int .i64 0, .int .i64 0] 24)) (w.heap.size + 2) (fun _ => 0) := new3 w _ _ (fun _ => 0)
  have hb0 := below3 w (.cells #[.int .i64 (x 0), .int .i64 (x 1), .int .i64 (x 2), .int .i64 (x 3), .int .i64 (x 4)] 24) (.cells #[.int .i64 m] 3) (.cells #[.int .i64 0, .int .i64 0, .int .i64 0, .int .i64 0, .int .i64 0] 24)
  refine (each_any 36 _ _ (timesF x m) _ Tryd.call36 ?_).mono ?_
  · intro k hk w' hb
    exact times_in x m k _ _ w' hk (hx.below hb hx.lt) (Nat.lt_of_lt_of_le hs hb.size) ((hb.cell (p := ⟨w.heap.size + 1, 0, none⟩) hs).trans hy) ix m0 m1
  rintro e w1 ⟨rfl, hb⟩
  have Hz := Lib.hid (hz.below hb hz.lt)
  have HB := Lib.hid (hb0.trans (hb.mono hb0.size))
  clear hx hy hz hb0 hb hs
  go_wp2_with (refine wpList_store_row rfl 24 (.tmp 4) (.tmp 8) rfl (w.heap.size + 2) _ rfl rfl 24 _ Hz.out vec_size (by kernel_rfl) (by kernel_rfl) ?_)
  refine bodyPost_row2 Tryd.results12 (w.heap.size + 2) _ _ _ _ (.int .i64 (firstE (timesF x m) 5)) ?d1 ?p1 ?s1 (Hz.out.put (eachR (timesF x m))) Tryd.underlying24 rfl vec_size ?_
  case d1 => rfl
  case p1 => rfl
  case s1 => rfl
  exact ⟨rfl, below_setRow HB.out (by omega) _⟩

/-- The greatest of a row, 0 at least. -/
def greatest (r : Nat → Int) : Nat → Int
  | 0 => 0
  | k + 1 => if greatest r k < r k then r k else greatest r k

set_option maxRecDepth 100000 in
set_option maxHeartbeats 400000 in
theorem vshare_any (x y : Nat → Int) (w : World) (ix : Ints x) (iy : Ints y) :
    Calls Tryd.prog 14 #[.agg #[.int .i64 (x 0), .int .i64 (x 1), .int .i64 (x 2), .int .i64 (x 3), .int .i64 (x 4)], .agg #[.int .i64 (y 0), .int .i64 (y 1), .int .i64 (y 2), .int .i64 (y 3), .int .i64 (y 4)]] w fun e w' => e = .returned (.tuple #[.int .i64 (greatest (eachR (shareF x y)) 5), .int .i64 (firstE (shareF x y) 5)]) ∧ Below w.heap.size w w' := by
  have hmf := run_func
  go_enter Tryd.func14, Tryd.ntmps14
  go_wp2_with fail
  clear hmf
  have hx := (two_at w x y).1
  have hy := (two_at w x y).2
  have hb0 := below2 w (.cells #[.int .i64 (x 0), .int .i64 (x 1), .int .i64 (x 2), .int .i64 (x 3), .int .i64 (x 4)] 24) (.cells #[.int .i64 (y 0), .int .i64 (y 1), .int .i64 (y 2), .int .i64 (y 3), .int .i64 (y 4)] 24)
  refine (each_any 39 _ _ (shareF x y) _ Tryd.call39 ?_).mono ?_
  · intro k hk w' hb
    exact share_in x y k _ _ w' hk (hx.below hb hx.lt) (hy.below hb hy.lt) ix iy
  rintro e w1 ⟨rfl, hb⟩
  have HB := Lib.hid (hb0.trans (hb.mono hb0.size))
  clear hx hy hb0 hb
  go_wp2
  go_loop [8, 17] (fun s i => ∃ k : Nat, k ≤ 5 ∧ i = .int .i64 k ∧ s = .int .i64 (greatest (eachR (shareF x y)) k)) (fun _ i => 5 - (intOf i).toNat)
  case atStart => exact ⟨0, by omega, rfl, rfl⟩
  case round =>
    obtain ⟨k, hk, rfl, rfl⟩ := hrel
    by_cases hlt : k < 5
    · have hi := fun w => idx_row (eachR (shareF x y)) k hlt w
      go_wp2
      go_round
      case rel => exact ⟨k + 1, by omega, by go_num, by rw [greatest]⟩
      case measure => simp [intOf]; omega
    · obtain rfl : k = 5 := by omega
      go_wp2
      go_ret2
      exact ⟨rfl, HB.out.alloc HB.out.size _⟩

end Go.Proofs.YtgmecaaogmpakaaDoor
