/- What the functions that Minus, Times and Share hand to eachPlace answer at each place. Conditions: the rows that they hold lie in memory, and hold ints. -/
import Derived.Test.YtgmecaaogmpakaaDoorVecEach
import Derived.Test.YtgmecaaogmpakaaDoorTo
import Derived.Deep.RegionHeld3
namespace Go.Proofs.YtgmecaaogmpakaaDoor
open Go.RowKit

set_option maxRecDepth 100000 in
set_option maxHeartbeats 400000 in
theorem minus_in (x y : Nat → Int) (k p q : Nat) (w : World) (hk : k < 5) (hx : RowAt w p x) (hy : RowAt w q y) (ix : Ints x) (iy : Ints y) :
    Calls Tryd.prog 33 #[.int .i64 (k : Int), .pointer (some ⟨p, 0, none⟩), .pointer (some ⟨q, 0, none⟩)] w fun e w' => e = .returned (.tuple #[.int .i64 (subL (x k) (y k)).1, .int .i64 (subL (x k) (y k)).2]) ∧ Below w.heap.size w w' := by
  obtain ⟨ix0, ix1⟩ := ix k hk
  obtain ⟨iy0, iy1⟩ := iy k hk
  have cx := hx.cell hk
  have cy := hy.cell hk
  have Hpx := Lib.hid hx.lt
  have Hpy := Lib.hid hy.lt
  clear hx hy ix iy
  have k0 : (0 : Int) ≤ (k : Int) := by omega
  have k1 : (k : Int) < 5 := by omega
  rcases hq : subL (x k) (y k) with ⟨n, e0⟩
  have Hq := Lib.hid hq
  clear hq
  go_enter Tryd.func33, Tryd.ntmps33
  go_wp2
  go_region_held3 (fun w' => w'.cell? ⟨p, k, none⟩ = some (.int .i64 (x k)) ∧ w'.cell? ⟨q, k, none⟩ = some (.int .i64 (y k))) (first | exact ⟨cx, cy⟩ | exact ⟨cx2, cy2⟩)
    (first | (go_at_call 34; refine (sub_to (x k) (y k) n e0 _ ix0 ix1 iy0 iy1 Hq.out).mono ?_; rintro e w2 ⟨rfl, hb2⟩; have cx2 := (hb2.cell (p := ⟨p, k, none⟩) Hpx.out).trans cx; have cy2 := (hb2.cell (p := ⟨q, k, none⟩) Hpy.out).trans cy; have HB2 := Lib.hid hb2; clear hb2))
  go_wp2
  go_ret2
  exact ⟨rfl, ((Below.refl _ w).drew).trans HB2.out⟩

set_option maxRecDepth 100000 in
set_option maxHeartbeats 400000 in
theorem share_in (x y : Nat → Int) (k p q : Nat) (w : World) (hk : k < 5) (hx : RowAt w p x) (hy : RowAt w q y) (ix : Ints x) (iy : Ints y) :
    Calls Tryd.prog 39 #[.int .i64 (k : Int), .pointer (some ⟨p, 0, none⟩), .pointer (some ⟨q, 0, none⟩)] w fun e w' => e = .returned (.tuple #[.int .i64 (shareL (x k) (y k)).1, .int .i64 (shareL (x k) (y k)).2]) ∧ Below w.heap.size w w' := by
  obtain ⟨ix0, ix1⟩ := ix k hk
  obtain ⟨iy0, iy1⟩ := iy k hk
  have cx := hx.cell hk
  have cy := hy.cell hk
  have Hpx := Lib.hid hx.lt
  have Hpy := Lib.hid hy.lt
  clear hx hy ix iy
  have k0 : (0 : Int) ≤ (k : Int) := by omega
  have k1 : (k : Int) < 5 := by omega
  rcases hq : shareL (x k) (y k) with ⟨n, e0⟩
  have Hq := Lib.hid hq
  clear hq
  go_enter Tryd.func39, Tryd.ntmps39
  go_wp2
  go_region_held3 (fun w' => w'.cell? ⟨p, k, none⟩ = some (.int .i64 (x k)) ∧ w'.cell? ⟨q, k, none⟩ = some (.int .i64 (y k))) (first | exact ⟨cx, cy⟩ | exact ⟨cx2, cy2⟩)
    (first | (go_at_call 40; refine (share_to (x k) (y k) n e0 _ ix0 ix1 iy0 iy1 Hq.out).mono ?_; rintro e w2 ⟨rfl, hb2⟩; have cx2 := (hb2.cell (p := ⟨p, k, none⟩) Hpx.out).trans cx; have cy2 := (hb2.cell (p := ⟨q, k, none⟩) Hpy.out).trans cy; have HB2 := Lib.hid hb2; clear hb2))
  go_wp2
  go_ret2
  exact ⟨rfl, ((Below.refl _ w).drew).trans HB2.out⟩

set_option maxRecDepth 100000 in
set_option maxHeartbeats 400000 in
theorem times_in (x : Nat → Int) (m : Int) (k p q : Nat) (w : World) (hk : k < 5) (hx : RowAt w p x) (hq : q < w.heap.size) (cy : w.cell? ⟨q, 0, none⟩ = some (.int .i64 m)) (ix : Ints x) (iy0 : -9223372036854775808 ≤ m) (iy1 : m ≤ 9223372036854775807) :
    Calls Tryd.prog 36 #[.int .i64 (k : Int), .pointer (some ⟨p, 0, none⟩), .pointer (some ⟨q, 0, none⟩)] w fun e w' => e = .returned (.tuple #[.int .i64 (mulL (x k) m).1, .int .i64 (mulL (x k) m).2]) ∧ Below w.heap.size w w' := by
  obtain ⟨ix0, ix1⟩ := ix k hk
  have cx := hx.cell hk
  have Hpx := Lib.hid hx.lt
  have Hpy := Lib.hid hq
  clear hx hq ix
  have k0 : (0 : Int) ≤ (k : Int) := by omega
  have k1 : (k : Int) < 5 := by omega
  rcases hq : mulL (x k) m with ⟨n, e0⟩
  have Hq := Lib.hid hq
  clear hq
  go_enter Tryd.func36, Tryd.ntmps36
  go_wp2
  go_region_held3 (fun w' => w'.cell? ⟨p, k, none⟩ = some (.int .i64 (x k)) ∧ w'.cell? ⟨q, 0, none⟩ = some (.int .i64 m)) (first | exact ⟨cx, cy⟩ | exact ⟨cx2, cy2⟩)
    (first | (go_at_call 37; refine (mul_to (x k) m n e0 _ ix0 ix1 iy0 iy1 Hq.out).mono ?_; rintro e w2 ⟨rfl, hb2⟩; have cx2 := (hb2.cell (p := ⟨p, k, none⟩) Hpx.out).trans cx; have cy2 := (hb2.cell (p := ⟨q, 0, none⟩) Hpy.out).trans cy; have HB2 := Lib.hid hb2; clear hb2))
  go_wp2
  go_ret2
  exact ⟨rfl, ((Below.refl _ w).drew).trans HB2.out⟩

end Go.Proofs.YtgmecaaogmpakaaDoor
