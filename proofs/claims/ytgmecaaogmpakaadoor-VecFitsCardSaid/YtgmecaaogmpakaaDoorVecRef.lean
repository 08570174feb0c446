/- What the document's Minus, Times and Share answer of every two rows, or a row and a number: place by place, or the first error. Condition: they are ints. -/
import Derived.Test.YtgmecaaogmpakaaDoorVecMinus
namespace Go.Proofs.YtgmecaaogmpakaaDoor
open Go.RowKit

theorem RowAt.drew {w : World} {b : Nat} {x : Nat → Int} (h : RowAt w b x) : RowAt w.drew b x := h

/-- A row of which the first k are reckoned. -/
def part (f : Nat → Int × Int) (x : Nat → Int) (k : Nat) : Nat → Int := fun j => if j < k then (f j).1 else x j
theorem part_zero (f : Nat → Int × Int) (x : Nat → Int) : part f x 0 = x := by
  funext j
  simp [part]
theorem part_at (f : Nat → Int × Int) (x : Nat → Int) (k : Nat) : part f x k k = x k := by simp [part]
theorem part_succ {f : Nat → Int × Int} {x : Nat → Int} {k : Nat} {n : Int} (h : (f k).1 = n) : part f x (k + 1) = upd (part f x k) k n := by
  funext j
  unfold part upd
  by_cases hj : j = k
  · subst hj; simp [h]
  · by_cases hj2 : j < k
    · simp [hj, hj2, show j < k + 1 by omega]
    · simp [hj, hj2, show ¬ j < k + 1 by omega]

set_option maxRecDepth 100000 in
set_option maxHeartbeats 1000000 in
theorem rminus_any (x y : Nat → Int) (w : World) (ix : Ints x) (iy : Ints y) :
    Calls Tryd.prog 11 #[.agg #[.int .i64 (x 0), .int .i64 (x 1), .int .i64 (x 2), .int .i64 (x 3), .int .i64 (x 4)], .agg #[.int .i64 (y 0), .int .i64 (y 1), .int .i64 (y 2), .int .i64 (y 3), .int .i64 (y 4)]] w fun e w' => e = .returned (.tuple #[.agg #[.int .i64 (eachR (minusF x y) 0), .int .i64 (eachR (minusF x y) 1), .int .i64 (eachR (minusF x y) 2), .int .i64 (eachR (minusF x y) 3), .int .i64 (eachR (minusF x y) 4)], .int .i64 (firstE (minusF x y) 5)]) ∧ Below w.heap.size w w' := by
  go_enter Tryd.func11, Tryd.ntmps11
  go_wp2
  go_loopw [6] (fun i wr => ∃ k : Nat, k ≤ 5 ∧ i = .int .i64 k ∧ (∀ j, j < k → (minusF x y j).2 = 0) ∧ RowAt wr w.heap.size (part (minusF x y) x k) ∧ RowAt wr (w.heap.size + 1) y ∧ RowAt wr (w.heap.size + 2) (fun _ => 0) ∧ Below w.heap.size w wr) (fun i _ => 5 - (intOf i).toNat)
  case atStart => exact ⟨0, by omega, rfl, by omega, by rw [part_zero]; exact ((two_at w x y).1).alloc _, ((two_at w x y).2).alloc _, new3 w _ _ (fun _ => 0), below3 w _ _ _⟩
  case round =>
    obtain ⟨k, hk, rfl, hall, hx, hy, hz, hb⟩ := hrel
    have Hall := Lib.hid hall
    have Hx := Lib.hid hx
    have Hy := Lib.hid hy
    have Hz := Lib.hid hz
    have HB := Lib.hid hb
    clear hall hx hy hz hb
    by_cases hlt : k < 5
    · obtain ⟨ix0, ix1⟩ := ix k hlt
      obtain ⟨iy0, iy1⟩ := iy k hlt
      have cx := Hx.out.cell hlt
      rw [part_at] at cx
      have cy := Hy.out.cell hlt
      have Hpx := Lib.hid Hx.out.lt
      have Hpy := Lib.hid Hy.out.lt
      have Hix := Lib.hid ix
      have Hiy := Lib.hid iy
      clear ix iy
      have k0 : (0 : Int) ≤ (k : Int) := by omega
      have k1 : (k : Int) < 5 := by omega
      rcases hq : subL (x k) (y k) with ⟨n, e0⟩
      have Hq := Lib.hid hq
      clear hq
      go_wp2
      go_region_held3 (fun w' => w'.cell? ⟨w.heap.size, k, none⟩ = some (.int .i64 (x k)) ∧ w'.cell? ⟨w.heap.size + 1, k, none⟩ = some (.int .i64 (y k))) (first | exact ⟨cx, cy⟩ | exact ⟨cx2, cy2⟩)
        (first | (go_at_call 35; refine (rsub_to (x k) (y k) n e0 _ ix0 ix1 iy0 iy1 Hq.out).mono ?_; rintro e w2 ⟨rfl, hb2⟩; have cx2 := (hb2.cell (p := ⟨w.heap.size, k, none⟩) Hpx.out).trans cx; have cy2 := (hb2.cell (p := ⟨w.heap.size + 1, k, none⟩) Hpy.out).trans cy; have HB2 := Lib.hid hb2; clear hb2))
      have Hx1 := Lib.hid ((RowAt.drew Hx.out).below HB2.out Hx.out.lt)
      have Hy1 := Lib.hid ((RowAt.drew Hy.out).below HB2.out Hy.out.lt)
      have Hz1 := Lib.hid ((RowAt.drew Hz.out).below HB2.out Hz.out.lt)
      have HB1 := Lib.hid ((HB.out.drew).trans (HB2.out.mono HB.out.size))
      clear cx cy cx2 cy2
      by_cases he : e0 = 0
      · have heb : (e0 != 0) = false := by simp [he]
        have He := Lib.hid he
        clear he
        have cx := Hx1.out.cell hlt
        have fx := Hx1.out.free k
        go_wp2
        go_roundw
        case rel => exact ⟨k + 1, by omega, by go_num, all_snoc Hall.out (by unfold minusF; rw [Hq.out]; exact He.out), by rw [part_succ (n := n) (by unfold minusF; rw [Hq.out])]; exact Hx1.out.set hlt n, Hy1.out.other _ _ (by simp), Hz1.out.other _ _ (by simp), HB1.out.setCell (by simp) _⟩
        case measure => simp [intOf]; omega
      · have heb : (e0 != 0) = true := by simpa using he
        have He := Lib.hid he
        clear he
        go_wp2_with (refine wpList_store_row rfl 24 (.tmp 4) (.tmp 25) rfl (w.heap.size + 2) #[.int .i64 0, .int .i64 0, .int .i64 0, .int .i64 0, .int .i64 0] rfl rfl 24 _ Hz1.out vec_size (by kernel_rfl) (by kernel_rfl) ?_)
        have h1 : (minusF x y k).2 = e0 := by unfold minusF; rw [Hq.out]
        have h2 : firstE (minusF x y) 5 = e0 := by rw [firstE_at hlt Hall.out (by rw [h1]; exact He.out), h1]
        refine bodyPost_row2 Tryd.results11 (w.heap.size + 2) _ _ _ _ (.int .i64 e0) ?d1 ?p1 ?s1 (Hz1.out.put (fun _ => 0)) Tryd.underlying24 rfl vec_size ?_
        case d1 => rfl
        case p1 => rfl
        case s1 => rfl
        exact ⟨endRow (x := fun _ => 0) (fun j _ => by unfold eachR; rw [if_pos (by rw [h2]; exact He.out)]) h2.symm, below_setRow HB1.out (by omega) _⟩
    · obtain rfl : k = 5 := by omega
      have h2 : firstE (minusF x y) 5 = 0 := firstE_none Hall.out
      have H2 := Lib.hid h2
      clear h2
      go_wp2_with (first | refine wpList_load_row rfl 24 (.tmp 2) rfl w.heap.size rfl 24 _ (0, 0) _ Hx.out Tryd.underlying24 rfl vec_size ?_ | refine wpList_store_row rfl 24 (.tmp 4) (.tmp 30) rfl (w.heap.size + 2) _ rfl rfl 24 _ Hz.out vec_size (by kernel_rfl) (by kernel_rfl) ?_)
      refine bodyPost_row2 Tryd.results11 (w.heap.size + 2) _ _ _ _ (.int .i64 0) ?d2 ?p2 ?s2 (Hz.out.put (part (minusF x y) x 5)) Tryd.underlying24 rfl vec_size ?_
      case d2 => rfl
      case p2 => rfl
      case s2 => rfl
      exact ⟨endRow (x := part (minusF x y) x 5) (fun j hj => by unfold eachR part; rw [if_pos hj, if_neg (by rw [H2.out]; simp)]) H2.out.symm, below_setRow HB.out (by omega) _⟩

set_option maxRecDepth 100000 in
set_option maxHeartbeats 1000000 in
theorem rtimes_any (x : Nat → Int) (m : Int) (w : World) (ix : Ints x) (iy0 : -9223372036854775808 ≤ m) (iy1 : m ≤ 9223372036854775807) :
    Calls Tryd.prog 13 #[.agg #[.int .i64 (x 0), .int .i64 (x 1), .int .i64 (x 2), .int .i64 (x 3), .int .i64 (x 4)], .int .i64 m] w fun e w' => e = .returned (.tuple #[.agg #[.int .i64 (eachR (timesF x m) 0), .int .i64 (eachR (timesF x m) 1), .int .i64 (eachR (timesF x m) 2), .int .i64 (eachR (timesF x m) 3), .int .i64 (eachR (timesF x m) 4)], .int .i64 (firstE (timesF x m) 5)]) ∧ Below w.heap.size w w' := by
  go_enter Tryd.func13, Tryd.ntmps13
  go_wp2
  go_loopw [6] (fun i wr => ∃ k : Nat, k ≤ 5 ∧ i = .int .i64 k ∧ (∀ j, j < k → (timesF x m j).2 = 0) ∧ RowAt wr w.heap.size (part (timesF x m) x k) ∧ RowAt wr (w.heap.size + 1) (fun _ => 0) ∧ Below w.heap.size w wr) (fun i _ => 5 - (intOf i).toNat)
  case atStart => exact ⟨0, by omega, rfl, by omega, by rw [part_zero]; exact (two_at w x (fun _ => 0)).1, (two_at w x (fun _ => 0)).2, below2 w _ _⟩
  case round =>
    obtain ⟨k, hk, rfl, hall, hx, hz, hb⟩ := hrel
    have Hall := Lib.hid hall
    have Hx := Lib.hid hx
    have Hz := Lib.hid hz
    have HB := Lib.hid hb
    clear hall hx hz hb
    by_cases hlt : k < 5
    · obtain ⟨ix0, ix1⟩ := ix k hlt
      have cx := Hx.out.cell hlt
      rw [part_at] at cx
      have Hix := Lib.hid ix
      clear ix
      rcases hq : mulL (x k) m with ⟨n, e0⟩
      have Hq := Lib.hid hq
      clear hq
      go_wp2_with fail
      refine (rmul_to (x k) m n e0 _ ix0 ix1 iy0 iy1 Hq.out).mono ?_
      rintro e w2 ⟨rfl, hb2⟩
      have Hx1 := Lib.hid (Hx.out.below hb2 Hx.out.lt)
      have Hz1 := Lib.hid (Hz.out.below hb2 Hz.out.lt)
      have HB1 := Lib.hid (HB.out.trans (hb2.mono HB.out.size))
      clear cx hb2
      by_cases he : e0 = 0
      · have heb : (e0 != 0) = false := by simp [he]
        have He := Lib.hid he
        clear he
        have cx := Hx1.out.cell hlt
        have fx := Hx1.out.free k
        go_wp2
        go_roundw
        case rel => exact ⟨k + 1, by omega, by go_num, all_snoc Hall.out (by unfold timesF; rw [Hq.out]; exact He.out), by rw [part_succ (n := n) (by unfold timesF; rw [Hq.out])]; exact Hx1.out.set hlt n,  Hz1.out.other _ _ (by simp), HB1.out.setCell (by simp) _⟩
        case measure => simp [intOf]; omega
      · have heb : (e0 != 0) = true := by simpa using he
        have He := Lib.hid he
        clear he
        go_wp2_with (refine wpList_store_row rfl 24 (.tmp 4) (.tmp 23) rfl (w.heap.size + 1) #[.int .i64 0, .int .i64 0, .int .i64 0, .int .i64 0, .int .i64 0] rfl rfl 24 _ Hz1.out vec_size (by kernel_rfl) (by kernel_rfl) ?_)
        have h1 : (timesF x m k).2 = e0 := by unfold timesF; rw [Hq.out]
        have h2 : firstE (timesF x m) 5 = e0 := by rw [firstE_at hlt Hall.out (by rw [h1]; exact He.out), h1]
        refine bodyPost_row2 Tryd.results13 (w.heap.size + 1) _ _ _ _ (.int .i64 e0) ?d1 ?p1 ?s1 (Hz1.out.put (fun _ => 0)) Tryd.underlying24 rfl vec_size ?_
        case d1 => rfl
        case p1 => rfl
        case s1 => rfl
        exact ⟨endRow (x := fun _ => 0) (fun j _ => by unfold eachR; rw [if_pos (by rw [h2]; exact He.out)]) h2.symm, below_setRow HB1.out (by omega) _⟩
    · obtain rfl : k = 5 := by omega
      have h2 : firstE (timesF x m) 5 = 0 := firstE_none Hall.out
      have H2 := Lib.hid h2
      clear h2
      go_wp2_with (first | refine wpList_load_row rfl 24 (.tmp 2) rfl w.heap.size rfl 24 _ (0, 0) _ Hx.out Tryd.underlying24 rfl vec_size ?_ | refine wpList_store_row rfl 24 (.tmp 4) (.tmp 28) rfl (w.heap.size + 1) _ rfl rfl 24 _ Hz.out vec_size (by kernel_rfl) (by kernel_rfl) ?_)
      refine bodyPost_row2 Tryd.results13 (w.heap.size + 1) _ _ _ _ (.int .i64 0) ?d2 ?p2 ?s2 (Hz.out.put (part (timesF x m) x 5)) Tryd.underlying24 rfl vec_size ?_
      case d2 => rfl
      case p2 => rfl
      case s2 => rfl
      exact ⟨endRow (x := part (timesF x m) x 5) (fun j hj => by unfold eachR part; rw [if_pos hj, if_neg (by rw [H2.out]; simp)]) H2.out.symm, below_setRow HB.out (by omega) _⟩

end Go.Proofs.YtgmecaaogmpakaaDoor
