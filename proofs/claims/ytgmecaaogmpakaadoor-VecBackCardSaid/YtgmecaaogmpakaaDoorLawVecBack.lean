/- What was printed is parsed as it was, of any row: the walk. Conditions: the names of the places, and the library's table of powers of ten, lie as they were laid. -/
import Derived.Test.YtgmecaaogmpakaaDoorVecWorks
import Derived.Test.YtgmecaaogmpakaaDoorVecBackMath
import Derived.Test.YtgmecaaogmpakaaDoorVecMade
namespace Go.Proofs.YtgmecaaogmpakaaDoor
open Go.RowKit

theorem made_ok (x : Nat → Int) : chkV (madeV x) = 0 := chkV_ok (fun j _ => (made_range x j).1) (fun j _ => by have := (made_range x j).2; unfold top; omega)

set_option maxRecDepth 100000 in
set_option maxHeartbeats 2000000 in
theorem vecBack_any (x : Nat → Int) (w : World) (hn : NamesAt w) (ht : Tab w) :
    Calls Tryd.prog 5 #[.agg #[.int .i64 (x 0), .int .i64 (x 1), .int .i64 (x 2), .int .i64 (x 3), .int .i64 (x 4)]] w fun e w' => e = .returned (.bool true) ∧ Below w.heap.size w w' := by
  have HN := Lib.hid hn
  have HT := Lib.hid ht
  clear hn ht
  have HR := Lib.hid (RowAt.new w x)
  have HB := Lib.hid (below1 w (.cells #[.int .i64 (x 0), .int .i64 (x 1), .int .i64 (x 2), .int .i64 (x 3), .int .i64 (x 4)] 24))
  go_enter Tryd.func5, Tryd.ntmps5
  go_wp2_with fail
  refine (worksV_any _ (HN.out.below HB.out) (HT.out.below HB.out)).mono ?_
  rintro e w1 ⟨rfl, hb⟩
  replace HR := Lib.hid (RowAt.below HR.out hb HR.out.lt)
  replace HB := Lib.hid (HB.out.trans (hb.mono HB.out.size))
  clear hb
  go_wp2
  go_loopw [3] (fun i wr => ∃ (k : Nat) (v : Nat → Int), k ≤ 2 ∧ i = .int .i64 k ∧ (1 ≤ k → chkV v = 0) ∧ RowAt wr w.heap.size v ∧ Below w.heap.size w wr) (fun i _ => 2 - (intOf i).toNat)
  case atStart => exact ⟨0, x, by omega, rfl, by omega, HR.out, HB.out⟩
  case round =>
    obtain ⟨k, v, hk, rfl, hv, hr, hb⟩ := hrel
    have Hv := Lib.hid hv
    have HRv := Lib.hid hr
    have HBv := Lib.hid hb
    clear hv hr hb HR HB
    by_cases hlt : k < 2
    · by_cases hc : chkV v = 0
      · have hp : printV v = (Lib.join (partsT v 5) [44], 0) := by unfold printV; rw [if_neg (by simpa using hc)]
        have hx : ∀ j, j < 5 → 0 ≤ v j ∧ v j ≤ top := by
          rcases chkV_cases v with h2 | h2 | ⟨_, h2⟩
          · rw [hc] at h2; cases h2
          · rw [hc] at h2; cases h2
          · exact h2
        obtain ⟨h5, h6⟩ := backV v hx
        have hl : (Lib.join (partsT v 5) [44]).length ≤ 1000000 := by
          have hj := join_len (partsT v 5) 30 (fun t ht => by
            obtain ⟨j, hj, rfl⟩ := parts_mem v 5 t ht
            exact partT_len v j (hx j hj).1 (by have := (hx j hj).2; unfold top at this; exact this))
          have hl := partsT_len v 5
          have : (partsT v 5).length * (30 + 1) ≤ 5 * 31 := Nat.mul_le_mul hl (Nat.le_refl _)
          omega
        have Hp := Lib.hid hp
        have H5 := Lib.hid h5
        have H6 := Lib.hid h6
        have Hl := Lib.hid hl
        have Hc := Lib.hid hc
        clear hp hx h5 h6 hl hc
        generalize Lib.join (partsT v 5) [44] = t at *
        have hq := fun w => eq_row (v 0) (v 1) (v 2) (v 3) (v 4) w
        have hg := vec_guard
        go_wp2_with (refine wpList_load_row rfl 24 (.tmp 1) rfl w.heap.size rfl 24 _ (0, 0) _ HRv.out Tryd.underlying24 rfl vec_size ?_)
        refine (vprint_is v _ t 0 (HN.out.below HBv.out) (HT.out.below HBv.out) Hp.out).mono ?_
        rintro e w2 ⟨rfl, hb⟩
        replace HRv := Lib.hid (HRv.out.below hb HRv.out.lt)
        replace HBv := Lib.hid (HBv.out.trans (hb.mono HBv.out.size))
        clear hb
        go_wp2_with (refine wpList_load_row rfl 24 (.tmp 1) rfl w.heap.size rfl 24 _ (0, 0) _ HRv.out Tryd.underlying24 rfl vec_size ?_)
        refine (vcheck_any v _).mono ?_
        rw [Hc.out]
        rintro e w3 ⟨rfl, hb⟩
        replace HRv := Lib.hid (HRv.out.below hb HRv.out.lt)
        replace HBv := Lib.hid (HBv.out.trans (hb.mono HBv.out.size))
        clear hb
        go_wp2_with fail
        refine (vparse_is t _ (v 0) (v 1) (v 2) (v 3) (v 4) 0 0 Hl.out (HN.out.below HBv.out) (H5.out 0 (by omega)) (H5.out 1 (by omega)) (H5.out 2 (by omega)) (H5.out 3 (by omega)) (H5.out 4 (by omega)) H6.out).mono ?_
        rintro e w4 ⟨rfl, hb⟩
        replace HRv := Lib.hid (HRv.out.below hb HRv.out.lt)
        replace HBv := Lib.hid (HBv.out.trans (hb.mono HBv.out.size))
        clear hb
        replace HRv := Lib.hid (HRv.out.alloc (.cells #[.int .i64 (v 0), .int .i64 (v 1), .int .i64 (v 2), .int .i64 (v 3), .int .i64 (v 4)] 24))
        replace HBv := Lib.hid (HBv.out.alloc HBv.out.size (.cells #[.int .i64 (v 0), .int .i64 (v 1), .int .i64 (v 2), .int .i64 (v 3), .int .i64 (v 4)] 24))
        have a0 := HRv.out.cell (k := 0) (by omega)
        have a1 := HRv.out.cell (k := 1) (by omega)
        have a2 := HRv.out.cell (k := 2) (by omega)
        have a3 := HRv.out.cell (k := 3) (by omega)
        have a4 := HRv.out.cell (k := 4) (by omega)
        go_wp2_with (refine wpList_load_row rfl 24 (.tmp 1) rfl w.heap.size rfl 24 _ (0, 0) _ HRv.out Tryd.underlying24 rfl vec_size ?_)
        clear a0 a1 a2 a3 a4 hq hg
        refine (made_any v _).mono ?_
        rintro e w5 ⟨rfl, hb⟩
        replace HRv := Lib.hid (HRv.out.below hb HRv.out.lt)
        replace HBv := Lib.hid (HBv.out.trans (hb.mono HBv.out.size))
        clear hb
        go_wp2_with (refine wpList_store_row rfl 24 (.tmp 1) (.tmp 56) rfl w.heap.size _ rfl rfl 24 _ HRv.out vec_size (by kernel_rfl) (by kernel_rfl) ?_)
        go_roundw
        case rel => exact ⟨k + 1, madeV v, by omega, by go_num, fun _ => made_ok v, HRv.out.put (madeV v), below_setRow HBv.out (Nat.le_refl _) _⟩
        case measure => simp [intOf]; omega
      · obtain rfl : k = 0 := by
          rcases Nat.eq_zero_or_pos k with g | g
          · exact g
          · exact absurd (Hv.out g) hc
        have hp : printV v = ([], chkV v) := by unfold printV; rw [if_pos hc]
        have Hp := Lib.hid hp
        have c1 : (chkV v != 0) = true := by simpa using hc
        have c2 : (chkV v == 0) = false := by simpa using hc
        have c3 : (chkV v != chkV v) = false := by simp
        have Hc := Lib.hid hc
        clear hp hc
        obtain ⟨e0, he0⟩ : ∃ e0, chkV v = e0 := ⟨_, rfl⟩
        rw [he0] at c1 c2 c3 Hp Hc
        have H0 := Lib.hid he0
        clear he0
        go_wp2_with (refine wpList_load_row rfl 24 (.tmp 1) rfl w.heap.size rfl 24 _ (0, 0) _ HRv.out Tryd.underlying24 rfl vec_size ?_)
        refine (vprint_is v _ [] e0 (HN.out.below HBv.out) (HT.out.below HBv.out) Hp.out).mono ?_
        rintro e w2 ⟨rfl, hb⟩
        replace HRv := Lib.hid (HRv.out.below hb HRv.out.lt)
        replace HBv := Lib.hid (HBv.out.trans (hb.mono HBv.out.size))
        clear hb
        go_wp2_with (refine wpList_load_row rfl 24 (.tmp 1) rfl w.heap.size rfl 24 _ (0, 0) _ HRv.out Tryd.underlying24 rfl vec_size ?_)
        refine (vcheck_any v _).mono ?_
        rw [H0.out]
        rintro e w3 ⟨rfl, hb⟩
        replace HRv := Lib.hid (HRv.out.below hb HRv.out.lt)
        replace HBv := Lib.hid (HBv.out.trans (hb.mono HBv.out.size))
        clear hb
        go_wp2_with (refine wpList_load_row rfl 24 (.tmp 1) rfl w.heap.size rfl 24 _ (0, 0) _ HRv.out Tryd.underlying24 rfl vec_size ?_)
        refine (made_any v _).mono ?_
        rintro e w5 ⟨rfl, hb⟩
        replace HRv := Lib.hid (HRv.out.below hb HRv.out.lt)
        replace HBv := Lib.hid (HBv.out.trans (hb.mono HBv.out.size))
        clear hb
        go_wp2_with (refine wpList_store_row rfl 24 (.tmp 1) (.tmp 56) rfl w.heap.size _ rfl rfl 24 _ HRv.out vec_size (by kernel_rfl) (by kernel_rfl) ?_)
        go_roundw
        case rel => exact ⟨1, madeV v, by omega, by go_num, fun _ => made_ok v, HRv.out.put (madeV v), below_setRow HBv.out (Nat.le_refl _) _⟩
        case measure => simp [intOf]
    · go_wp2
      go_ret
      exact ⟨rfl, HBv.out⟩

end Go.Proofs.YtgmecaaogmpakaaDoor
