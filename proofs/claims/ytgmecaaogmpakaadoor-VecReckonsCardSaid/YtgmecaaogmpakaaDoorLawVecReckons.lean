/- Check, Plus, Minus, Times, Fits, Over and Share answer as the chapter says, of all rows and numbers: the walk. Conditions: the names of the places, and the library's table of powers of ten, lie as they were laid; the rows lie in memory and are ints. -/
import Derived.Test.YtgmecaaogmpakaaDoorVecWorks
import Derived.Test.YtgmecaaogmpakaaDoorVecPlus
import Derived.Test.YtgmecaaogmpakaaDoorVecRef
import Derived.Deep.RegionHeld3
import Derived.Deep.DeepCutAuto
import Derived.BigRegion
namespace Go.Proofs.YtgmecaaogmpakaaDoor
open Go.RowKit

theorem RowsOf.take {w : World} {A : Option Addr} {l : List (Nat → Int)} (h : RowsOf w A l) (n : Nat) : RowsOf w A (l.take n) := fun i x hx => h i x (by
  rw [List.getElem?_take] at hx
  split at hx
  · exact hx
  · cases hx)

theorem vr_first (w : World) (o : Obj) (x y : Nat → Int) : RowAt (((w.alloc o).alloc (.cells #[.int .i64 (x 0), .int .i64 (x 1), .int .i64 (x 2), .int .i64 (x 3), .int .i64 (x 4)] 24)).alloc (.cells #[.int .i64 (y 0), .int .i64 (y 1), .int .i64 (y 2), .int .i64 (y 3), .int .i64 (y 4)] 24)) (w.heap.size + 1) x ∧ RowAt (((w.alloc o).alloc (.cells #[.int .i64 (x 0), .int .i64 (x 1), .int .i64 (x 2), .int .i64 (x 3), .int .i64 (x 4)] 24)).alloc (.cells #[.int .i64 (y 0), .int .i64 (y 1), .int .i64 (y 2), .int .i64 (y 3), .int .i64 (y 4)] 24)) (w.heap.size + 1 + 1) y ∧ Below w.heap.size w (((w.alloc o).alloc (.cells #[.int .i64 (x 0), .int .i64 (x 1), .int .i64 (x 2), .int .i64 (x 3), .int .i64 (x 4)] 24)).alloc (.cells #[.int .i64 (y 0), .int .i64 (y 1), .int .i64 (y 2), .int .i64 (y 3), .int .i64 (y 4)] 24)) := by
  have h := two_at (w.alloc o) x y
  rw [alloc_size] at h
  exact ⟨h.1, h.2, below3 w _ _ _⟩
theorem cells5' {w : World} {b : Nat} {x : Nat → Int} (h : RowAt w b x) : w.cell? ⟨b, 0, none⟩ = some (.int .i64 (x 0)) ∧ w.cell? ⟨b, 1, none⟩ = some (.int .i64 (x 1)) ∧ w.cell? ⟨b, 2, none⟩ = some (.int .i64 (x 2)) ∧ w.cell? ⟨b, 3, none⟩ = some (.int .i64 (x 3)) ∧ w.cell? ⟨b, 4, none⟩ = some (.int .i64 (x 4)) :=
  ⟨h.cell (by omega), h.cell (by omega), h.cell (by omega), h.cell (by omega), h.cell (by omega)⟩

set_option maxRecDepth 100000 in
set_option maxHeartbeats 4000000 in
theorem vecReckons_any (A : Option Addr) (c : Nat) (l : List (Nat → Int)) (x y : Nat → Int) (n : Int) (w : World) (hl : l.length ≤ maxLen) (hc : l.length ≤ c) (hr : RowsOf w A l) (ix : Ints x) (iy : Ints y) (hn0 : -9223372036854775808 ≤ n) (hn1 : n ≤ 9223372036854775807) (hn : NamesAt w) (ht : Tab w) :
    Calls Tryd.prog 3 #[.slice A l.length c, .agg #[.int .i64 (x 0), .int .i64 (x 1), .int .i64 (x 2), .int .i64 (x 3), .int .i64 (x 4), .int .i64 (y 0), .int .i64 (y 1), .int .i64 (y 2), .int .i64 (y 3), .int .i64 (y 4)], .int .i64 n] w fun e w' => e = .returned (.bool true) ∧ Below w.heap.size w w' := by
  have HN := Lib.hid hn
  have HT := Lib.hid ht
  have Hr := Lib.hid (hr.take 12)
  clear hn ht hr
  unfold maxLen at hl
  have hlen : (min (l.length : Int) 12).toNat = (l.take 12).length := by simp; omega
  have Hlen := Lib.hid hlen
  clear hlen
  have hl12 : (l.take 12).length ≤ 12 := by simp; omega
  have K1 := Lib.hid (fun (w : World) (h : RowsOf w A (l.take 12)) => plus_any A c (l.take 12) w hl12 h)
  have K2 := Lib.hid (fun (w : World) (h : RowsOf w A (l.take 12)) => rplus_any A c (l.take 12) w hl12 h)
  have K3 := Lib.hid (fun (w : World) => minus_any x y w ix iy)
  have K4 := Lib.hid (fun (w : World) => rminus_any x y w ix iy)
  have K5 := Lib.hid (fun (w : World) => times_any x n w ix hn0 hn1)
  have K6 := Lib.hid (fun (w : World) => rtimes_any x n w ix hn0 hn1)
  have K7 := Lib.hid (fun (w : World) => vshare_any x y w ix iy)
  have K8 := Lib.hid (fun (w : World) => rvshare_any x y w ix iy)
  have K9 := Lib.hid (fun (w : World) => vcheck_any x w)
  have K10 := Lib.hid (fun (w : World) => rvcheck_any x w)
  have K11 := Lib.hid (fun (w : World) => fits_any x y w)
  have K12 := Lib.hid (fun (w : World) => rfits_any x y w)
  have K13 := Lib.hid (fun (w : World) => over_any x y w)
  have K14 := Lib.hid (fun (w : World) => rover_any x y w)
  generalize greatest (eachR (shareF x y)) 5 = sn at K7 K8
  generalize firstE (shareF x y) 5 = se at K7 K8
  generalize eachR (plusF (l.take 12)) = P at K1 K2
  generalize firstE (plusF (l.take 12)) 5 = pe at K1 K2
  generalize eachR (minusF x y) = M at K3 K4
  generalize firstE (minusF x y) 5 = me at K3 K4
  generalize eachR (timesF x n) = T at K5 K6
  generalize firstE (timesF x n) 5 = te at K5 K6
  generalize chkV x = ck at K9 K10
  generalize fitsV x y = ff at K11 K12
  generalize overV x y 5 = ov at K13 K14
  clear ix iy
  go_enter Tryd.func3, Tryd.ntmps3
  go_wp2
  go_cut [7, 8] (fun s7 s8 wc => ∃ p q : Nat, s7 = .pointer (some ⟨p, 0, none⟩) ∧ s8 = .pointer (some ⟨q, 0, none⟩) ∧ RowAt wc p x ∧ RowAt wc q y ∧ Below w.heap.size w wc)
  case first =>
    go_region
    all_goals
      go_wp2_with fail
      go_meet
      first
        | exact ⟨w.heap.size + 1, w.heap.size + 1 + 1, rfl, rfl, (vr_first w _ x y).1, (vr_first w _ x y).2.1, (vr_first w _ x y).2.2.drew⟩
        | exact ⟨w.heap.size + 1 + 1, w.heap.size + 1, rfl, rfl, (vr_first w _ y x).2.1, (vr_first w _ y x).1, (vr_first w _ y x).2.2.drew⟩
  case rest =>
    obtain ⟨p, q, rfl, rfl, hp, hq, hb⟩ := hcut
    have HP := Lib.hid hp
    have HQ := Lib.hid hq
    have HB := Lib.hid hb
    replace Hr := Lib.hid (Hr.out.below hb (Nat.le_refl _))
    clear hp hq hb
    rw [Hlen.out]
    generalize (l.take 12).length = n12 at K1 K2
    go_wp2_with fail
    refine (K1.out _ Hr.out).mono ?_
    rintro e w1 ⟨rfl, hb⟩
    replace HP := Lib.hid (HP.out.below hb HP.out.lt)
    replace HQ := Lib.hid (HQ.out.below hb HQ.out.lt)
    replace Hr := Lib.hid (Hr.out.below hb (Nat.le_refl _))
    replace HB := Lib.hid (HB.out.trans (hb.mono HB.out.size))
    clear hb
    have H9 := Lib.hid (RowAt.new w1 P)
    replace HP := Lib.hid (HP.out.alloc (.cells #[.int .i64 (P 0), .int .i64 (P 1), .int .i64 (P 2), .int .i64 (P 3), .int .i64 (P 4)] 24))
    replace HQ := Lib.hid (HQ.out.alloc (.cells #[.int .i64 (P 0), .int .i64 (P 1), .int .i64 (P 2), .int .i64 (P 3), .int .i64 (P 4)] 24))
    replace Hr := Lib.hid (Hr.out.below (below1 w1 (.cells #[.int .i64 (P 0), .int .i64 (P 1), .int .i64 (P 2), .int .i64 (P 3), .int .i64 (P 4)] 24)) (Nat.le_refl _))
    replace HB := Lib.hid (HB.out.alloc HB.out.size (.cells #[.int .i64 (P 0), .int .i64 (P 1), .int .i64 (P 2), .int .i64 (P 3), .int .i64 (P 4)] 24))
    go_wp2_with fail
    refine (K2.out _ Hr.out).mono ?_
    rintro e w2 ⟨rfl, hb⟩
    replace HP := Lib.hid (HP.out.below hb HP.out.lt)
    replace HQ := Lib.hid (HQ.out.below hb HQ.out.lt)
    replace H9 := Lib.hid (H9.out.below hb H9.out.lt)
    replace Hr := Lib.hid (Hr.out.below hb (Nat.le_refl _))
    replace HB := Lib.hid (HB.out.trans (hb.mono HB.out.size))
    clear hb
    have H11 := Lib.hid (RowAt.new w2 P)
    replace HP := Lib.hid (HP.out.alloc (.cells #[.int .i64 (P 0), .int .i64 (P 1), .int .i64 (P 2), .int .i64 (P 3), .int .i64 (P 4)] 24))
    replace HQ := Lib.hid (HQ.out.alloc (.cells #[.int .i64 (P 0), .int .i64 (P 1), .int .i64 (P 2), .int .i64 (P 3), .int .i64 (P 4)] 24))
    replace H9 := Lib.hid (H9.out.alloc (.cells #[.int .i64 (P 0), .int .i64 (P 1), .int .i64 (P 2), .int .i64 (P 3), .int .i64 (P 4)] 24))
    replace Hr := Lib.hid (Hr.out.below (below1 w2 (.cells #[.int .i64 (P 0), .int .i64 (P 1), .int .i64 (P 2), .int .i64 (P 3), .int .i64 (P 4)] 24)) (Nat.le_refl _))
    replace HB := Lib.hid (HB.out.alloc HB.out.size (.cells #[.int .i64 (P 0), .int .i64 (P 1), .int .i64 (P 2), .int .i64 (P 3), .int .i64 (P 4)] 24))
    go_wp2_with (first | refine wpList_load_row rfl 24 (.tmp 7) rfl p rfl 24 _ (0, 0) _ HP.out Tryd.underlying24 rfl vec_size ?_ | refine wpList_load_row rfl 24 (.tmp 8) rfl q rfl 24 _ (0, 0) _ HQ.out Tryd.underlying24 rfl vec_size ?_)
    refine (K3.out _).mono ?_
    rintro e w3 ⟨rfl, hb⟩
    replace HP := Lib.hid (HP.out.below hb HP.out.lt)
    replace HQ := Lib.hid (HQ.out.below hb HQ.out.lt)
    replace H9 := Lib.hid (H9.out.below hb H9.out.lt)
    replace H11 := Lib.hid (H11.out.below hb H11.out.lt)
    replace Hr := Lib.hid (Hr.out.below hb (Nat.le_refl _))
    replace HB := Lib.hid (HB.out.trans (hb.mono HB.out.size))
    clear hb
    have H13 := Lib.hid (RowAt.new w3 M)
    replace HP := Lib.hid (HP.out.alloc (.cells #[.int .i64 (M 0), .int .i64 (M 1), .int .i64 (M 2), .int .i64 (M 3), .int .i64 (M 4)] 24))
    replace HQ := Lib.hid (HQ.out.alloc (.cells #[.int .i64 (M 0), .int .i64 (M 1), .int .i64 (M 2), .int .i64 (M 3), .int .i64 (M 4)] 24))
    replace H9 := Lib.hid (H9.out.alloc (.cells #[.int .i64 (M 0), .int .i64 (M 1), .int .i64 (M 2), .int .i64 (M 3), .int .i64 (M 4)] 24))
    replace H11 := Lib.hid (H11.out.alloc (.cells #[.int .i64 (M 0), .int .i64 (M 1), .int .i64 (M 2), .int .i64 (M 3), .int .i64 (M 4)] 24))
    replace Hr := Lib.hid (Hr.out.below (below1 w3 (.cells #[.int .i64 (M 0), .int .i64 (M 1), .int .i64 (M 2), .int .i64 (M 3), .int .i64 (M 4)] 24)) (Nat.le_refl _))
    replace HB := Lib.hid (HB.out.alloc HB.out.size (.cells #[.int .i64 (M 0), .int .i64 (M 1), .int .i64 (M 2), .int .i64 (M 3), .int .i64 (M 4)] 24))
    go_wp2_with (first | refine wpList_load_row rfl 24 (.tmp 7) rfl p rfl 24 _ (0, 0) _ HP.out Tryd.underlying24 rfl vec_size ?_ | refine wpList_load_row rfl 24 (.tmp 8) rfl q rfl 24 _ (0, 0) _ HQ.out Tryd.underlying24 rfl vec_size ?_)
    refine (K4.out _).mono ?_
    rintro e w4 ⟨rfl, hb⟩
    replace HP := Lib.hid (HP.out.below hb HP.out.lt)
    replace HQ := Lib.hid (HQ.out.below hb HQ.out.lt)
    replace H9 := Lib.hid (H9.out.below hb H9.out.lt)
    replace H11 := Lib.hid (H11.out.below hb H11.out.lt)
    replace H13 := Lib.hid (H13.out.below hb H13.out.lt)
    replace Hr := Lib.hid (Hr.out.below hb (Nat.le_refl _))
    replace HB := Lib.hid (HB.out.trans (hb.mono HB.out.size))
    clear hb
    have H15 := Lib.hid (RowAt.new w4 M)
    replace HP := Lib.hid (HP.out.alloc (.cells #[.int .i64 (M 0), .int .i64 (M 1), .int .i64 (M 2), .int .i64 (M 3), .int .i64 (M 4)] 24))
    replace HQ := Lib.hid (HQ.out.alloc (.cells #[.int .i64 (M 0), .int .i64 (M 1), .int .i64 (M 2), .int .i64 (M 3), .int .i64 (M 4)] 24))
    replace H9 := Lib.hid (H9.out.alloc (.cells #[.int .i64 (M 0), .int .i64 (M 1), .int .i64 (M 2), .int .i64 (M 3), .int .i64 (M 4)] 24))
    replace H11 := Lib.hid (H11.out.alloc (.cells #[.int .i64 (M 0), .int .i64 (M 1), .int .i64 (M 2), .int .i64 (M 3), .int .i64 (M 4)] 24))
    replace H13 := Lib.hid (H13.out.alloc (.cells #[.int .i64 (M 0), .int .i64 (M 1), .int .i64 (M 2), .int .i64 (M 3), .int .i64 (M 4)] 24))
    replace Hr := Lib.hid (Hr.out.below (below1 w4 (.cells #[.int .i64 (M 0), .int .i64 (M 1), .int .i64 (M 2), .int .i64 (M 3), .int .i64 (M 4)] 24)) (Nat.le_refl _))
    replace HB := Lib.hid (HB.out.alloc HB.out.size (.cells #[.int .i64 (M 0), .int .i64 (M 1), .int .i64 (M 2), .int .i64 (M 3), .int .i64 (M 4)] 24))
    go_wp2_with (first | refine wpList_load_row rfl 24 (.tmp 7) rfl p rfl 24 _ (0, 0) _ HP.out Tryd.underlying24 rfl vec_size ?_ | refine wpList_load_row rfl 24 (.tmp 8) rfl q rfl 24 _ (0, 0) _ HQ.out Tryd.underlying24 rfl vec_size ?_)
    refine (K5.out _).mono ?_
    rintro e w5 ⟨rfl, hb⟩
    replace HP := Lib.hid (HP.out.below hb HP.out.lt)
    replace HQ := Lib.hid (HQ.out.below hb HQ.out.lt)
    replace H9 := Lib.hid (H9.out.below hb H9.out.lt)
    replace H11 := Lib.hid (H11.out.below hb H11.out.lt)
    replace H13 := Lib.hid (H13.out.below hb H13.out.lt)
    replace H15 := Lib.hid (H15.out.below hb H15.out.lt)
    replace Hr := Lib.hid (Hr.out.below hb (Nat.le_refl _))
    replace HB := Lib.hid (HB.out.trans (hb.mono HB.out.size))
    clear hb
    have H17 := Lib.hid (RowAt.new w5 T)
    replace HP := Lib.hid (HP.out.alloc (.cells #[.int .i64 (T 0), .int .i64 (T 1), .int .i64 (T 2), .int .i64 (T 3), .int .i64 (T 4)] 24))
    replace HQ := Lib.hid (HQ.out.alloc (.cells #[.int .i64 (T 0), .int .i64 (T 1), .int .i64 (T 2), .int .i64 (T 3), .int .i64 (T 4)] 24))
    replace H9 := Lib.hid (H9.out.alloc (.cells #[.int .i64 (T 0), .int .i64 (T 1), .int .i64 (T 2), .int .i64 (T 3), .int .i64 (T 4)] 24))
    replace H11 := Lib.hid (H11.out.alloc (.cells #[.int .i64 (T 0), .int .i64 (T 1), .int .i64 (T 2), .int .i64 (T 3), .int .i64 (T 4)] 24))
    replace H13 := Lib.hid (H13.out.alloc (.cells #[.int .i64 (T 0), .int .i64 (T 1), .int .i64 (T 2), .int .i64 (T 3), .int .i64 (T 4)] 24))
    replace H15 := Lib.hid (H15.out.alloc (.cells #[.int .i64 (T 0), .int .i64 (T 1), .int .i64 (T 2), .int .i64 (T 3), .int .i64 (T 4)] 24))
    replace Hr := Lib.hid (Hr.out.below (below1 w5 (.cells #[.int .i64 (T 0), .int .i64 (T 1), .int .i64 (T 2), .int .i64 (T 3), .int .i64 (T 4)] 24)) (Nat.le_refl _))
    replace HB := Lib.hid (HB.out.alloc HB.out.size (.cells #[.int .i64 (T 0), .int .i64 (T 1), .int .i64 (T 2), .int .i64 (T 3), .int .i64 (T 4)] 24))
    go_wp2_with (first | refine wpList_load_row rfl 24 (.tmp 7) rfl p rfl 24 _ (0, 0) _ HP.out Tryd.underlying24 rfl vec_size ?_ | refine wpList_load_row rfl 24 (.tmp 8) rfl q rfl 24 _ (0, 0) _ HQ.out Tryd.underlying24 rfl vec_size ?_)
    refine (K6.out _).mono ?_
    rintro e w6 ⟨rfl, hb⟩
    replace HP := Lib.hid (HP.out.below hb HP.out.lt)
    replace HQ := Lib.hid (HQ.out.below hb HQ.out.lt)
    replace H9 := Lib.hid (H9.out.below hb H9.out.lt)
    replace H11 := Lib.hid (H11.out.below hb H11.out.lt)
    replace H13 := Lib.hid (H13.out.below hb H13.out.lt)
    replace H15 := Lib.hid (H15.out.below hb H15.out.lt)
    replace H17 := Lib.hid (H17.out.below hb H17.out.lt)
    replace Hr := Lib.hid (Hr.out.below hb (Nat.le_refl _))
    replace HB := Lib.hid (HB.out.trans (hb.mono HB.out.size))
    clear hb
    have H19 := Lib.hid (RowAt.new w6 T)
    replace HP := Lib.hid (HP.out.alloc (.cells #[.int .i64 (T 0), .int .i64 (T 1), .int .i64 (T 2), .int .i64 (T 3), .int .i64 (T 4)] 24))
    replace HQ := Lib.hid (HQ.out.alloc (.cells #[.int .i64 (T 0), .int .i64 (T 1), .int .i64 (T 2), .int .i64 (T 3), .int .i64 (T 4)] 24))
    replace H9 := Lib.hid (H9.out.alloc (.cells #[.int .i64 (T 0), .int .i64 (T 1), .int .i64 (T 2), .int .i64 (T 3), .int .i64 (T 4)] 24))
    replace H11 := Lib.hid (H11.out.alloc (.cells #[.int .i64 (T 0), .int .i64 (T 1), .int .i64 (T 2), .int .i64 (T 3), .int .i64 (T 4)] 24))
    replace H13 := Lib.hid (H13.out.alloc (.cells #[.int .i64 (T 0), .int .i64 (T 1), .int .i64 (T 2), .int .i64 (T 3), .int .i64 (T 4)] 24))
    replace H15 := Lib.hid (H15.out.alloc (.cells #[.int .i64 (T 0), .int .i64 (T 1), .int .i64 (T 2), .int .i64 (T 3), .int .i64 (T 4)] 24))
    replace H17 := Lib.hid (H17.out.alloc (.cells #[.int .i64 (T 0), .int .i64 (T 1), .int .i64 (T 2), .int .i64 (T 3), .int .i64 (T 4)] 24))
    replace Hr := Lib.hid (Hr.out.below (below1 w6 (.cells #[.int .i64 (T 0), .int .i64 (T 1), .int .i64 (T 2), .int .i64 (T 3), .int .i64 (T 4)] 24)) (Nat.le_refl _))
    replace HB := Lib.hid (HB.out.alloc HB.out.size (.cells #[.int .i64 (T 0), .int .i64 (T 1), .int .i64 (T 2), .int .i64 (T 3), .int .i64 (T 4)] 24))
    go_wp2_with (first | refine wpList_load_row rfl 24 (.tmp 7) rfl p rfl 24 _ (0, 0) _ HP.out Tryd.underlying24 rfl vec_size ?_ | refine wpList_load_row rfl 24 (.tmp 8) rfl q rfl 24 _ (0, 0) _ HQ.out Tryd.underlying24 rfl vec_size ?_)
    refine (K7.out _).mono ?_
    rintro e w7 ⟨rfl, hb⟩
    replace HP := Lib.hid (HP.out.below hb HP.out.lt)
    replace HQ := Lib.hid (HQ.out.below hb HQ.out.lt)
    replace H9 := Lib.hid (H9.out.below hb H9.out.lt)
    replace H11 := Lib.hid (H11.out.below hb H11.out.lt)
    replace H13 := Lib.hid (H13.out.below hb H13.out.lt)
    replace H15 := Lib.hid (H15.out.below hb H15.out.lt)
    replace H17 := Lib.hid (H17.out.below hb H17.out.lt)
    replace H19 := Lib.hid (H19.out.below hb H19.out.lt)
    replace Hr := Lib.hid (Hr.out.below hb (Nat.le_refl _))
    replace HB := Lib.hid (HB.out.trans (hb.mono HB.out.size))
    clear hb
    go_wp2_with (first | refine wpList_load_row rfl 24 (.tmp 7) rfl p rfl 24 _ (0, 0) _ HP.out Tryd.underlying24 rfl vec_size ?_ | refine wpList_load_row rfl 24 (.tmp 8) rfl q rfl 24 _ (0, 0) _ HQ.out Tryd.underlying24 rfl vec_size ?_)
    refine (K8.out _).mono ?_
    rintro e w8 ⟨rfl, hb⟩
    replace HP := Lib.hid (HP.out.below hb HP.out.lt)
    replace HQ := Lib.hid (HQ.out.below hb HQ.out.lt)
    replace H9 := Lib.hid (H9.out.below hb H9.out.lt)
    replace H11 := Lib.hid (H11.out.below hb H11.out.lt)
    replace H13 := Lib.hid (H13.out.below hb H13.out.lt)
    replace H15 := Lib.hid (H15.out.below hb H15.out.lt)
    replace H17 := Lib.hid (H17.out.below hb H17.out.lt)
    replace H19 := Lib.hid (H19.out.below hb H19.out.lt)
    replace Hr := Lib.hid (Hr.out.below hb (Nat.le_refl _))
    replace HB := Lib.hid (HB.out.trans (hb.mono HB.out.size))
    clear hb
    obtain ⟨c00, c01, c02, c03, c04⟩ := cells5' H13.out
    obtain ⟨c10, c11, c12, c13, c14⟩ := cells5' H15.out
    obtain ⟨c20, c21, c22, c23, c24⟩ := cells5' H17.out
    obtain ⟨c30, c31, c32, c33, c34⟩ := cells5' H19.out
    have q1 := fun w => eq_row (P 0) (P 1) (P 2) (P 3) (P 4) w
    have q2 := fun w => eq_row (M 0) (M 1) (M 2) (M 3) (M 4) w
    have q3 := fun w => eq_row (T 0) (T 1) (T 2) (T 3) (T 4) w
    have hg := vec_guard
    have n1 : (pe != pe) = false := by simp
    have n2 : (me != me) = false := by simp
    have n3 : (te != te) = false := by simp
    have n4 : (sn != sn) = false := by simp
    have n5 : (se != se) = false := by simp
    go_wp2_with (first | refine wpList_load_row rfl 24 (.tmp 9) rfl w1.heap.size rfl 24 _ (0, 0) _ H9.out Tryd.underlying24 rfl vec_size ?_ | refine wpList_load_row rfl 24 (.tmp 11) rfl w2.heap.size rfl 24 _ (0, 0) _ H11.out Tryd.underlying24 rfl vec_size ?_)
    clear q1 q2 q3 hg n1 n2 n3 n4 n5 c00 c01 c02 c03 c04 c10 c11 c12 c13 c14 c20 c21 c22 c23 c24 c30 c31 c32 c33 c34 H9 H11 H13 H15 H17 H19 K1 K2 K3 K4 K5 K6 K7 K8
    replace HP := Lib.hid (RowAt.drew HP.out)
    replace HQ := Lib.hid (RowAt.drew HQ.out)
    replace HB := Lib.hid (HB.out.drew)
    obtain ⟨a0, a1, a2, a3, a4⟩ := cells5' HP.out
    obtain ⟨b0, b1, b2, b3, b4⟩ := cells5' HQ.out
    have m1 : (ck == ck) = true := by simp
    have m2 : (ff == ff) = true := by simp
    have m3 : (ov == ov) = true := by simp
    go_region_held3 (fun w' => w'.cell? ⟨p, 0, none⟩ = some (.int .i64 (x 0)) ∧ w'.cell? ⟨p, 1, none⟩ = some (.int .i64 (x 1)) ∧ w'.cell? ⟨p, 2, none⟩ = some (.int .i64 (x 2)) ∧ w'.cell? ⟨p, 3, none⟩ = some (.int .i64 (x 3)) ∧ w'.cell? ⟨p, 4, none⟩ = some (.int .i64 (x 4)) ∧ w'.cell? ⟨q, 0, none⟩ = some (.int .i64 (y 0)) ∧ w'.cell? ⟨q, 1, none⟩ = some (.int .i64 (y 1)) ∧ w'.cell? ⟨q, 2, none⟩ = some (.int .i64 (y 2)) ∧ w'.cell? ⟨q, 3, none⟩ = some (.int .i64 (y 3)) ∧ w'.cell? ⟨q, 4, none⟩ = some (.int .i64 (y 4))) (first | exact ⟨a0, a1, a2, a3, a4, b0, b1, b2, b3, b4⟩)
      (first | (go_at_call 16; refine (K9.out _).mono ?_; rintro e w9 ⟨rfl, hb⟩; replace HP := Lib.hid (HP.out.below hb HP.out.lt); replace HQ := Lib.hid (HQ.out.below hb HQ.out.lt); replace HB := Lib.hid (HB.out.trans (hb.mono HB.out.size)); clear hb; obtain ⟨a0, a1, a2, a3, a4⟩ := cells5' HP.out; obtain ⟨b0, b1, b2, b3, b4⟩ := cells5' HQ.out) | (go_at_call 17; refine (K10.out _).mono ?_; rintro e w9 ⟨rfl, hb⟩; replace HP := Lib.hid (HP.out.below hb HP.out.lt); replace HQ := Lib.hid (HQ.out.below hb HQ.out.lt); replace HB := Lib.hid (HB.out.trans (hb.mono HB.out.size)); clear hb; obtain ⟨a0, a1, a2, a3, a4⟩ := cells5' HP.out; obtain ⟨b0, b1, b2, b3, b4⟩ := cells5' HQ.out) | (go_at_call 18; refine (K11.out _).mono ?_; rintro e w9 ⟨rfl, hb⟩; replace HP := Lib.hid (HP.out.below hb HP.out.lt); replace HQ := Lib.hid (HQ.out.below hb HQ.out.lt); replace HB := Lib.hid (HB.out.trans (hb.mono HB.out.size)); clear hb; obtain ⟨a0, a1, a2, a3, a4⟩ := cells5' HP.out; obtain ⟨b0, b1, b2, b3, b4⟩ := cells5' HQ.out) | (go_at_call 19; refine (K12.out _).mono ?_; rintro e w9 ⟨rfl, hb⟩; replace HP := Lib.hid (HP.out.below hb HP.out.lt); replace HQ := Lib.hid (HQ.out.below hb HQ.out.lt); replace HB := Lib.hid (HB.out.trans (hb.mono HB.out.size)); clear hb; obtain ⟨a0, a1, a2, a3, a4⟩ := cells5' HP.out; obtain ⟨b0, b1, b2, b3, b4⟩ := cells5' HQ.out) | (go_at_call 20; refine (K13.out _).mono ?_; rintro e w9 ⟨rfl, hb⟩; replace HP := Lib.hid (HP.out.below hb HP.out.lt); replace HQ := Lib.hid (HQ.out.below hb HQ.out.lt); replace HB := Lib.hid (HB.out.trans (hb.mono HB.out.size)); clear hb; obtain ⟨a0, a1, a2, a3, a4⟩ := cells5' HP.out; obtain ⟨b0, b1, b2, b3, b4⟩ := cells5' HQ.out) | (go_at_call 21; refine (K14.out _).mono ?_; rintro e w9 ⟨rfl, hb⟩; replace HP := Lib.hid (HP.out.below hb HP.out.lt); replace HQ := Lib.hid (HQ.out.below hb HQ.out.lt); replace HB := Lib.hid (HB.out.trans (hb.mono HB.out.size)); clear hb; obtain ⟨a0, a1, a2, a3, a4⟩ := cells5' HP.out; obtain ⟨b0, b1, b2, b3, b4⟩ := cells5' HQ.out) | (go_at_call 22; refine (worksV_any _ (HN.out.below HB.out) (HT.out.below HB.out)).mono ?_; rintro e w9 ⟨rfl, hb⟩; replace HP := Lib.hid (HP.out.below hb HP.out.lt); replace HQ := Lib.hid (HQ.out.below hb HQ.out.lt); replace HB := Lib.hid (HB.out.trans (hb.mono HB.out.size)); clear hb; obtain ⟨a0, a1, a2, a3, a4⟩ := cells5' HP.out; obtain ⟨b0, b1, b2, b3, b4⟩ := cells5' HQ.out))
    go_wp2
    go_ret
    exact ⟨rfl, HB.out⟩

end Go.Proofs.YtgmecaaogmpakaaDoor
