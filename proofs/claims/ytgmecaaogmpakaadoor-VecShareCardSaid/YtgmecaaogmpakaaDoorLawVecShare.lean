/- A row's share is that of its greatest place; of more that is used it is no less: the walk. Conditions: the names of the places, and the library's table of powers of ten, lie as they were laid; the numbers are ints. -/
import Derived.Test.YtgmecaaogmpakaaDoorVecWorks
import Derived.Test.YtgmecaaogmpakaaDoorVecMade
import Derived.Test.YtgmecaaogmpakaaDoorVecRef
import Derived.Deep.RegionWith
import Derived.Deep.DeepCutAuto
import Derived.RegionTactic
namespace Go.Proofs.YtgmecaaogmpakaaDoor
open Go.RowKit

/-- A row of five numbers. -/
def five5 (a b c d e : Int) : Nat → Int
  | 0 => a
  | 1 => b
  | 2 => c
  | 3 => d
  | _ => e
theorem made5 (a b c d e : Int) (w : World) : Calls Tryd.prog 26 #[.agg #[.int .i64 a, .int .i64 b, .int .i64 c, .int .i64 d, .int .i64 e]] w fun z w' => z = .returned (.agg #[.int .i64 (a % 68719476736), .int .i64 (b % 68719476736), .int .i64 (c % 68719476736), .int .i64 (d % 68719476736), .int .i64 (e % 68719476736)]) ∧ Below w.heap.size w w' :=
  made_any (five5 a b c d e) w
theorem cells5 {w : World} {b : Nat} {x : Nat → Int} (h : RowAt w b x) : w.cell? ⟨b, 0, none⟩ = some (.int .i64 (x 0)) ∧ w.cell? ⟨b, 1, none⟩ = some (.int .i64 (x 1)) ∧ w.cell? ⟨b, 2, none⟩ = some (.int .i64 (x 2)) ∧ w.cell? ⟨b, 3, none⟩ = some (.int .i64 (x 3)) ∧ w.cell? ⟨b, 4, none⟩ = some (.int .i64 (x 4)) :=
  ⟨h.cell (by omega), h.cell (by omega), h.cell (by omega), h.cell (by omega), h.cell (by omega)⟩
theorem free5 {w : World} {b : Nat} {x : Nat → Int} (h : RowAt w b x) : w.frozen? ⟨b, 0, none⟩ = false ∧ w.frozen? ⟨b, 1, none⟩ = false ∧ w.frozen? ⟨b, 2, none⟩ = false ∧ w.frozen? ⟨b, 3, none⟩ = false ∧ w.frozen? ⟨b, 4, none⟩ = false :=
  ⟨h.free 0, h.free 1, h.free 2, h.free 3, h.free 4⟩

theorem set5 {w : World} {b : Nat} {x : Nat → Int} (h : RowAt w b x) (a0 a1 a2 a3 a4 : Int) :
    RowAt (((((w.setCell ⟨b, 0, none⟩ (.int .i64 a0)).setCell ⟨b, 1, none⟩ (.int .i64 a1)).setCell ⟨b, 2, none⟩ (.int .i64 a2)).setCell ⟨b, 3, none⟩ (.int .i64 a3)).setCell ⟨b, 4, none⟩ (.int .i64 a4)) b (five5 a0 a1 a2 a3 a4) :=
  (((((h.set (k := 0) (by omega) a0).set (k := 1) (by omega) a1).set (k := 2) (by omega) a2).set (k := 3) (by omega) a3).set (k := 4) (by omega) a4)
theorem other5 {w : World} {b g : Nat} {x : Nat → Int} (h : RowAt w b x) (hne : b ≠ g) (a0 a1 a2 a3 a4 : Int) :
    RowAt (((((w.setCell ⟨g, 0, none⟩ (.int .i64 a0)).setCell ⟨g, 1, none⟩ (.int .i64 a1)).setCell ⟨g, 2, none⟩ (.int .i64 a2)).setCell ⟨g, 3, none⟩ (.int .i64 a3)).setCell ⟨g, 4, none⟩ (.int .i64 a4)) b x :=
  (((((h.other _ _ hne).other _ _ hne).other _ _ hne).other _ _ hne).other _ _ hne)
theorem belowS5 {B : Nat} {W w : World} (h : Below B W w) {g : Nat} (hg : B ≤ g) (a0 a1 a2 a3 a4 : Int) :
    Below B W (((((w.setCell ⟨g, 0, none⟩ (.int .i64 a0)).setCell ⟨g, 1, none⟩ (.int .i64 a1)).setCell ⟨g, 2, none⟩ (.int .i64 a2)).setCell ⟨g, 3, none⟩ (.int .i64 a3)).setCell ⟨g, 4, none⟩ (.int .i64 a4)) :=
  (((((h.setCell hg _).setCell hg _).setCell hg _).setCell hg _).setCell hg _)

theorem share_ok (a b : Int) (h0 : 0 ≤ a) (h1 : a ≤ top) (h2 : 0 < b) (h3 : b ≤ top) : shareL a b = (a * 1000 / b, 0) := by
  unfold shareL
  rw [if_neg (by omega), if_neg (by omega), if_neg (by omega)]
theorem great_congr {r s : Nat → Int} : ∀ {k : Nat}, (∀ j, j < k → r j = s j) → greatest r k = greatest s k
  | 0, _ => rfl
  | k + 1, h => by
    rw [greatest, greatest, great_congr (fun j hj => h j (by omega)), h k (by omega)]
theorem great_mono {r s : Nat → Int} : ∀ {k : Nat}, (∀ j, j < k → r j ≤ s j) → greatest r k ≤ greatest s k
  | 0, _ => Int.le_refl _
  | k + 1, h => by
    have h1 := great_mono (k := k) (fun j hj => h j (by omega))
    have h2 := h k (by omega)
    rw [greatest, greatest]
    split <;> split <;> omega
/-- What the shares of rows that are well come to. -/
theorem shares_are (u v : Nat → Int) (hu : ∀ j, j < 5 → 0 ≤ u j ∧ u j ≤ top) (hv : ∀ j, j < 5 → 0 < v j ∧ v j ≤ top) :
    firstE (shareF u v) 5 = 0 ∧ greatest (eachR (shareF u v)) 5 = greatest (fun j => u j * 1000 / v j) 5 := by
  have hs : ∀ j, j < 5 → shareF u v j = (u j * 1000 / v j, 0) := fun j hj => share_ok _ _ (hu j hj).1 (hu j hj).2 (hv j hj).1 (hv j hj).2
  have h1 : firstE (shareF u v) 5 = 0 := firstE_none (fun j hj => by rw [hs j hj])
  refine ⟨h1, great_congr (fun j hj => ?_)⟩
  unfold eachR
  rw [if_neg (by rw [h1]; simp), hs j hj]

theorem max_if (a b : Int) : max a b = if a < b then b else a := by
  split <;> omega
theorem upd_ge (u : Nat → Int) (i : Nat) (j : Nat) : u j ≤ upd u i (u i + 7) j := by
  unfold upd
  split
  · rename_i h; subst h; omega
  · exact Int.le_refl _
/-- A row of which the first k are one more. -/
def moreV (v : Nat → Int) (k : Nat) : Nat → Int := fun j => if j < k then v j + 1 else v j
theorem more_zero (v : Nat → Int) : moreV v 0 = v := by
  funext j
  simp [moreV]
theorem more_succ (v : Nat → Int) (k : Nat) : moreV v (k + 1) = upd (moreV v k) k (v k + 1) := by
  funext j
  unfold moreV upd
  by_cases hj : j = k
  · subst hj; simp
  · by_cases hj2 : j < k
    · simp [hj, hj2, show j < k + 1 by omega]
    · simp [hj, hj2, show ¬ j < k + 1 by omega]

set_option maxRecDepth 100000 in
set_option maxHeartbeats 2000000 in
theorem vecShare_any (x y : Nat → Int) (m : Int) (w : World) (hn : NamesAt w) (ht : Tab w) (hm0 : -9223372036854775808 ≤ m) (hm1 : m ≤ 9223372036854775807) :
    Calls Tryd.prog 7 #[.agg #[.int .i64 (x 0), .int .i64 (x 1), .int .i64 (x 2), .int .i64 (x 3), .int .i64 (x 4)], .agg #[.int .i64 (y 0), .int .i64 (y 1), .int .i64 (y 2), .int .i64 (y 3), .int .i64 (y 4)], .int .i64 m] w fun e w' => e = .returned (.bool true) ∧ Below w.heap.size w w' := by
  have HN := Lib.hid hn
  have HT := Lib.hid ht
  clear hn ht
  go_enter Tryd.func7, Tryd.ntmps7
  go_wp2
  go_cut [13] (fun _ wc => RowAt wc w.heap.size (madeV x) ∧ RowAt wc (w.heap.size + 1) (madeV y) ∧ Below w.heap.size w wc)
  case first =>
    obtain ⟨W, hW⟩ : ∃ W, W = (w.alloc (.cells #[.int .i64 (x 0), .int .i64 (x 1), .int .i64 (x 2), .int .i64 (x 3), .int .i64 (x 4)] 24)).alloc (.cells #[.int .i64 (y 0), .int .i64 (y 1), .int .i64 (y 2), .int .i64 (y 3), .int .i64 (y 4)] 24) := ⟨_, rfl⟩
    have HX : Hid (RowAt W.drew w.heap.size x) := by rw [hW]; exact (two_at w x y).1
    have HY : Hid (RowAt W.drew (w.heap.size + 1) y) := by rw [hW]; exact (two_at w x y).2
    have HB : Hid (Below w.heap.size w W.drew) := by rw [hW]; exact (below2 w _ _).drew
    rw [← hW]
    clear hW
    obtain ⟨c0, c1, c2, c3, c4⟩ := cells5 HX.out
    obtain ⟨d0, d1, d2, d3, d4⟩ := cells5 HY.out
    obtain ⟨f0, f1, f2, f3, f4⟩ := free5 HX.out
    obtain ⟨g0, g1, g2, g3, g4⟩ := free5 HY.out
    go_region_with
      (first | (go_at_call 26; refine (made5 _ _ _ _ _ _).mono ?_; rintro e w1 ⟨rfl, hb1⟩; replace HX := Lib.hid (HX.out.below hb1 HX.out.lt); replace HY := Lib.hid (HY.out.below hb1 HY.out.lt); replace HB := Lib.hid (HB.out.trans (hb1.mono HB.out.size)); clear hb1; obtain ⟨c0, c1, c2, c3, c4⟩ := cells5 HX.out; obtain ⟨d0, d1, d2, d3, d4⟩ := cells5 HY.out; obtain ⟨f0, f1, f2, f3, f4⟩ := free5 HX.out; obtain ⟨g0, g1, g2, g3, g4⟩ := free5 HY.out))
    all_goals
      go_wp2_with fail
      go_meet
      exact ⟨other5 (set5 HX.out _ _ _ _ _) (by omega) _ _ _ _ _, set5 (other5 HY.out (by omega) _ _ _ _ _) _ _ _ _ _, belowS5 (belowS5 HB.out (Nat.le_refl _) _ _ _ _ _) (by omega) _ _ _ _ _⟩
  case rest =>
    obtain ⟨hx, hy, hb⟩ := hcut
    have HX := Lib.hid hx
    have HY := Lib.hid hy
    have HB := Lib.hid hb
    clear hx hy hb
    have hu : ∀ j, 0 ≤ madeV x j ∧ madeV x j ≤ 68719476735 := made_range x
    have hv : ∀ j, 0 ≤ madeV y j ∧ madeV y j ≤ 68719476735 := made_range y
    generalize madeV x = u at *
    generalize madeV y = v at *
    have HU := Lib.hid hu
    have HV := Lib.hid hv
    clear hu hv
    go_wp2
    go_loopw [7, 8] (fun s i wr => ∃ k : Nat, k ≤ 5 ∧ i = .int .i64 k ∧ s = .int .i64 (greatest (fun j => u j * 1000 / (v j + 1)) k) ∧ RowAt wr w.heap.size u ∧ RowAt wr (w.heap.size + 1) (moreV v k) ∧ Below w.heap.size w wr) (fun _ i _ => 5 - (intOf i).toNat)
    case atStart => exact ⟨0, by omega, rfl, rfl, HX.out, by rw [more_zero]; exact HY.out, HB.out⟩
    case round =>
      obtain ⟨k, hk, rfl, rfl, hx, hy, hb⟩ := hrel
      have HXr := Lib.hid hx
      have HYr := Lib.hid hy
      have HBr := Lib.hid hb
      clear hx hy hb HX HY HB
      by_cases hlt : k < 5
      · have cx := HXr.out.cell hlt
        have cy := HYr.out.cell hlt
        have fy := HYr.out.free k
        have e1 : moreV v k k = v k := by simp [moreV]
        rw [e1] at cy
        clear e1
        obtain ⟨u0, u1⟩ := HU.out k
        obtain ⟨v0, v1⟩ := HV.out k
        have cx2 := (HXr.out.other ⟨w.heap.size + 1, k, none⟩ (.int .i64 (v k + 1)) (by simp)).cell hlt
        have cy2 := (HYr.out.set hlt (v k + 1)).cell hlt
        have e2 : upd (moreV v k) k (v k + 1) k = v k + 1 := by simp [upd]
        rw [e2] at cy2
        clear e2
        have q0 : 0 ≤ u k * 1000 / (v k + 1) := Int.ediv_nonneg (by omega) (by omega)
        go_wp2
        go_quiet (fail)
        go_wp2
        go_roundw
        case rel => exact ⟨k + 1, by omega, by go_num, by rw [greatest, max_if], HXr.out.other _ _ (by simp), by rw [more_succ]; exact HYr.out.set hlt _, belowN (HBr.out.setCell (by simp) _) _⟩
        case measure => simp [intOf]; omega
      · obtain rfl : k = 5 := by omega
        have hu5 : ∀ j, j < 5 → 0 ≤ u j ∧ u j ≤ top := fun j _ => by have := HU.out j; unfold top; omega
        have hv5 : ∀ j, j < 5 → 0 < moreV v 5 j ∧ moreV v 5 j ≤ top := fun j hj => by
          have h := HV.out j
          unfold moreV top
          rw [if_pos hj]
          omega
        have hi0 : 0 ≤ m % 5 := by omega
        have hi1 : m % 5 < 5 := by omega
        obtain ⟨i, hi⟩ : ∃ i : Nat, m % 5 = (i : Int) := ⟨(m % 5).toNat, by omega⟩
        have hi5 : i < 5 := by omega
        have hu6 : ∀ j, j < 5 → 0 ≤ upd u i (u i + 7) j ∧ upd u i (u i + 7) j ≤ top := fun j hj => by
          have h1 := HU.out j
          have h2 := HU.out i
          unfold upd top
          split <;> omega
        obtain ⟨s1, s2⟩ := shares_are u (moreV v 5) hu5 hv5
        obtain ⟨s3, s4⟩ := shares_are (upd u i (u i + 7)) (moreV v 5) hu6 hv5
        have hcg : greatest (fun j => u j * 1000 / moreV v 5 j) 5 = greatest (fun j => u j * 1000 / (v j + 1)) 5 := great_congr (fun j hj => by unfold moreV; rw [if_pos hj])
        rw [hcg] at s2
        have hge : greatest (fun j => u j * 1000 / (v j + 1)) 5 ≤ greatest (fun j => upd u i (u i + 7) j * 1000 / moreV v 5 j) 5 := by
          rw [← hcg]
          refine great_mono (fun j hj => ?_)
          have h1 := upd_ge u i j
          have h2 := (hv5 j hj).1
          exact Int.ediv_le_ediv h2 (by omega)
        have ix : Ints u := fun j hj => by have h := hu5 j hj; unfold top at h; omega
        have iy : Ints (moreV v 5) := fun j hj => by have h := hv5 j hj; unfold top at h; omega
        have ix2 : Ints (upd u i (u i + 7)) := fun j hj => by have h := hu6 j hj; unfold top at h; omega
        have K1 := Lib.hid (fun w => vshare_any u (moreV v 5) w ix iy)
        have K2 := Lib.hid (fun w => vshare_any (upd u i (u i + 7)) (moreV v 5) w ix2 iy)
        rw [s1, s2] at K1
        rw [s3, s4] at K2
        generalize greatest (fun j => u j * 1000 / (v j + 1)) 5 = n at *
        generalize greatest (fun j => upd u i (u i + 7) j * 1000 / moreV v 5 j) 5 = n2 at *
        have Hi := Lib.hid hi
        have hui := HU.out i
        obtain ⟨ui0, ui1⟩ := hui
        clear hu5 hv5 hu6 s1 s2 s3 s4 hcg ix iy ix2 hi hi0 hi1
        have hnn : (n == n) = true := by simp
        go_wp2_with (first | refine wpList_load_row rfl 24 (.tmp 3) rfl w.heap.size rfl 24 _ (0, 0) _ HXr.out Tryd.underlying24 rfl vec_size ?_ | refine wpList_load_row rfl 24 (.tmp 4) rfl (w.heap.size + 1) rfl 24 _ (0, 0) _ HYr.out Tryd.underlying24 rfl vec_size ?_)
        refine (K1.out _).mono ?_
        rintro e w2 ⟨rfl, hb2⟩
        replace HXr := Lib.hid (HXr.out.below hb2 HXr.out.lt)
        replace HYr := Lib.hid (HYr.out.below hb2 HYr.out.lt)
        replace HBr := Lib.hid (HBr.out.trans (hb2.mono HBr.out.size))
        clear hb2 K1
        go_wp2_with fail
        refine (bring_any m 5 _ (by omega) (by omega)).mono ?_
        rw [Hi.out]
        rintro e w3 ⟨rfl, rfl⟩
        have cx := HXr.out.cell hi5
        have fx := HXr.out.free i
        have HX2 := Lib.hid (HXr.out.set hi5 (u i + 7))
        have HY2 := Lib.hid (HYr.out.other ⟨w.heap.size, i, none⟩ (.int .i64 (u i + 7)) (by simp))
        have HB2 := Lib.hid (HBr.out.setCell (p := ⟨w.heap.size, i, none⟩) (Nat.le_refl _) (.int .i64 (u i + 7)))
        go_wp2_with (first | refine wpList_load_row rfl 24 (.tmp 3) rfl w.heap.size rfl 24 _ (0, 0) _ HX2.out Tryd.underlying24 rfl vec_size ?_ | refine wpList_load_row rfl 24 (.tmp 4) rfl (w.heap.size + 1) rfl 24 _ (0, 0) _ HY2.out Tryd.underlying24 rfl vec_size ?_)
        refine (K2.out _).mono ?_
        rintro e w4 ⟨rfl, hb2⟩
        replace HB2 := Lib.hid (HB2.out.trans (hb2.mono HB2.out.size))
        clear hb2 K2 cx fx
        go_wp2_with fail
        refine (worksV_any _ (HN.out.below HB2.out) (HT.out.below HB2.out)).mono ?_
        rintro e w5 ⟨rfl, hb2⟩
        replace HB2 := Lib.hid (HB2.out.trans (hb2.mono HB2.out.size))
        clear hb2
        go_wp2
        go_ret
        exact ⟨rfl, HB2.out⟩

end Go.Proofs.YtgmecaaogmpakaaDoor
