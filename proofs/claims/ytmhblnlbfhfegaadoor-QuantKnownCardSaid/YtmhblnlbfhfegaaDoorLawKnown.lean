/- The chapter's texts and numbers, one by one: the walk of the closed law. Condition: the library's table of powers of ten lies as it was laid. -/
import Derived.Test.YtmhblnlbfhfegaaDoorLawParses
import Derived.Test.YtmhblnlbfhfegaaDoorLawPrints
import Derived.Test.YtmhblnlbfhfegaaDoorLawReckons
import Derived.Deep.RegionHeld3
namespace Go.Proofs.YtmhblnlbfhfegaaDoor
open Go.RowKit

def tailsL : List (List UInt8) := [[], [109], [107], [75], [77], [71], [75, 105], [77, 105], [71, 105], [109, 105], [107, 105], [75, 105, 105], [84], [37], [46], [46, 53], [46, 53, 48], [46, 49, 50, 53], [46, 49, 50, 53, 53], [46, 53, 109], [46, 53, 71, 105], [46, 37], [195, 169], [255], [32], [45], [43]]
def headsL : List (List UInt8) := [[], [48], [48, 48], [49], [49, 48], [49, 48, 50, 52], [49, 48, 52, 56, 53, 55, 54], [49, 48, 57, 57, 53, 49, 49, 54, 50, 55, 55, 55, 54], [49, 48, 57, 57, 53, 49, 49, 54, 50, 55, 55, 55, 55], [49, 48, 48, 48, 48, 48, 48, 48, 48, 48, 48, 48, 48, 48, 48, 48], [49, 48, 48, 48, 48, 48, 48, 48, 48, 48, 48, 48, 48, 48, 48, 49], [57, 57, 57, 57, 57, 57, 57, 57, 57, 57, 57, 57, 57, 57, 57, 57, 57, 57, 57, 57, 57, 57, 57, 57, 57, 57], [45, 49], [97]]
def endsL : List Int := [-9223372036854775808, -1, 0, 1, 999, 1000, 1001, 1023, 1024, 1048576, 1049600, 1073741824, 1099511627776, 1099511627777, 9223372036854775807]

/-- A block of texts; of numbers. -/
def TextsAt (w : World) (B : Nat) (l : List (List UInt8)) : Prop := w.heap[B]? = some (.cells (l.map fun t => Value.string ⟨t.toArray⟩).toArray 9 (0, 0))
def NumsAt (w : World) (B : Nat) (l : List Int) : Prop := w.heap[B]? = some (.cells (l.map (Value.int .i64)).toArray 3 (0, 0))
theorem TextsAt.lt {w : World} {B : Nat} {l : List (List UInt8)} (h : TextsAt w B l) : B < w.heap.size := (Array.getElem?_eq_some_iff.1 h).1
theorem NumsAt.lt {w : World} {B : Nat} {l : List Int} (h : NumsAt w B l) : B < w.heap.size := (Array.getElem?_eq_some_iff.1 h).1
theorem TextsAt.cell {w : World} {B : Nat} {l : List (List UInt8)} (h : TextsAt w B l) (k : Nat) (hk : k < l.length) : w.cell? ⟨B, k, none⟩ = some (.string ⟨l[k].toArray⟩) := by
  rw [cell_of_row w B k _ _ _ h]
  simp [hk]
theorem NumsAt.cell {w : World} {B : Nat} {l : List Int} (h : NumsAt w B l) (k : Nat) (hk : k < l.length) : w.cell? ⟨B, k, none⟩ = some (.int .i64 l[k]) := by
  rw [cell_of_row w B k _ _ _ h]
  simp [hk]
theorem TextsAt.below {w w' : World} {B C : Nat} {l : List (List UInt8)} (h : TextsAt w B l) (hb : Below C w w') (hB : B < C) : TextsAt w' B l := (hb.block B hB).trans h
theorem NumsAt.below {w w' : World} {B C : Nat} {l : List Int} (h : NumsAt w B l) (hb : Below C w w') (hB : B < C) : NumsAt w' B l := (hb.block B hB).trans h

theorem tails_le (k : Nat) (hk : k < tailsL.length) : tailsL[k].length ≤ 26 := by
  have : ∀ t ∈ tailsL, t.length ≤ 26 := by decide
  exact this _ (List.getElem_mem _)
theorem heads_le (k : Nat) (hk : k < headsL.length) : headsL[k].length ≤ 26 := by
  have : ∀ t ∈ headsL, t.length ≤ 26 := by decide
  exact this _ (List.getElem_mem _)
theorem ends_in (k : Nat) (hk : k < endsL.length) : -9223372036854775808 ≤ endsL[k] ∧ endsL[k] ≤ 9223372036854775807 := by
  have : ∀ t ∈ endsL, -9223372036854775808 ≤ t ∧ t ≤ 9223372036854775807 := by decide
  exact this _ (List.getElem_mem _)

/-- What the first loops keep. -/
structure Kept (w wr : World) : Prop where
  t : TextsAt wr w.heap.size tailsL
  h : TextsAt wr (w.heap.size + 1) headsL
  b : Below w.heap.size w wr

theorem row3 (W : World) (x y z : Int) (t : TypeId) : RowOf (W.alloc (.cells #[.int .i64 x, .int .i64 y, .int .i64 z] t)) (some ⟨W.heap.size, 0, none⟩) [x, y, z] := by
  intro k v hk
  refine ⟨W.heap.size, 0, rfl, ?_⟩
  match k, hk with
  | 0, hk => simp at hk; subst hk; simp [go_sem]
  | 1, hk => simp at hk; subst hk; simp [go_sem]
  | 2, hk => simp at hk; subst hk; simp [go_sem]
  | k + 3, hk => simp at hk

/-- What the last loops keep. -/
structure Kept2 (w : World) (E : Nat) (wr : World) : Prop where
  n : NumsAt wr E endsL
  b : Below w.heap.size w wr

set_option maxRecDepth 100000 in
set_option maxHeartbeats 4000000 in
theorem known_any (w : World) (ht : Tab w) :
    Calls Tryd.prog 10 #[] w fun e w' => e = .returned (.bool true) ∧ Below w.heap.size w w' := by
  have HT := Lib.hid ht
  clear ht
  go_enter Tryd.func10, Tryd.ntmps10
  go_wp2
  go_loopw [3] (fun i wr => ∃ a : Nat, a ≤ 14 ∧ i = .int .i64 (a : Int) ∧ Kept w wr) (fun i _ => 14 - (intOf i).toNat)
  case atStart =>
    refine ⟨0, by omega, rfl, ?_, ?_, ?_⟩
    · exact (show TextsAt (w.alloc _) w.heap.size tailsL from (MapKept.heap_alloc w _).1).below (Below.refl _ _ |>.alloc (Nat.le_refl _) _) (by simp)
    · have h : ∀ W : World, TextsAt (W.alloc (.cells (headsL.map fun t => Value.string ⟨t.toArray⟩).toArray 9)) W.heap.size headsL := fun W => (MapKept.heap_alloc W _).1
      have h2 := h (w.alloc (.cells (tailsL.map fun t => Value.string ⟨t.toArray⟩).toArray 9))
      rw [show (w.alloc (.cells (tailsL.map fun t => Value.string ⟨t.toArray⟩).toArray 9)).heap.size = w.heap.size + 1 by simp] at h2
      exact h2
    · exact ((Below.refl _ w).alloc (Nat.le_refl _) _).alloc (by simp) _
  case round =>
    obtain ⟨a, ha, rfl, hK⟩ := hrel
    have HK := Lib.hid hK
    clear hK
    by_cases hlt : a < 14
    · have ia : (a : Int) < 14 := by omega
      go_wp2
      obtain ⟨wo, rfl⟩ : ∃ wo : World, wo = wr := ⟨_, rfl⟩
      go_loopw [4] (fun i wr => ∃ b : Nat, b ≤ 27 ∧ i = .int .i64 (b : Int) ∧ Kept w wr) (fun i _ => 27 - (intOf i).toNat)
      case atStart => exact ⟨0, by omega, rfl, HK.out⟩
      case round =>
        obtain ⟨b, hb, rfl, hK2⟩ := hrel
        have HK2 := Lib.hid hK2
        clear hK2
        by_cases hlt2 : b < 27
        · have ib : (b : Int) < 27 := by omega
          have ib0 : (0 : Int) ≤ (b : Int) := by omega
          have ia0 : (0 : Int) ≤ (a : Int) := by omega
          obtain ⟨T, hT⟩ : ∃ T, T = tailsL[b]'hlt2 := ⟨_, rfl⟩
          obtain ⟨D, hD⟩ : ∃ D, D = headsL[a]'hlt := ⟨_, rfl⟩
          have hTl : T.length ≤ 26 := by rw [hT]; exact tails_le b hlt2
          have hDl : D.length ≤ 26 := by rw [hD]; exact heads_le a hlt
          have ct1 : wr.drew.cell? ⟨w.heap.size, b, none⟩ = some (.string ⟨T.toArray⟩) := by rw [hT]; exact HK2.out.t.cell b hlt2
          have ch1 : wr.drew.cell? ⟨w.heap.size + 1, a, none⟩ = some (.string ⟨D.toArray⟩) := by rw [hD]; exact HK2.out.h.cell a hlt
          have HT1 : Hid (Tab wr.drew) := HT.out.below HK2.out.b.drew
          have hsz : w.heap.size + 1 < wr.drew.heap.size := HK2.out.h.lt
          have hj := fun W => join_l Tryd.prog W D T (by omega) (by omega)
          obtain ⟨E, hE⟩ : ∃ E, E = D ++ T := ⟨_, rfl⟩
          have hEs : (⟨E.toArray⟩ : ByteArray).size ≤ maxLen := by rw [size_l, hE, List.length_append]; unfold maxLen; omega
          rw [← hE] at hj
          have HE := Lib.hid hEs
          clear hT hD hE hEs
          go_wp2
          go_region_held3 (fun w' => w'.cell? ⟨w.heap.size, b, none⟩ = some (.string ⟨T.toArray⟩) ∧ w'.cell? ⟨w.heap.size + 1, a, none⟩ = some (.string ⟨D.toArray⟩)) (first | exact ⟨ct1, ch1⟩ | exact ⟨ct2, ch2⟩ | exact ⟨ct3, ch3⟩)
            (first
              | (go_at_call 3; (with_reducible refine (parses_any ⟨E.toArray⟩ true _ HE.out HT1.out).mono ?_); rintro e w2 ⟨rfl, hb2⟩; have ct2 := (hb2.cell (p := ⟨w.heap.size, b, none⟩) (by show w.heap.size < _; omega)).trans ct1; have ch2 := (hb2.cell (p := ⟨w.heap.size + 1, a, none⟩) (by show w.heap.size + 1 < _; omega)).trans ch1; have HB2 := Lib.hid hb2; have hsz2 : w.heap.size + 1 < w2.heap.size := Nat.lt_of_lt_of_le hsz hb2.size; clear hb2)
              | (go_at_call 3; (with_reducible refine (parses_any ⟨E.toArray⟩ false _ HE.out (HT1.out.below HB2.out)).mono ?_); rintro e w3 ⟨rfl, hb3⟩; have ct3 := (hb3.cell (p := ⟨w.heap.size, b, none⟩) (by show w.heap.size < _; omega)).trans ct2; have ch3 := (hb3.cell (p := ⟨w.heap.size + 1, a, none⟩) (by show w.heap.size + 1 < _; omega)).trans ch2; have HB3 := Lib.hid hb3; clear hb3))
          go_wp2
          go_roundw
          case rel =>
            refine ⟨b + 1, by omega, by go_num, ?_, ?_, ?_⟩
            · exact ((show TextsAt wr.drew _ _ from HK2.out.t).below HB2.out (by omega)).below HB3.out (by omega)
            · exact ((show TextsAt wr.drew _ _ from HK2.out.h).below HB2.out (by omega)).below HB3.out (by omega)
            · exact (HK2.out.b.drew.trans (HB2.out.mono HK2.out.b.drew.size)).trans (HB3.out.mono (Nat.le_of_lt (by omega)))
          case measure => simp [intOf]; omega
        · have ib : ¬ (b : Int) < 27 := by omega
          go_wp2
          go_roundw
          case rel => exact ⟨a + 1, by omega, by go_num, HK2.out⟩
          case measure => simp [intOf]; omega
    · have ia : ¬ (a : Int) < 14 := by omega
      go_wp2
      obtain ⟨wo, rfl⟩ : ∃ wo : World, wo = wr := ⟨_, rfl⟩
      go_loopw [6] (fun i wr => ∃ c : Nat, c ≤ 15 ∧ i = .int .i64 (c : Int) ∧ Kept2 w wo.heap.size wr) (fun i _ => 15 - (intOf i).toNat)
      case atStart =>
        refine ⟨0, by omega, rfl, ?_, ?_⟩
        · exact (MapKept.heap_alloc wo _).1
        · exact HK.out.b.alloc HK.out.b.size _
      case round =>
        obtain ⟨c, hc, rfl, hK3⟩ := hrel
        have HK3 := Lib.hid hK3
        clear hK3
        have hwo := HK.out.b.size
        by_cases hlt3 : c < 15
        · have ic : (c : Int) < 15 := by omega
          have ic0 : (0 : Int) ≤ (c : Int) := by omega
          obtain ⟨X, hX⟩ : ∃ X, X = endsL[c]'hlt3 := ⟨_, rfl⟩
          have hXr : -9223372036854775808 ≤ X ∧ X ≤ 9223372036854775807 := by rw [hX]; exact ends_in c hlt3
          obtain ⟨hX0, hX1⟩ := hXr
          have cx1 : wr.cell? ⟨wo.heap.size, c, none⟩ = some (.int .i64 X) := by rw [hX]; exact HK3.out.n.cell c hlt3
          have HT1 : Hid (Tab wr) := HT.out.below HK3.out.b
          have hsz : wo.heap.size < wr.heap.size := HK3.out.n.lt
          have HX := Lib.hid hX
          clear hX
          go_wp2_with (first
            | (go_at_call 4; (with_reducible refine (prints_law X true _ HT1.out hX0 hX1).mono ?_); rintro e w2 ⟨rfl, hb2⟩; have cx2 := (hb2.cell (p := ⟨wo.heap.size, c, none⟩) hsz).trans cx1; have HB2 := Lib.hid hb2; have hsz2 : wo.heap.size < w2.heap.size := Nat.lt_of_lt_of_le hsz hb2.size; clear hb2)
            | (go_at_call 4; (with_reducible refine (prints_law X false _ (HT1.out.below HB2.out) hX0 hX1).mono ?_); rintro e w3 ⟨rfl, hb3⟩; have HB3 := Lib.hid hb3; have hsz3 : wo.heap.size < w3.heap.size := Nat.lt_of_lt_of_le hsz2 hb3.size; clear hb3))
          have HK4 : Hid (Kept2 w wo.heap.size w3) := ⟨(HK3.out.n.below HB2.out hsz).below HB3.out hsz2, (HK3.out.b.trans (HB2.out.mono HK3.out.b.size)).trans (HB3.out.mono (Nat.le_trans HK3.out.b.size HB2.out.size))⟩
          go_loopw [7] (fun i wr => ∃ d : Nat, d ≤ 15 ∧ i = .int .i64 (d : Int) ∧ Kept2 w wo.heap.size wr) (fun i _ => 15 - (intOf i).toNat)
          case atStart => exact ⟨0, by omega, rfl, HK4.out⟩
          case round =>
            obtain ⟨d, hd, rfl, hK5⟩ := hrel
            have HK5 := Lib.hid hK5
            clear hK5
            by_cases hlt4 : d < 15
            · have idd : (d : Int) < 15 := by omega
              have idd0 : (0 : Int) ≤ (d : Int) := by omega
              obtain ⟨Y, hY⟩ : ∃ Y, Y = endsL[d]'hlt4 := ⟨_, rfl⟩
              have hYr : -9223372036854775808 ≤ Y ∧ Y ≤ 9223372036854775807 := by rw [hY]; exact ends_in d hlt4
              obtain ⟨hY0, hY1⟩ := hYr
              have cx4 : wr.drew.cell? ⟨wo.heap.size, c, none⟩ = some (.int .i64 X) := by rw [HX.out]; exact HK5.out.n.cell c hlt3
              have cy4 : wr.drew.cell? ⟨wo.heap.size, d, none⟩ = some (.int .i64 Y) := by rw [hY]; exact HK5.out.n.cell d hlt4
              have HT5 : Hid (Tab wr.drew) := HT.out.below HK5.out.b.drew
              have hsz5 : wo.heap.size < wr.drew.heap.size := HK5.out.n.lt
              clear hY cx1 cx2
              go_wp2
              go_region_held3 (fun w' => w'.cell? ⟨wo.heap.size, c, none⟩ = some (.int .i64 X) ∧ w'.cell? ⟨wo.heap.size, d, none⟩ = some (.int .i64 Y)) (first | exact ⟨cx4, cy4⟩ | exact ⟨cx5, cy5⟩ | exact ⟨(World.cell?_alloc_lt _ _ _ hsz5).trans cx4, (World.cell?_alloc_lt _ _ _ hsz5).trans cy4⟩)
                (first
                  | (go_at_call 5; refine (reckons_any _ 3 [X, Y, 1] X Y _ (by simp [maxLen]) (by simp) (row3 _ X Y 1 _) (HT5.out.alloc _) hX0 hX1 hY0 hY1).mono ?_; rintro e w5 ⟨rfl, hb5⟩; have cx5 := (hb5.cell (p := ⟨wo.heap.size, c, none⟩) (Nat.lt_of_lt_of_le hsz5 (by simp))).trans ((World.cell?_alloc_lt _ _ _ hsz5).trans cx4); have cy5 := (hb5.cell (p := ⟨wo.heap.size, d, none⟩) (Nat.lt_of_lt_of_le hsz5 (by simp))).trans ((World.cell?_alloc_lt _ _ _ hsz5).trans cy4); have HB5 := Lib.hid hb5; clear hb5))
              go_wp2
              go_roundw
              case rel =>
                refine ⟨d + 1, by omega, by go_num, ?_, ?_⟩
                · exact ((show NumsAt wr.drew _ _ from HK5.out.n).below ((Below.refl _ _).alloc (Nat.le_refl _) _) hsz5).below HB5.out (Nat.lt_of_lt_of_le hsz5 (by simp))
                · exact (HK5.out.b.drew.alloc HK5.out.b.drew.size _).trans (HB5.out.mono (Nat.le_trans HK5.out.b.drew.size (by simp)))
              case measure => simp [intOf]; omega
            · have idd : ¬ (d : Int) < 15 := by omega
              go_wp2
              go_roundw
              case rel => exact ⟨c + 1, by omega, by go_num, HK5.out⟩
              case measure => simp [intOf]; omega
        · have ic : ¬ (c : Int) < 15 := by omega
          go_wp2_with fail
          refine (works_any _ (HT.out.below HK3.out.b)).mono ?_
          rintro e w6 ⟨rfl, hb6⟩
          have HB6 := Lib.hid (HK3.out.b.trans (hb6.mono HK3.out.b.size))
          clear hb6
          go_wp2_with fail
          refine (reckons_any none 0 [] 0 0 _ (by simp) (by simp) (RowOf.nil _ _) (HT.out.below HB6.out) (by decide) (by decide) (by decide) (by decide)).mono ?_
          rintro e w7 ⟨rfl, hb7⟩
          have HB7 := Lib.hid (HB6.out.trans (hb7.mono HB6.out.size))
          clear hb7
          go_wp2
          go_ret
          exact ⟨rfl, HB7.out⟩

end Go.Proofs.YtmhblnlbfhfegaaDoor
