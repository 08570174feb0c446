/- What the plain functions tell of the chapter's cluster. No conditions. The chapter's examples hold. No conditions. -/
import Derived.Test.YtfnigiiocapceaaGreatKChap
import Derived.Test.YtfnigiiocapceaaGreatKSpread
import Derived.Test.YtfnigiiocapceaaGreatKTexts
import Derived.Test.YtfnigiiocapceaaGreatKa
import Derived.Test.YtfnigiiocapceaaGreatVecEq

namespace Go.Proofs.YtfnigiiocapceaaGreat
open Go.RowKit Go.Maps Go.Sort

theorem ch_check (N : Nat) : checkS (chN N [98] false) chP chO = 0 := by kernel_rfl
theorem ch_checkL (N : Nat) : checkS (chN N [98] true) chP chO = 0 := by kernel_rfl
theorem ch_checkA (N : Nat) : checkS (chN N [65] true) chP chO = 50 := by kernel_rfl
theorem ch_dom2 (N : Nat) : domE (chN N [98] false) chP chO 2 bZone = none := by kernel_rfl
theorem ch_domL (N : Nat) : domE (chN N [98] true) chP chO 1 bZone = none := by kernel_rfl
theorem ch_ap1 (N : Nat) : applyF (chN N [98] false) chP chO [0, 2, -1] 1 0 0 = ([-1, 2, -1], 0) := by kernel_rfl
theorem ch_ap2 (N : Nat) : applyF (chN N [98] false) chP chO [0, 2, -1] 2 2 1 = ([0, 2, 1], 0) := by kernel_rfl
theorem ch_ap3 (N : Nat) : applyF (chN N [98] false) chP chO [0, 2, -1] 1 2 0 = ([], 110) := by kernel_rfl
theorem ch_moves : movesF [0, 2, -1] [0, 1, 1] = [(1, 1), (2, 1)] := by kernel_rfl
theorem ch_used (N : Nat) : rowV (usedF (chN N [98] false) chP chO [0, 0, -1] 0) = .agg #[.int .i64 20, .int .i64 0, .int .i64 0, .int .i64 0, .int .i64 0] := by kernel_rfl
theorem ch_counts (N : Nat) : countsF (chN N [98] false) chP chO [0, 2, -1] 0 = [1, 0, 1] := by kernel_rfl
theorem ch_placed (N : Nat) : placedF (chN N [98] false) chP chO [0, 2, -1] 0 = 2 := by kernel_rfl
theorem ch_keys (N : Nat) : strKeys (emptyD (chN N [98] false) bZone) = [[120], [121]] := by kernel_rfl
theorem ch_keysL (N : Nat) : strKeys (emptyD (chN N [98] true) bZone) = [[120]] := by kernel_rfl
theorem sort2 : ([[120], [121]] : List (List UInt8)).mergeSort leB = [[120], [121]] := by
  refine List.mergeSort_of_pairwise ?_
  simp
  decide
theorem sort1 : ([[120]] : List (List UInt8)).mergeSort leB = [[120]] := List.mergeSort_singleton _
theorem ch_doms (N : Nat) : domsF (chN N [98] false) chP chO bZone = [[120], [121]] := by
  unfold domsF sortK
  rw [ch_check, if_pos rfl, ch_keys, sort2]
theorem ch_domsL (N : Nat) : domsF (chN N [98] true) chP chO bZone = [[120]] := by
  unfold domsF sortK
  rw [ch_checkL, if_pos rfl, ch_keysL, sort1]
theorem ch_domsA (N : Nat) : domsF (chN N [65] true) chP chO bZone = [] := by
  unfold domsF
  rw [ch_checkA, if_neg (by decide)]
theorem ch_spread (N : Nat) : spreadF (chN N [98] false) chP chO [0, 2, -1] 0 = [1, 0] := by
  have h1 : ownerB (chN N [98] false) chP chO [0, 2, -1] 0 = true := by kernel_rfl
  have h2 : strKeys (spreadD (chN N [98] false) bZone [0, 2, -1] (offL [0, 2, -1] (membersF chP [111]))) = [[120], [121]] := by kernel_rfl
  unfold spreadF
  rw [if_pos h1]
  show rowD (spreadD (chN N [98] false) bZone [0, 2, -1] (offL [0, 2, -1] (membersF chP [111]))) = [1, 0]
  unfold rowD sortK
  rw [h2, sort2]
  kernel_rfl
theorem ch_spreadL (N : Nat) : spreadF (chN N [98] true) chP chO [0, 2, -1] 0 = [1] := by
  have h1 : ownerB (chN N [98] true) chP chO [0, 2, -1] 0 = true := by kernel_rfl
  have h2 : strKeys (spreadD (chN N [98] true) bZone [0, 2, -1] (offL [0, 2, -1] (membersF chP [111]))) = [[120]] := by kernel_rfl
  unfold spreadF
  rw [if_pos h1]
  show rowD (spreadD (chN N [98] true) bZone [0, 2, -1] (offL [0, 2, -1] (membersF chP [111]))) = [1]
  unfold rowD sortK
  rw [h2, sort1]
  kernel_rfl
end Go.Proofs.YtfnigiiocapceaaGreat

namespace Go.Proofs.YtfnigiiocapceaaGreat
open Go.RowKit

theorem ints_new (W : World) (l : List Int) (hl : l.length ≤ 1000) : IntsAt (W.alloc (.cells (intsC l).toArray 3)) (some ⟨W.heap.size, 0, none⟩) l.length l := by
  refine ⟨fun j y hj => ⟨W.heap.size, 0, rfl, ?_⟩, Nat.le_refl _, by omega⟩
  rw [Nat.zero_add, Blk.cell (Blk.new W _ _) j, ← hj, ← List.getElem?_toArray]
theorem texts_new (W : World) (l : List (List UInt8)) (hl : l.length ≤ 1000) : TextsAt (W.alloc (.cells (l.map strV).toArray 9)) (some ⟨W.heap.size, 0, none⟩) l.length l := by
  refine ⟨fun j y hj => ⟨W.heap.size, 0, rfl, ?_⟩, Nat.le_refl _, by omega⟩
  rw [Nat.zero_add, Blk.cell (Blk.new W _ _) j, ← hj, ← List.getElem?_toArray]
theorem part_mov0 (a b : Int) (w : World) : (part 3 #[.int .i64 a, .int .i64 b] 0).run Tryz.prog w = .ok (.int .i64 a) w := by kernel_rfl
theorem part_mov1 (a b : Int) (w : World) : (part 3 #[.int .i64 a, .int .i64 b] 1).run Tryz.prog w = .ok (.int .i64 b) w := by kernel_rfl
theorem eq_mov_in (n : Nat) (a b : Int) (w : World) : (Op.equalIn (n + 2) 67 (.agg #[.int .i64 a, .int .i64 b]) (.agg #[.int .i64 a, .int .i64 b])).run Tryz.prog w = .ok true w := by
  rw [Op.equalIn]
  simp only [Sem.run_bind, run_underlying Tryz.underlying67, Result.andThen_ok, Qu.int_size]
  simp [Std.Legacy.Range.forIn_eq_forIn_range', Std.Legacy.Range.size, List.range', Sem.run_bind, part_mov0, part_mov1, Qu.eq_int, Qu.int_size]
theorem eq_mov (a b : Int) (w : World) : (Op.equalIn 10000 67 (.agg #[.int .i64 a, .int .i64 b]) (.agg #[.int .i64 a, .int .i64 b])).run Tryz.prog w = .ok true w := eq_mov_in 9998 a b w
theorem mov_guard : Tryz.prog.eqGuardType Tryz.prog.depth 67 = false := by kernel_rfl
/-- The cluster, its box, a placement lie in memory. -/
structure WkAt (w W : World) (N Sb : Nat) (B : Option Addr) (cb : Nat) (P : Option Addr) (p : List Int) : Prop where
  s : SnapAt W (some ⟨N + 3, 0, none⟩) B (some ⟨N + 4, 0, none⟩) 3 cb 1 (chN N [98] false) chP chO
  b : Blk W Sb #[.slice (some ⟨N + 3, 0, none⟩) 3 3, .slice B 3 cb, .slice (some ⟨N + 4, 0, none⟩) 1 1] 26
  p : IntsAt W P p.length p
  w : Below w.heap.size w W
theorem WkAt.below {w W W' : World} {N Sb : Nat} {B : Option Addr} {cb : Nat} {P : Option Addr} {p : List Int} (h : WkAt w W N Sb B cb P p) (hb : Below W.heap.size W W') : WkAt w W' N Sb B cb P p :=
  ⟨h.s.below hb, h.b.below hb h.b.lt, h.p.below hb, h.w.trans (hb.mono h.w.size)⟩
theorem WkAt.c0 {w W : World} {N Sb : Nat} {B : Option Addr} {cb : Nat} {P : Option Addr} {p : List Int} (h : WkAt w W N Sb B cb P p) : W.cell? ⟨Sb, 0, none⟩ = some (.slice (some ⟨N + 3, 0, none⟩) 3 3) ∧ W.cell? ⟨Sb, 1, none⟩ = some (.slice B 3 cb) ∧ W.cell? ⟨Sb, 2, none⟩ = some (.slice (some ⟨N + 4, 0, none⟩) 1 1) :=
  ⟨Blk.cell h.b 0, Blk.cell h.b 1, Blk.cell h.b 2⟩

set_option maxRecDepth 100000 in
set_option maxHeartbeats 8000000 in
theorem works_any (w : World) :
    Calls Tryz.prog 22 #[] w fun e w' => e = .returned (.bool true) ∧ Below w.heap.size w w' := by
  have KC := Lib.hid (chapter_any w)
  go_enter Tryz.func22, Tryz.ntmps22
  go_wp2_with fail
  refine (KC.out).mono ?_
  rintro e w1 ⟨B, cb, rfl, hch, hb⟩
  have hsn := hch.snap (by simp)
  have H0 : Hid (WkAt w ((w1.alloc (.cells #[.slice (some ⟨w.heap.size + 3, 0, none⟩) 3 3, .slice B 3 cb, .slice (some ⟨w.heap.size + 4, 0, none⟩) 1 1] 26)).alloc (.cells (intsC [0, 2, -1]).toArray 3)) w.heap.size w1.heap.size B cb (some ⟨w1.heap.size + 1, 0, none⟩) [0, 2, -1]) := Lib.hid (by
    have h1 := below1 w1 (.cells #[.slice (some ⟨w.heap.size + 3, 0, none⟩) 3 3, .slice B 3 cb, .slice (some ⟨w.heap.size + 4, 0, none⟩) 1 1] 26)
    have h2 := Qu.below2 w1 (.cells #[.slice (some ⟨w.heap.size + 3, 0, none⟩) 3 3, .slice B 3 cb, .slice (some ⟨w.heap.size + 4, 0, none⟩) 1 1] 26) (.cells (intsC [0, 2, -1]).toArray 3)
    refine ⟨hsn.below h2, Blk.alloc (Blk.new w1 _ _) _, ?_, hb.trans (h2.mono hb.size)⟩
    have := ints_new (w1.alloc (.cells #[.slice (some ⟨w.heap.size + 3, 0, none⟩) 3 3, .slice B 3 cb, .slice (some ⟨w.heap.size + 4, 0, none⟩) 1 1] 26)) [0, 2, -1] (by simp)
    rwa [World.size_alloc] at this)
  clear hch hsn hb KC
  have hw0 : (w1.alloc (.cells #[.slice (some ⟨w.heap.size + 3, 0, none⟩) 3 3, .slice B 3 cb, .slice (some ⟨w.heap.size + 4, 0, none⟩) 1 1] 26)).heap.size = w1.heap.size + 1 := World.size_alloc _ _

  obtain ⟨b0, b1, b2⟩ := H0.out.c0
  have KD := Lib.hid (domain_any _ B _ 3 cb 1 (chN w.heap.size [98] false) chP chO 2 bZone _ H0.out.s (fun hc => short_of hc))
  rw [ch_dom2] at KD
  go_wp2_with fail
  refine (KD.out).mono ?_
  rintro e V1 ⟨rfl, hb⟩
  have H1 := Lib.hid (H0.out.below hb)
  clear hb KD H0  b0 b1 b2
  obtain ⟨b0, b1, b2⟩ := H1.out.c0
  have KA := Lib.hid (apply_any _ B _ _ 3 cb 1 3 (chN w.heap.size [98] false) chP chO [0, 2, -1] 1 0 0 _ H1.out.s H1.out.p)
  rw [ch_ap1] at KA
  go_wp2_with fail
  refine (KA.out).mono ?_
  rintro e V2 ⟨v, rfl, ho, hb⟩
  have H2 := Lib.hid (H1.out.below hb)
  obtain ⟨Aa, capa, rfl, _⟩ := La.own_slice ho
  have Ia_2 := Lib.hid (IntsAt.own ho)
  clear ho
  clear hb KA H1  b0 b1 b2
  obtain ⟨b0, b1, b2⟩ := H2.out.c0
  have KA := Lib.hid (apply_any _ B _ _ 3 cb 1 3 (chN w.heap.size [98] false) chP chO [0, 2, -1] 2 2 1 _ H2.out.s H2.out.p)
  rw [ch_ap2] at KA
  go_wp2_with fail
  refine (KA.out).mono ?_
  rintro e V3 ⟨v, rfl, ho, hb⟩
  have H3 := Lib.hid (H2.out.below hb)
  have Ia_3 := Lib.hid (Ia_2.out.below hb)
  obtain ⟨Ab, capb, rfl, _⟩ := La.own_slice ho
  have Ib_3 := Lib.hid (IntsAt.own ho)
  clear ho
  clear hb KA H2 Ia_2 b0 b1 b2
  obtain ⟨b0, b1, b2⟩ := H3.out.c0
  have KA := Lib.hid (apply_any _ B _ _ 3 cb 1 3 (chN w.heap.size [98] false) chP chO [0, 2, -1] 1 2 0 _ H3.out.s H3.out.p)
  rw [ch_ap3] at KA
  go_wp2_with fail
  refine (KA.out).mono ?_
  rintro e V4 ⟨v, rfl, ho, hb⟩
  have H4 := Lib.hid (H3.out.below hb)
  have Ia_4 := Lib.hid (Ia_3.out.below hb)
  have Ib_4 := Lib.hid (Ib_3.out.below hb)
  obtain ⟨Az, capz, rfl, _⟩ := La.own_slice ho
  clear ho
  clear hb KA H3 Ia_3 Ib_3 b0 b1 b2
  obtain ⟨b0, b1, b2⟩ := H4.out.c0
  have H5 := Lib.hid (H4.out.below (below1 V4 (.cells (intsC [0, 1, 1]).toArray 3)))
  have Ia_5 := Lib.hid (Ia_4.out.below (below1 V4 (.cells (intsC [0, 1, 1]).toArray 3)))
  have Ib_5 := Lib.hid (Ib_4.out.below (below1 V4 (.cells (intsC [0, 1, 1]).toArray 3)))
  have Iq_5 := Lib.hid (ints_new V4 [0, 1, 1] (by simp))
  clear H4 Ia_4 Ib_4
  have KM := Lib.hid (moves_any _ _ 3 3 [0, 2, -1] [0, 1, 1] _ (by simp) H5.out.p Iq_5.out)
  rw [ch_moves] at KM
  obtain ⟨b0, b1, b2⟩ := H5.out.c0
  go_wp2_with fail
  refine (KM.out).mono ?_
  rintro e V6 ⟨v, rfl, ho, hb⟩
  have H6 := Lib.hid (H5.out.below hb)
  have Ia_6 := Lib.hid (Ia_5.out.below hb)
  have Ib_6 := Lib.hid (Ib_5.out.below hb)
  have Iq_6 := Lib.hid (Iq_5.out.below hb)
  obtain ⟨Am, capm, rfl, _⟩ := La.own_slice ho
  have Im_6 := Lib.hid (La.own_slat ho)
  clear ho
  clear hb KM H5 Ia_5 Ib_5 Iq_5 b0 b1 b2
  obtain ⟨b0, b1, b2⟩ := H6.out.c0
  clear Iq_6
  have H7 := Lib.hid (H6.out.below (below1 V6 (.cells (intsC [0, 0, -1]).toArray 3)))
  have Ia_7 := Lib.hid (Ia_6.out.below (below1 V6 (.cells (intsC [0, 0, -1]).toArray 3)))
  have Ib_7 := Lib.hid (Ib_6.out.below (below1 V6 (.cells (intsC [0, 0, -1]).toArray 3)))
  have Im_7 := Lib.hid (Im_6.out.below (below1 V6 (.cells (intsC [0, 0, -1]).toArray 3)))
  have Iu_7 := Lib.hid (ints_new V6 [0, 0, -1] (by simp))
  clear H6 Ia_6 Ib_6 Im_6
  have KU := Lib.hid (used_any _ B _ _ 3 cb 1 3 (chN w.heap.size [98] false) chP chO [0, 0, -1] 0 _ H7.out.s Iu_7.out)
  rw [ch_used] at KU
  obtain ⟨b0, b1, b2⟩ := H7.out.c0
  go_wp2_with fail
  refine (KU.out).mono ?_
  rintro e V8 ⟨rfl, hb⟩
  have H8 := Lib.hid (H7.out.below hb)
  have Ia_8 := Lib.hid (Ia_7.out.below hb)
  have Ib_8 := Lib.hid (Ib_7.out.below hb)
  have Im_8 := Lib.hid (Im_7.out.below hb)
  have Iu_8 := Lib.hid (Iu_7.out.below hb)
  clear hb KU H7 Ia_7 Ib_7 Im_7 Iu_7 b0 b1 b2
  obtain ⟨b0, b1, b2⟩ := H8.out.c0
  clear Iu_8
  have hvg := Qu.vec_guard
  have hvq := fun w => Qu.eq_row 20 0 0 0 0 w
  have KR := Lib.hid (counts_any _ B _ _ 3 cb 1 3 (chN w.heap.size [98] false) chP chO [0, 2, -1] 0 _ H8.out.s H8.out.p)
  rw [ch_counts] at KR
  go_wp2_with fail
  refine (KR.out).mono ?_
  rintro e V9 ⟨v, rfl, ho, hb⟩
  have H9 := Lib.hid (H8.out.below hb)
  have Ia_9 := Lib.hid (Ia_8.out.below hb)
  have Ib_9 := Lib.hid (Ib_8.out.below hb)
  have Im_9 := Lib.hid (Im_8.out.below hb)
  obtain ⟨Ac, capc, rfl, _⟩ := La.own_slice ho
  have Ic_9 := Lib.hid (IntsAt.own ho)
  clear ho
  clear hb KR H8 Ia_8 Ib_8 Im_8 b0 b1 b2
  obtain ⟨b0, b1, b2⟩ := H9.out.c0
  have H10 := Lib.hid (H9.out.below (below1 V9 (.cells (intsC [1, 0, 1]).toArray 3)))
  have Ia_10 := Lib.hid (Ia_9.out.below (below1 V9 (.cells (intsC [1, 0, 1]).toArray 3)))
  have Ib_10 := Lib.hid (Ib_9.out.below (below1 V9 (.cells (intsC [1, 0, 1]).toArray 3)))
  have Im_10 := Lib.hid (Im_9.out.below (below1 V9 (.cells (intsC [1, 0, 1]).toArray 3)))
  have Ic_10 := Lib.hid (Ic_9.out.below (below1 V9 (.cells (intsC [1, 0, 1]).toArray 3)))
  have Ie_10 := Lib.hid (ints_new V9 [1, 0, 1] (by simp))
  clear H9 Ia_9 Ib_9 Im_9 Ic_9
  have KE := Lib.hid (eqInts_any _ _ _ 3 [1, 0, 1] [1, 0, 1] _ (by simp) Ic_10.out Ie_10.out)
  rw [show decide (([1, 0, 1] : List Int) = ([1, 0, 1] : List Int)) = true from by decide] at KE
  obtain ⟨b0, b1, b2⟩ := H10.out.c0
  go_wp2_with fail
  refine (KE.out).mono ?_
  rintro e V11 ⟨rfl, hb⟩
  have H11 := Lib.hid (H10.out.below hb)
  have Ia_11 := Lib.hid (Ia_10.out.below hb)
  have Ib_11 := Lib.hid (Ib_10.out.below hb)
  have Im_11 := Lib.hid (Im_10.out.below hb)
  have Ic_11 := Lib.hid (Ic_10.out.below hb)
  have Ie_11 := Lib.hid (Ie_10.out.below hb)
  clear hb KE H10 Ia_10 Ib_10 Im_10 Ic_10 Ie_10 b0 b1 b2
  obtain ⟨b0, b1, b2⟩ := H11.out.c0
  clear Ie_11
  clear Ic_11
  have KR := Lib.hid (spread_any _ B _ _ 3 cb 1 3 (chN w.heap.size [98] false) chP chO [0, 2, -1] 0 _ H11.out.s H11.out.p)
  rw [ch_spread] at KR
  go_wp2_with fail
  refine (KR.out).mono ?_
  rintro e V12 ⟨v, rfl, ho, hb⟩
  have H12 := Lib.hid (H11.out.below hb)
  have Ia_12 := Lib.hid (Ia_11.out.below hb)
  have Ib_12 := Lib.hid (Ib_11.out.below hb)
  have Im_12 := Lib.hid (Im_11.out.below hb)
  obtain ⟨As, caps, rfl, _⟩ := La.own_slice ho
  have Is_12 := Lib.hid (IntsAt.own ho)
  clear ho
  clear hb KR H11 Ia_11 Ib_11 Im_11 b0 b1 b2
  obtain ⟨b0, b1, b2⟩ := H12.out.c0
  have H13 := Lib.hid (H12.out.below (below1 V12 (.cells (intsC [1, 0]).toArray 3)))
  have Ia_13 := Lib.hid (Ia_12.out.below (below1 V12 (.cells (intsC [1, 0]).toArray 3)))
  have Ib_13 := Lib.hid (Ib_12.out.below (below1 V12 (.cells (intsC [1, 0]).toArray 3)))
  have Im_13 := Lib.hid (Im_12.out.below (below1 V12 (.cells (intsC [1, 0]).toArray 3)))
  have Is_13 := Lib.hid (Is_12.out.below (below1 V12 (.cells (intsC [1, 0]).toArray 3)))
  have Ie_13 := Lib.hid (ints_new V12 [1, 0] (by simp))
  clear H12 Ia_12 Ib_12 Im_12 Is_12
  have KE := Lib.hid (eqInts_any _ _ _ 2 [1, 0] [1, 0] _ (by simp) Is_13.out Ie_13.out)
  rw [show decide (([1, 0] : List Int) = ([1, 0] : List Int)) = true from by decide] at KE
  obtain ⟨b0, b1, b2⟩ := H13.out.c0
  go_wp2_with fail
  refine (KE.out).mono ?_
  rintro e V14 ⟨rfl, hb⟩
  have H14 := Lib.hid (H13.out.below hb)
  have Ia_14 := Lib.hid (Ia_13.out.below hb)
  have Ib_14 := Lib.hid (Ib_13.out.below hb)
  have Im_14 := Lib.hid (Im_13.out.below hb)
  have Is_14 := Lib.hid (Is_13.out.below hb)
  have Ie_14 := Lib.hid (Ie_13.out.below hb)
  clear hb KE H13 Ia_13 Ib_13 Im_13 Is_13 Ie_13 b0 b1 b2
  obtain ⟨b0, b1, b2⟩ := H14.out.c0
  clear Ie_14
  clear Is_14
  have KP := Lib.hid (placed_any _ B _ _ 3 cb 1 3 (chN w.heap.size [98] false) chP chO [0, 2, -1] 0 _ H14.out.s H14.out.p)
  rw [ch_placed] at KP
  go_wp2_with fail
  refine (KP.out).mono ?_
  rintro e V15 ⟨rfl, hb⟩
  have H15 := Lib.hid (H14.out.below hb)
  have Ia_15 := Lib.hid (Ia_14.out.below hb)
  have Ib_15 := Lib.hid (Ib_14.out.below hb)
  have Im_15 := Lib.hid (Im_14.out.below hb)
  clear hb KP H14 Ia_14 Ib_14 Im_14 b0 b1 b2
  obtain ⟨b0, b1, b2⟩ := H15.out.c0
  have KS := Lib.hid (domains_any _ B _ 3 cb 1 (chN w.heap.size [98] false) chP chO bZone _ H15.out.s)
  rw [ch_doms] at KS
  go_wp2_with fail
  refine (KS.out).mono ?_
  rintro e V16 ⟨v, rfl, ho, hb⟩
  have H16 := Lib.hid (H15.out.below hb)
  have Ia_16 := Lib.hid (Ia_15.out.below hb)
  have Ib_16 := Lib.hid (Ib_15.out.below hb)
  have Im_16 := Lib.hid (Im_15.out.below hb)
  obtain ⟨At, capt, rfl, _⟩ := La.own_slice ho
  have It_16 := Lib.hid (TextsAt.own (l := [[120], [121]]) ho)
  clear ho
  clear hb KS H15 Ia_15 Ib_15 Im_15 b0 b1 b2
  obtain ⟨b0, b1, b2⟩ := H16.out.c0
  have H17 := Lib.hid (H16.out.below (below1 V16 (.cells ([[120], [121]].map strV).toArray 9)))
  have Ia_17 := Lib.hid (Ia_16.out.below (below1 V16 (.cells ([[120], [121]].map strV).toArray 9)))
  have Ib_17 := Lib.hid (Ib_16.out.below (below1 V16 (.cells ([[120], [121]].map strV).toArray 9)))
  have Im_17 := Lib.hid (Im_16.out.below (below1 V16 (.cells ([[120], [121]].map strV).toArray 9)))
  have It_17 := Lib.hid (It_16.out.below (below1 V16 (.cells ([[120], [121]].map strV).toArray 9)))
  have Ix_17 := Lib.hid (texts_new V16 [[120], [121]] (by simp))
  clear H16 Ia_16 Ib_16 Im_16 It_16
  have KT := Lib.hid (eqTexts_any _ _ _ 2 [[120], [121]] [[120], [121]] _ (by simp) It_17.out Ix_17.out)
  rw [show decide (([[120], [121]] : List (List UInt8)) = [[120], [121]]) = true from by decide] at KT
  obtain ⟨b0, b1, b2⟩ := H17.out.c0
  go_wp2_with fail
  refine (KT.out).mono ?_
  rintro e V18 ⟨rfl, hb⟩
  have H18 := Lib.hid (H17.out.below hb)
  have Ia_18 := Lib.hid (Ia_17.out.below hb)
  have Ib_18 := Lib.hid (Ib_17.out.below hb)
  have Im_18 := Lib.hid (Im_17.out.below hb)
  have It_18 := Lib.hid (It_17.out.below hb)
  have Ix_18 := Lib.hid (Ix_17.out.below hb)
  clear hb KT H17 Ia_17 Ib_17 Im_17 It_17 Ix_17 b0 b1 b2
  obtain ⟨b0, b1, b2⟩ := H18.out.c0
  clear It_18
  clear Ix_18
  have H19 := Lib.hid (H18.out.below (below1 V18 (.cells (intsC [-1, 2, -1]).toArray 3)))
  have Ia_19 := Lib.hid (Ia_18.out.below (below1 V18 (.cells (intsC [-1, 2, -1]).toArray 3)))
  have Ib_19 := Lib.hid (Ib_18.out.below (below1 V18 (.cells (intsC [-1, 2, -1]).toArray 3)))
  have Im_19 := Lib.hid (Im_18.out.below (below1 V18 (.cells (intsC [-1, 2, -1]).toArray 3)))
  have Ie_19 := Lib.hid (ints_new V18 [-1, 2, -1] (by simp))
  clear H18 Ia_18 Ib_18 Im_18
  have KE := Lib.hid (eqInts_any _ _ _ 3 [-1, 2, -1] [-1, 2, -1] _ (by simp) Ia_19.out Ie_19.out)
  rw [show decide (([-1, 2, -1] : List Int) = ([-1, 2, -1] : List Int)) = true from by decide] at KE
  obtain ⟨b0, b1, b2⟩ := H19.out.c0
  go_wp2_with fail
  refine (KE.out).mono ?_
  rintro e V20 ⟨rfl, hb⟩
  have H20 := Lib.hid (H19.out.below hb)
  have Ia_20 := Lib.hid (Ia_19.out.below hb)
  have Ib_20 := Lib.hid (Ib_19.out.below hb)
  have Im_20 := Lib.hid (Im_19.out.below hb)
  have Ie_20 := Lib.hid (Ie_19.out.below hb)
  clear hb KE H19 Ia_19 Ib_19 Im_19 Ie_19 b0 b1 b2
  obtain ⟨b0, b1, b2⟩ := H20.out.c0
  clear Ie_20
  clear Ia_20
  have H21 := Lib.hid (H20.out.below (below1 V20 (.cells (intsC [0, 2, 1]).toArray 3)))
  have Ib_21 := Lib.hid (Ib_20.out.below (below1 V20 (.cells (intsC [0, 2, 1]).toArray 3)))
  have Im_21 := Lib.hid (Im_20.out.below (below1 V20 (.cells (intsC [0, 2, 1]).toArray 3)))
  have Ie_21 := Lib.hid (ints_new V20 [0, 2, 1] (by simp))
  clear H20 Ib_20 Im_20
  have KE := Lib.hid (eqInts_any _ _ _ 3 [0, 2, 1] [0, 2, 1] _ (by simp) Ib_21.out Ie_21.out)
  rw [show decide (([0, 2, 1] : List Int) = ([0, 2, 1] : List Int)) = true from by decide] at KE
  obtain ⟨b0, b1, b2⟩ := H21.out.c0
  go_wp2_with fail
  refine (KE.out).mono ?_
  rintro e V22 ⟨rfl, hb⟩
  have H22 := Lib.hid (H21.out.below hb)
  have Ib_22 := Lib.hid (Ib_21.out.below hb)
  have Im_22 := Lib.hid (Im_21.out.below hb)
  have Ie_22 := Lib.hid (Ie_21.out.below hb)
  clear hb KE H21 Ib_21 Im_21 Ie_21 b0 b1 b2
  obtain ⟨b0, b1, b2⟩ := H22.out.c0
  clear Ie_22
  clear Ib_22
  obtain ⟨gm, om, hAm, m0⟩ := Im_22.out 0 (.int .i64 1) rfl
  obtain ⟨gm1, om1, hAm1, m1⟩ := Im_22.out 1 (.int .i64 1) rfl
  obtain ⟨gm2, om2, hAm2, m2⟩ := Im_22.out 2 (.int .i64 2) rfl
  obtain ⟨gm3, om3, hAm3, m3⟩ := Im_22.out 3 (.int .i64 1) rfl
  subst hAm
  cases hAm1
  cases hAm2
  cases hAm3
  rw [Nat.add_zero] at m0
  have hmg := mov_guard
  have hmq1 := fun w => eq_mov 1 1 w
  have hmq2 := fun w => eq_mov 2 1 w
  go_wp2
  go_ret
  exact ⟨rfl, H22.out.w⟩
end Go.Proofs.YtfnigiiocapceaaGreat
