/- The chapter's policies come out as the chapter says: the examples that every law asks. Condition: the variables hold what was laid. -/
import Derived.Test.YthbplchbolghjaaGreatDoorGPrint
import Derived.Test.YthbplchbolghjaaGreatDoorGEval
import Derived.Laws.StructEq
namespace Go.Proofs.YthbplchbolghjaaGreatDoor
open Go.RowKit

set_option maxRecDepth 100000 in
set_option maxHeartbeats 1000000 in
theorem gwrong_yes (l : List UInt8) (a b e0 : Int) (w : World) (he : Env w) (hl : l.length ≤ 1000) (h : (parseP l).2 = (a, b, e0)) :
    Calls Tryz.prog 38 #[strV l, .int .i64 a, .int .i64 b, .int .i64 e0] w fun e w' => e = .returned (.bool true) ∧ Below w.heap.size w w' := by
  have K := Lib.hid (parse_any l w he (by omega))
  obtain ⟨P, hP⟩ : ∃ P, parseP l = P := ⟨_, rfl⟩
  rw [hP] at K h
  obtain ⟨g, x⟩ := P
  simp only at h
  subst h
  clear hP he
  have b1 : (a == a) = true := by simp
  have b3 : (b == b) = true := by simp
  have b2 : (e0 == e0) = true := by simp
  go_enter Tryz.func38, Tryz.ntmps38
  go_wp2_with fail
  refine K.out.mono ?_
  rintro e w1 ⟨A, c, rfl, ho, hb⟩
  have HB := Lib.hid hb
  clear hb ho K
  go_wp2
  go_ret
  exact ⟨rfl, by first | exact HB.out | exact HB.out.alloc HB.out.size _⟩
theorem wrong_1 (w : World) (he : Env w) : Calls Tryz.prog 38 #[.string ⟨#[111, 110]⟩, .int .i64 1, .int .i64 1, .int .i64 3] w fun e w' => e = .returned (.bool true) ∧ Below w.heap.size w w' :=
  gwrong_yes [111, 110] 1 1 3 w he (by decide) parse_W1
theorem wrong_2 (w : World) (he : Env w) : Calls Tryz.prog 38 #[.string ⟨#[116, 114, 105, 101, 115, 32, 57]⟩, .int .i64 0, .int .i64 0, .int .i64 60] w fun e w' => e = .returned (.bool true) ∧ Below w.heap.size w w' :=
  gwrong_yes [116, 114, 105, 101, 115, 32, 57] 0 0 60 w he (by decide) parse_W2
theorem wrong_3 (w : World) (he : Env w) : Calls Tryz.prog 38 #[.string ⟨#[111, 110, 32, 116, 97, 105, 110, 116, 115, 32, 100, 111, 117, 98, 108, 101, 115]⟩, .int .i64 1, .int .i64 11, .int .i64 4] w fun e w' => e = .returned (.bool true) ∧ Below w.heap.size w w' :=
  gwrong_yes [111, 110, 32, 116, 97, 105, 110, 116, 115, 32, 100, 111, 117, 98, 108, 101, 115] 1 11 4 w he (by decide) parse_W3
theorem wrong_4 (w : World) (he : Env w) : Calls Tryz.prog 38 #[.string ⟨#[108, 111, 119, 32, 50, 48, 37, 32, 51, 48]⟩, .int .i64 1, .int .i64 9, .int .i64 3] w fun e w' => e = .returned (.bool true) ∧ Below w.heap.size w w' :=
  gwrong_yes [108, 111, 119, 32, 50, 48, 37, 32, 51, 48] 1 9 3 w he (by decide) parse_W4

theorem part2_0 (a b : Int) (w : World) : (part 3 #[.int .i64 a, .int .i64 b] 0).run Tryz.prog w = .ok (.int .i64 a) w := by kernel_rfl
theorem part2_1 (a b : Int) (w : World) : (part 3 #[.int .i64 a, .int .i64 b] 1).run Tryz.prog w = .ok (.int .i64 b) w := by kernel_rfl
theorem gint_size (w : World) : (sizeOf 3).run Tryz.prog w = .ok 1 w := by kernel_rfl
theorem eq_int1 (n : Nat) (a : Int) (w : World) : (Op.equalIn (n + 1) 3 (.int .i64 a) (.int .i64 a)).run Tryz.prog w = .ok true w := by
  rw [run_equalIn_int w n 3 .i64 .i64 a a Tryz.underlying3]
  simp
theorem arr2_in (n : Nat) (a b : Int) (w : World) : (Op.equalIn (n + 2) 22 (.agg #[.int .i64 a, .int .i64 b]) (.agg #[.int .i64 a, .int .i64 b])).run Tryz.prog w = .ok true w := by
  rw [Op.equalIn]
  simp only [Sem.run_bind, run_underlying Tryz.underlying22, Result.andThen_ok, gint_size]
  simp [Std.Legacy.Range.forIn_eq_forIn_range', Std.Legacy.Range.size, List.range', Sem.run_bind, part2_0, part2_1, eq_int1]
theorem arr2_eq (a b : Int) (w : World) : (Op.equalIn 10000 22 (.agg #[.int .i64 a, .int .i64 b]) (.agg #[.int .i64 a, .int .i64 b])).run Tryz.prog w = .ok true w := arr2_in 9998 a b w
theorem arr2_guard : Tryz.prog.eqGuardType Tryz.prog.depth 22 = false := by kernel_rfl

set_option maxRecDepth 100000 in
set_option maxHeartbeats 2000000 in
/-- A policy is the same as itself, wherever its names lie. -/
theorem same_yes (g : Pol) (A B : Option Addr) (c d : Nat) (w : World) (h1 : NamesAt w A c g.drain) (h2 : NamesAt w B d g.drain) :
    Calls Tryz.prog 19 #[valG g A c, valG g B d] w fun e w' => e = .returned (.bool true) ∧ Below w.heap.size w w' := by
  have H1 := Lib.hid h1
  have H2 := Lib.hid h2
  have hl := Nat.le_trans h1.le h1.most
  have HB0 : Hid (Below w.heap.size w ((w.alloc (.cells (cellsG g A c) 25)).alloc (.cells (cellsG g B d) 25))) := Lib.hid ((below1 w _).alloc (by simp) _)
  have QA : Hid (Blk ((w.alloc (.cells (cellsG g A c) 25)).alloc (.cells (cellsG g B d) 25)) w.heap.size (cellsG g A c) 25) := Lib.hid (Blk.alloc (Blk.new w _ _) _)
  have QB : Hid (Blk ((w.alloc (.cells (cellsG g A c) 25)).alloc (.cells (cellsG g B d) 25)) (w.heap.size + 1) (cellsG g B d) 25) := Lib.hid (blk2a w _ _ _)
  have q1 := arr2_eq g.l0 g.l1
  have q2 := arr2_eq g.h0 g.h1
  have q3 := arr2_guard
  have b1 : (g.on == g.on) = true := by simp
  have b2 : (g.mx == g.mx) = true := by simp
  have b3 : (g.tr == g.tr) = true := by simp
  have b4 : (g.rb == g.rb) = true := by simp
  clear h1 h2
  go_enter Tryz.func19, Tryz.ntmps19
  go_upto_region 1 with fail
  change Code.wp _ _ _ _ ((w.alloc (.cells (cellsG g A c) 25)).alloc (.cells (cellsG g B d) 25))
  generalize ((w.alloc (.cells (cellsG g A c) 25)).alloc (.cells (cellsG g B d) 25)) = W at HB0 QA QB ⊢
  have hlW := Blk.lt QB.out
  have a0 : W.cell? ⟨w.heap.size, 0, none⟩ = some (.int .i64 g.l0) := Blk.cell QA.out 0
  have a1 : W.cell? ⟨w.heap.size, 1, none⟩ = some (.int .i64 g.l1) := Blk.cell QA.out 1
  have a2 : W.cell? ⟨w.heap.size, 2, none⟩ = some (.int .i64 g.h0) := Blk.cell QA.out 2
  have a3 : W.cell? ⟨w.heap.size, 3, none⟩ = some (.int .i64 g.h1) := Blk.cell QA.out 3
  have a4 : W.cell? ⟨w.heap.size, 4, none⟩ = some (.int .i64 g.on) := Blk.cell QA.out 4
  have a5 : W.cell? ⟨w.heap.size, 5, none⟩ = some (.slice A g.drain.length c) := Blk.cell QA.out 5
  have a6 : W.cell? ⟨w.heap.size, 6, none⟩ = some (.int .i64 g.mx) := Blk.cell QA.out 6
  have a7 : W.cell? ⟨w.heap.size, 7, none⟩ = some (.int .i64 g.tr) := Blk.cell QA.out 7
  have a8 : W.cell? ⟨w.heap.size, 8, none⟩ = some (.bool g.rb) := Blk.cell QA.out 8
  have e0 : W.cell? ⟨w.heap.size + 1, 0, none⟩ = some (.int .i64 g.l0) := Blk.cell QB.out 0
  have e1 : W.cell? ⟨w.heap.size + 1, 1, none⟩ = some (.int .i64 g.l1) := Blk.cell QB.out 1
  have e2 : W.cell? ⟨w.heap.size + 1, 2, none⟩ = some (.int .i64 g.h0) := Blk.cell QB.out 2
  have e3 : W.cell? ⟨w.heap.size + 1, 3, none⟩ = some (.int .i64 g.h1) := Blk.cell QB.out 3
  have e4 : W.cell? ⟨w.heap.size + 1, 4, none⟩ = some (.int .i64 g.on) := Blk.cell QB.out 4
  have e5 : W.cell? ⟨w.heap.size + 1, 5, none⟩ = some (.slice B g.drain.length d) := Blk.cell QB.out 5
  have e6 : W.cell? ⟨w.heap.size + 1, 6, none⟩ = some (.int .i64 g.mx) := Blk.cell QB.out 6
  have e7 : W.cell? ⟨w.heap.size + 1, 7, none⟩ = some (.int .i64 g.tr) := Blk.cell QB.out 7
  have e8 : W.cell? ⟨w.heap.size + 1, 8, none⟩ = some (.bool g.rb) := Blk.cell QB.out 8
  go_wp2_with fail
  have QA5 := Lib.hid a5
  have QB5 := Lib.hid e5
  clear a0 a1 a2 a3 a4 a5 a6 a7 a8 e0 e1 e2 e3 e4 e5 e6 e7 e8 q1 q2 q3 b1 b2 b3 b4
  go_loopw [5] (fun i wr => ∃ k : Nat, k ≤ g.drain.length ∧ i = .int .i64 k ∧ Below W.heap.size W wr) (fun i _ => g.drain.length - (intOf i).toNat)
  case atStart => exact ⟨0, by omega, rfl, Below.refl _ _⟩
  case round =>
    obtain ⟨k, hk, rfl, hbw⟩ := hrel
    have HB := Lib.hid hbw
    have HBW := Lib.hid (HB0.out.trans (hbw.mono HB0.out.size))
    have a5 : wr.cell? ⟨w.heap.size, 5, none⟩ = some (.slice A g.drain.length c) := (hbw.cell (by simp only; omega)).trans QA5.out
    have e5 : wr.cell? ⟨w.heap.size + 1, 5, none⟩ = some (.slice B g.drain.length d) := (hbw.cell (by simp only; omega)).trans QB5.out
    clear hbw
    by_cases hlt : k < g.drain.length
    · obtain ⟨t, ht⟩ : ∃ t, g.drain[k]? = some t := ⟨g.drain[k], List.getElem?_eq_getElem hlt⟩
      obtain ⟨b1, o1, hA, hl1, hc1⟩ := strC_at (H1.out.below HBW.out).cells ht
      obtain ⟨b2, o2, hB, hl2, hc2⟩ := strC_at (H2.out.below HBW.out).cells ht
      subst hA hB
      have k0 : (0 : Int) ≤ (k : Int) := by omega
      have k1 : (k : Int) < (g.drain.length : Int) := by omega
      have tt : (t == t) = true := by simp
      have hcA := H1.out.le
      have hcB := H2.out.le
      clear ht
      go_wp2_with fail
      go_quiet (fail)
      go_wp2
      go_roundw
      case rel => exact ⟨k + 1, by omega, by go_num, belowN HB.out _⟩
      case measure => simp [intOf]; omega
    · obtain rfl : k = g.drain.length := by omega
      go_wp2
      go_ret
      exact ⟨rfl, HBW.out⟩

set_option maxRecDepth 100000 in
set_option maxHeartbeats 4000000 in
theorem gworks_any (w : World) (he : Env w) :
    Calls Tryz.prog 15 #[] w fun e w' => e = .returned (.bool true) ∧ Below w.heap.size w w' := by
  have HE := Lib.hid he
  clear he
  go_enter Tryz.func15, Tryz.ntmps15
  go_upto_region 2 with fail
  have B2 : Hid (Below w.heap.size w ((w.alloc (.cells #[strV [97]] 9)).alloc (.cells #[.int .i64 200, .int .i64 0, .int .i64 1000, .int .i64 1000, .int .i64 5, .slice (some ⟨w.heap.size, 0, none⟩) 1 1, .int .i64 0, .int .i64 2, .bool false] 25))) := Lib.hid ((below1 w _).alloc (by simp) _)
  have QN : Hid (Blk ((w.alloc (.cells #[strV [97]] 9)).alloc (.cells #[.int .i64 200, .int .i64 0, .int .i64 1000, .int .i64 1000, .int .i64 5, .slice (some ⟨w.heap.size, 0, none⟩) 1 1, .int .i64 0, .int .i64 2, .bool false] 25)) w.heap.size #[strV [97]] 9) := Lib.hid (Blk.alloc (Blk.new w _ _) _)
  have QG : Hid (Blk ((w.alloc (.cells #[strV [97]] 9)).alloc (.cells #[.int .i64 200, .int .i64 0, .int .i64 1000, .int .i64 1000, .int .i64 5, .slice (some ⟨w.heap.size, 0, none⟩) 1 1, .int .i64 0, .int .i64 2, .bool false] 25)) (w.heap.size + 1) #[.int .i64 200, .int .i64 0, .int .i64 1000, .int .i64 1000, .int .i64 5, .slice (some ⟨w.heap.size, 0, none⟩) 1 1, .int .i64 0, .int .i64 2, .bool false] 25) := Lib.hid (blk2a w _ _ _)
  change Code.wp _ _ _ _ ((w.alloc (.cells #[strV [97]] 9)).alloc (.cells #[.int .i64 200, .int .i64 0, .int .i64 1000, .int .i64 1000, .int .i64 5, .slice (some ⟨w.heap.size, 0, none⟩) 1 1, .int .i64 0, .int .i64 2, .bool false] 25))
  generalize ((w.alloc (.cells #[strV [97]] 9)).alloc (.cells #[.int .i64 200, .int .i64 0, .int .i64 1000, .int .i64 1000, .int .i64 5, .slice (some ⟨w.heap.size, 0, none⟩) 1 1, .int .i64 0, .int .i64 2, .bool false] 25)) = W2 at B2 QN QG ⊢
  have E2 := Lib.hid (HE.out.below B2.out)
  have hl2 := Blk.lt QG.out
  have N2 : Hid (NamesAt W2 (some ⟨w.heap.size, 0, none⟩) 1 polE.drain) := Lib.hid ⟨fun j y hj => by
    cases j with
    | zero => cases hj; exact ⟨w.heap.size, 0, rfl, Blk.cell QN.out 0⟩
    | succ j => simp [polE, strC] at hj, by decide, by omega, fun x hx => by simp [polE] at hx; subst hx; simp⟩
  have KP : Hid (Calls Tryz.prog 9 #[.agg #[.int .i64 200, .int .i64 0, .int .i64 1000, .int .i64 1000, .int .i64 5, .slice (some ⟨w.heap.size, 0, none⟩) 1 1, .int .i64 0, .int .i64 2, .bool false]] W2 fun e w' => e = .returned (.tuple #[.string ⟨#[108, 111, 119, 32, 50, 48, 37, 32, 48, 37, 10, 104, 105, 103, 104, 32, 49, 48, 48, 37, 32, 49, 48, 48, 37, 10, 111, 110, 32, 100, 111, 117, 98, 108, 101, 115, 32, 116, 97, 105, 110, 116, 115, 10, 100, 114, 97, 105, 110, 32, 97, 10, 116, 114, 105, 101, 115, 32, 50, 10]⟩, .int .i64 0]) ∧ Below W2.heap.size W2 w') := Lib.hid (by
    have k := print_any polE (some ⟨w.heap.size, 0, none⟩) 1 W2 E2.out N2.out
    rw [print_E] at k
    exact k)
  have KQ : Hid (∀ w', Below w.heap.size w w' → Calls Tryz.prog 16 #[.string ⟨#[108, 111, 119, 32, 50, 48, 37, 32, 48, 37, 10, 104, 105, 103, 104, 32, 49, 48, 48, 37, 32, 49, 48, 48, 37, 10, 111, 110, 32, 100, 111, 117, 98, 108, 101, 115, 32, 116, 97, 105, 110, 116, 115, 10, 100, 114, 97, 105, 110, 32, 97, 10, 116, 114, 105, 101, 115, 32, 50, 10]⟩] w' fun e w'' => ∃ A c, e = .returned (.tuple #[.agg #[.int .i64 200, .int .i64 0, .int .i64 1000, .int .i64 1000, .int .i64 5, .slice A 1 c, .int .i64 0, .int .i64 2, .bool false], .int .i64 0, .int .i64 0, .int .i64 0]) ∧ NamesAt w'' A c polE.drain ∧ Below w'.heap.size w' w'') := Lib.hid (fun w' hb => by
    have k := parse_any txtE w' (HE.out.below hb) (by decide)
    rw [parse_E] at k
    refine k.mono ?_
    rintro e w'' ⟨A, c, rfl, ho, hb''⟩
    exact ⟨A, c, rfl, ⟨fun j y hj => Sc.own_slat ho j y hj, (Sc.own_cap ho).1, (Sc.own_cap ho).2, fun x hx => by simp [polE] at hx; subst hx; simp⟩, hb''⟩)
  have a0 : W2.cell? ⟨w.heap.size + 1, 0, none⟩ = some (.int .i64 200) := Blk.cell QG.out 0
  have a1 : W2.cell? ⟨w.heap.size + 1, 1, none⟩ = some (.int .i64 0) := Blk.cell QG.out 1
  have a2 : W2.cell? ⟨w.heap.size + 1, 2, none⟩ = some (.int .i64 1000) := Blk.cell QG.out 2
  have a3 : W2.cell? ⟨w.heap.size + 1, 3, none⟩ = some (.int .i64 1000) := Blk.cell QG.out 3
  have a4 : W2.cell? ⟨w.heap.size + 1, 4, none⟩ = some (.int .i64 5) := Blk.cell QG.out 4
  have a5 : W2.cell? ⟨w.heap.size + 1, 5, none⟩ = some (.slice (some ⟨w.heap.size, 0, none⟩) 1 1) := Blk.cell QG.out 5
  have a6 : W2.cell? ⟨w.heap.size + 1, 6, none⟩ = some (.int .i64 0) := Blk.cell QG.out 6
  have a7 : W2.cell? ⟨w.heap.size + 1, 7, none⟩ = some (.int .i64 2) := Blk.cell QG.out 7
  have a8 : W2.cell? ⟨w.heap.size + 1, 8, none⟩ = some (.bool false) := Blk.cell QG.out 8
  go_wp2_with fail
  refine KP.out.mono ?_
  rintro e w3 ⟨rfl, hb3⟩
  have B3 := Lib.hid (B2.out.trans (hb3.mono B2.out.size))
  have Q3 := Lib.hid (Blk.below QG.out hb3 hl2)
  have N3 := Lib.hid (N2.out.below hb3)
  clear hb3 KP QG N2 B2 QN a0 a1 a2 a3 a4 a5 a6 a7 a8 E2
  have hl3 := Blk.lt Q3.out
  go_wp2_with fail
  refine (KQ.out _ B3.out).mono ?_
  rintro e w4 ⟨A2, c2, rfl, hn4, hb4⟩
  have NB4 := Lib.hid hn4
  have B4 := Lib.hid (B3.out.trans (hb4.mono B3.out.size))
  have Q4 := Lib.hid (Blk.below Q3.out hb4 hl3)
  have N4 := Lib.hid (N3.out.below hb4)
  clear hb4 hn4 KQ Q3 N3 B3
  have hl4 := Blk.lt Q4.out
  go_upto_region 4 with fail
  change Code.wp _ _ _ _ (w4.alloc (.cells #[.int .i64 200, .int .i64 0, .int .i64 1000, .int .i64 1000, .int .i64 5, .slice A2 1 c2, .int .i64 0, .int .i64 2, .bool false] 25))
  have Q5 : Hid (Blk (w4.alloc (.cells #[.int .i64 200, .int .i64 0, .int .i64 1000, .int .i64 1000, .int .i64 5, .slice A2 1 c2, .int .i64 0, .int .i64 2, .bool false] 25)) (w.heap.size + 1) #[.int .i64 200, .int .i64 0, .int .i64 1000, .int .i64 1000, .int .i64 5, .slice (some ⟨w.heap.size, 0, none⟩) 1 1, .int .i64 0, .int .i64 2, .bool false] 25) := Lib.hid (Blk.alloc Q4.out _)
  have R5 : Hid (Blk (w4.alloc (.cells #[.int .i64 200, .int .i64 0, .int .i64 1000, .int .i64 1000, .int .i64 5, .slice A2 1 c2, .int .i64 0, .int .i64 2, .bool false] 25)) w4.heap.size #[.int .i64 200, .int .i64 0, .int .i64 1000, .int .i64 1000, .int .i64 5, .slice A2 1 c2, .int .i64 0, .int .i64 2, .bool false] 25) := Lib.hid (Blk.new _ _ _)
  have B5 : Hid (Below w.heap.size w (w4.alloc (.cells #[.int .i64 200, .int .i64 0, .int .i64 1000, .int .i64 1000, .int .i64 5, .slice A2 1 c2, .int .i64 0, .int .i64 2, .bool false] 25))) := Lib.hid (B4.out.alloc B4.out.size _)
  have N5 := Lib.hid (N4.out.below (below1 w4 (.cells #[.int .i64 200, .int .i64 0, .int .i64 1000, .int .i64 1000, .int .i64 5, .slice A2 1 c2, .int .i64 0, .int .i64 2, .bool false] 25)))
  have M5 := Lib.hid (NB4.out.below (below1 w4 (.cells #[.int .i64 200, .int .i64 0, .int .i64 1000, .int .i64 1000, .int .i64 5, .slice A2 1 c2, .int .i64 0, .int .i64 2, .bool false] 25)))
  generalize (w4.alloc (.cells #[.int .i64 200, .int .i64 0, .int .i64 1000, .int .i64 1000, .int .i64 5, .slice A2 1 c2, .int .i64 0, .int .i64 2, .bool false] 25)) = w5 at Q5 R5 B5 N5 M5 ⊢
  generalize w4.heap.size = h4 at R5 ⊢
  clear Q4 B4 N4 NB4 hl4 hl3
  have KS : Hid (Calls Tryz.prog 19 #[.agg #[.int .i64 200, .int .i64 0, .int .i64 1000, .int .i64 1000, .int .i64 5, .slice (some ⟨w.heap.size, 0, none⟩) 1 1, .int .i64 0, .int .i64 2, .bool false], .agg #[.int .i64 200, .int .i64 0, .int .i64 1000, .int .i64 1000, .int .i64 5, .slice A2 1 c2, .int .i64 0, .int .i64 2, .bool false]] w5 fun e w' => e = .returned (.bool true) ∧ Below w5.heap.size w5 w') := Lib.hid (same_yes polE (some ⟨w.heap.size, 0, none⟩) A2 1 c2 w5 N5.out M5.out)
  have a0 : w5.cell? ⟨w.heap.size + 1, 0, none⟩ = some (.int .i64 200) := Blk.cell Q5.out 0
  have a1 : w5.cell? ⟨w.heap.size + 1, 1, none⟩ = some (.int .i64 0) := Blk.cell Q5.out 1
  have a2 : w5.cell? ⟨w.heap.size + 1, 2, none⟩ = some (.int .i64 1000) := Blk.cell Q5.out 2
  have a3 : w5.cell? ⟨w.heap.size + 1, 3, none⟩ = some (.int .i64 1000) := Blk.cell Q5.out 3
  have a4 : w5.cell? ⟨w.heap.size + 1, 4, none⟩ = some (.int .i64 5) := Blk.cell Q5.out 4
  have a5 : w5.cell? ⟨w.heap.size + 1, 5, none⟩ = some (.slice (some ⟨w.heap.size, 0, none⟩) 1 1) := Blk.cell Q5.out 5
  have a6 : w5.cell? ⟨w.heap.size + 1, 6, none⟩ = some (.int .i64 0) := Blk.cell Q5.out 6
  have a7 : w5.cell? ⟨w.heap.size + 1, 7, none⟩ = some (.int .i64 2) := Blk.cell Q5.out 7
  have a8 : w5.cell? ⟨w.heap.size + 1, 8, none⟩ = some (.bool false) := Blk.cell Q5.out 8
  have e0 : w5.cell? ⟨h4, 0, none⟩ = some (.int .i64 200) := Blk.cell R5.out 0
  have e1 : w5.cell? ⟨h4, 1, none⟩ = some (.int .i64 0) := Blk.cell R5.out 1
  have e2 : w5.cell? ⟨h4, 2, none⟩ = some (.int .i64 1000) := Blk.cell R5.out 2
  have e3 : w5.cell? ⟨h4, 3, none⟩ = some (.int .i64 1000) := Blk.cell R5.out 3
  have e4 : w5.cell? ⟨h4, 4, none⟩ = some (.int .i64 5) := Blk.cell R5.out 4
  have e5 : w5.cell? ⟨h4, 5, none⟩ = some (.slice A2 1 c2) := Blk.cell R5.out 5
  have e6 : w5.cell? ⟨h4, 6, none⟩ = some (.int .i64 0) := Blk.cell R5.out 6
  have e7 : w5.cell? ⟨h4, 7, none⟩ = some (.int .i64 2) := Blk.cell R5.out 7
  have e8 : w5.cell? ⟨h4, 8, none⟩ = some (.bool false) := Blk.cell R5.out 8
  go_wp2_with fail
  refine KS.out.mono ?_
  rintro e w6 ⟨rfl, hb6⟩
  have B6 := Lib.hid (B5.out.trans (hb6.mono B5.out.size))
  clear hb6 KS a0 a1 a2 a3 a4 a5 a6 a7 a8 e0 e1 e2 e3 e4 e5 e6 e7 e8 Q5 R5 N5 M5 B5
  have E6 := Lib.hid (HE.out.below B6.out)
  go_wp2_with fail
  refine (wrong_1 _ E6.out).mono ?_
  rintro e w7 ⟨rfl, hb7⟩
  have B7 := Lib.hid (B6.out.trans (hb7.mono B6.out.size))
  have E7 := Lib.hid (HE.out.below B7.out)
  clear hb7
  go_wp2_with fail
  refine (wrong_2 _ E7.out).mono ?_
  rintro e w8 ⟨rfl, hb8⟩
  have B8 := Lib.hid (B7.out.trans (hb8.mono B7.out.size))
  have E8 := Lib.hid (HE.out.below B8.out)
  clear hb8
  go_wp2_with fail
  refine (wrong_3 _ E8.out).mono ?_
  rintro e w9 ⟨rfl, hb9⟩
  have B9 := Lib.hid (B8.out.trans (hb9.mono B8.out.size))
  have E9 := Lib.hid (HE.out.below B9.out)
  clear hb9
  go_wp2_with fail
  refine (wrong_4 _ E9.out).mono ?_
  rintro e w10 ⟨rfl, hb10⟩
  have B10 := Lib.hid (B9.out.trans (hb10.mono B9.out.size))
  clear hb10
  go_wp2
  go_ret
  exact ⟨rfl, B10.out⟩
end Go.Proofs.YthbplchbolghjaaGreatDoor
