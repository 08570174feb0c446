/- What was printed is parsed as it was: the walk of the law. Conditions: the names lie in memory; the variables hold what was laid. -/
import Derived.Test.YthbplchbolghjaaGreatDoorGMadeX
namespace Go.Proofs.YthbplchbolghjaaGreatDoor
open Go.RowKit

theorem NamesAt.take {w : World} {A : Option Addr} {c : Nat} {l : List (List UInt8)} (h : NamesAt w A c l) (m : Nat) : NamesAt w A c (l.take m) :=
  ⟨(fun j y hj => by
    have e : strC (l.take m) = (strC l).take m := by simp [strC]
    rw [e, List.getElem?_take] at hj
    split at hj
    · exact h.cells j y hj
    · cases hj), Nat.le_trans (by rw [List.length_take]; omega) h.le, h.most, fun x hx => h.big x (List.mem_of_mem_take hx)⟩
/-- What the law's first error asks: a policy that may not be has no text. -/
theorem print_no {g : Pol} (h : checkG g ≠ 0) : printG g = ([], 60) := by
  unfold printG
  rw [if_neg h]
  unfold checkG at h ⊢
  split at h
  · exact absurd rfl h
  · rename_i hp
    rw [if_neg hp]
theorem print_yes {g : Pol} (h : checkG g = 0) : printG g = (textK g 7, 0) := by
  unfold printG
  rw [if_pos h]

theorem gap7 {w : World} {b i : Nat} {H : Pol} {B : Option Addr} {d : Nat} {t : List UInt8} (hb : Blk w b (cellsG H B d) 25) (hc : w.cell? ⟨b, i, none⟩ = some (strV t)) : False := by
  by_cases hi : i < 9
  · obtain rfl | rfl | rfl | rfl | rfl | rfl | rfl | rfl | rfl : i = 0 ∨ i = 1 ∨ i = 2 ∨ i = 3 ∨ i = 4 ∨ i = 5 ∨ i = 6 ∨ i = 7 ∨ i = 8 := by omega
    · have := Blk.cell hb 0; rw [this] at hc; cases hc
    · have := Blk.cell hb 1; rw [this] at hc; cases hc
    · have := Blk.cell hb 2; rw [this] at hc; cases hc
    · have := Blk.cell hb 3; rw [this] at hc; cases hc
    · have := Blk.cell hb 4; rw [this] at hc; cases hc
    · have := Blk.cell hb 5; rw [this] at hc; cases hc
    · have := Blk.cell hb 6; rw [this] at hc; cases hc
    · have := Blk.cell hb 7; rw [this] at hc; cases hc
    · have := Blk.cell hb 8; rw [this] at hc; cases hc
  · unfold Blk at hb
    have hs : (cellsG H B d)[i]? = none := Array.getElem?_eq_none (by simp [cellsG]; omega)
    simp [World.cell?, hb, hs] at hc

set_option maxRecDepth 100000 in
set_option maxHeartbeats 4000000 in
theorem back_law (g : Pol) (A : Option Addr) (c : Nat) (w : World) (he : Env w) (h : NamesAt w A c g.drain) (hA : A = none → g.drain = [] ∧ c = 0) :
    Calls Tryz.prog 5 #[valG g A c] w fun e w' => e = .returned (.bool true) ∧ Below w.heap.size w w' := by
  have HE := Lib.hid he
  have HN := Lib.hid h
  obtain ⟨m, hm⟩ : ∃ m, min g.drain.length 12 = m := ⟨_, rfl⟩
  have hml : m ≤ g.drain.length := by omega
  have hcl := h.le
  have hcm := h.most
  have hmi : min (g.drain.length : Int) 12 = (m : Int) := by omega
  have B0 : Hid (Below w.heap.size w (w.alloc (.cells (cellsG g A c) 25))) := Lib.hid (below1 w _)
  have Q0 : Hid (Blk (w.alloc (.cells (cellsG g A c) 25)) w.heap.size (cellsG g A c) 25) := Lib.hid (Blk.new w _ _)
  have hAn : A = none → g.drain.length = 0 ∧ c = 0 ∧ m = 0 := fun e => by
    have := hA e
    refine ⟨by rw [this.1]; rfl, this.2, ?_⟩
    have h2 : g.drain.length = 0 := by rw [this.1]; rfl
    omega
  clear h hA he
  go_enter Tryz.func5, Tryz.ntmps5
  go_upto_region 1 with fail
  change Code.wp _ _ _ _ (w.alloc (.cells (cellsG g A c) 25))
  generalize (w.alloc (.cells (cellsG g A c) 25)) = W0 at B0 Q0 ⊢
  have E0 := Lib.hid (HE.out.below B0.out)
  have hl0 := Blk.lt Q0.out
  go_wp2_with fail
  refine (gworks_any _ E0.out).mono ?_
  rintro e W ⟨rfl, hb⟩
  have Q1 := Lib.hid (Blk.below Q0.out hb hl0)
  have B1 := Lib.hid (B0.out.trans (hb.mono B0.out.size))
  clear hb Q0 B0 E0
  have a5 : W.cell? ⟨w.heap.size, 5, none⟩ = some (.slice A g.drain.length c) := Blk.cell Q1.out 5
  have f5 : W.frozen? ⟨w.heap.size, 5, none⟩ = false := Blk.free Q1.out 5
  obtain ⟨G, hG⟩ : ∃ G : Pol, { g with drain := g.drain.take m } = G := ⟨_, rfl⟩
  have hGl : G.drain.length = m := by rw [← hG]; simp; omega
  have Q2 : Hid (Blk (W.setCell ⟨w.heap.size, 5, none⟩ (.slice A m c)) w.heap.size (cellsG G A c) 25) := Lib.hid (by
    have := Blk.set Q1.out 5 (.slice A m c)
    rw [← hG]
    unfold cellsG
    simp only [List.length_take]
    rw [show min m g.drain.length = m by omega]
    exact this)
  have B2 : Hid (Below w.heap.size w (W.setCell ⟨w.heap.size, 5, none⟩ (.slice A m c))) := Lib.hid (B1.out.setCell (p := ⟨w.heap.size, 5, none⟩) (Nat.le_refl _) _)
  have N2 : Hid (NamesAt (W.setCell ⟨w.heap.size, 5, none⟩ (.slice A m c)) A c G.drain) := Lib.hid (by rw [← hG]; exact (HN.out.take m).below B2.out)
  have m0 : (0 : Int) ≤ (m : Int) := by omega
  have m1 : (m : Int) ≤ (g.drain.length : Int) := by omega
  have m2 : (m : Int) ≤ (c : Int) := by omega
  go_wp2_with fail
  have Q2x := Q2
  clear Q2x
  go_loopw [3] (fun i wr => ∃ (k : Nat) (H : Pol) (B : Option Addr) (d : Nat), k ≤ 2 ∧ i = .int .i64 k ∧ (k ≠ 0 → checkG H = 0) ∧ Blk wr w.heap.size (cellsG H B d) 25 ∧ NamesAt wr B d H.drain ∧ Below w.heap.size w wr) (fun i _ => 2 - (intOf i).toNat)
  case atStart => exact ⟨0, G, A, c, by omega, rfl, fun h => absurd rfl h, Q2.out, N2.out, B2.out⟩
  case round =>
    obtain ⟨k, H, B, d, hk, rfl, hck, hq3, hn3, hb3⟩ := hrel
    have HCK := Lib.hid hck
    have Q3 := Lib.hid hq3
    have N3 := Lib.hid hn3
    have B3 := Lib.hid hb3
    clear hck hq3 hn3 hb3 Q2 N2 B2 Q1 B1 a5 f5 hG hGl m0 m1 m2
    by_cases hlt : k < 2
    · have KM : Hid (∀ w', NamesAt w' B d H.drain → Calls Tryz.prog 20 #[.agg #[.int .i64 H.l0, .int .i64 H.l1, .int .i64 H.h0, .int .i64 H.h1, .int .i64 H.on, .slice B H.drain.length d, .int .i64 H.mx, .int .i64 H.tr, .bool H.rb]] w' fun e w'' => ∃ A' c', e = .returned (.agg #[.int .i64 (madeG H).l0, .int .i64 (madeG H).l1, .int .i64 (madeG H).h0, .int .i64 (madeG H).h1, .int .i64 (madeG H).on, .slice A' (madeG H).drain.length c', .int .i64 (madeG H).mx, .int .i64 (madeG H).tr, .bool (madeG H).rb]) ∧ NamesAt w'' A' c' (madeG H).drain ∧ Below w'.heap.size w' w'') := Lib.hid (fun w' hn => made_any H B d w' hn)
      have KC : Hid (∀ w', NamesAt w' B d H.drain → Calls Tryz.prog 11 #[.agg #[.int .i64 H.l0, .int .i64 H.l1, .int .i64 H.h0, .int .i64 H.h1, .int .i64 H.on, .slice B H.drain.length d, .int .i64 H.mx, .int .i64 H.tr, .bool H.rb]] w' fun e w'' => e = .returned (.int .i64 (checkG H)) ∧ Below w'.heap.size w' w'') := Lib.hid (fun w' hn => gcheck_any H B d w' hn)
      have KP : Hid (∀ w', Below w.heap.size w w' → NamesAt w' B d H.drain → Calls Tryz.prog 9 #[.agg #[.int .i64 H.l0, .int .i64 H.l1, .int .i64 H.h0, .int .i64 H.h1, .int .i64 H.on, .slice B H.drain.length d, .int .i64 H.mx, .int .i64 H.tr, .bool H.rb]] w' fun e w'' => e = .returned (.tuple #[strV (printG H).1, .int .i64 (printG H).2]) ∧ Below w'.heap.size w' w'') := Lib.hid (fun w' hb hn => print_any H B d w' (HE.out.below hb) hn)
      have a0 : wr.cell? ⟨w.heap.size, 0, none⟩ = some (.int .i64 H.l0) := Blk.cell Q3.out 0
      have a1 : wr.cell? ⟨w.heap.size, 1, none⟩ = some (.int .i64 H.l1) := Blk.cell Q3.out 1
      have a2 : wr.cell? ⟨w.heap.size, 2, none⟩ = some (.int .i64 H.h0) := Blk.cell Q3.out 2
      have a3 : wr.cell? ⟨w.heap.size, 3, none⟩ = some (.int .i64 H.h1) := Blk.cell Q3.out 3
      have a4 : wr.cell? ⟨w.heap.size, 4, none⟩ = some (.int .i64 H.on) := Blk.cell Q3.out 4
      have a5 : wr.cell? ⟨w.heap.size, 5, none⟩ = some (.slice B H.drain.length d) := Blk.cell Q3.out 5
      have a6 : wr.cell? ⟨w.heap.size, 6, none⟩ = some (.int .i64 H.mx) := Blk.cell Q3.out 6
      have a7 : wr.cell? ⟨w.heap.size, 7, none⟩ = some (.int .i64 H.tr) := Blk.cell Q3.out 7
      have a8 : wr.cell? ⟨w.heap.size, 8, none⟩ = some (.bool H.rb) := Blk.cell Q3.out 8
      by_cases hz : checkG H = 0
      · rw [hz] at KC
        rw [print_yes hz] at KP
        have hlen := textK_len hz 7
        have hpb := parse_back hz
        obtain ⟨T, hT⟩ : ∃ T, textK H 7 = T := ⟨_, rfl⟩
        rw [hT] at KP hlen hpb
        clear hT hz
        have KQ : Hid (∀ w', Below w.heap.size w w' → Calls Tryz.prog 16 #[strV T] w' fun e w'' => ∃ A' c', e = .returned (.tuple #[.agg #[.int .i64 H.l0, .int .i64 H.l1, .int .i64 H.h0, .int .i64 H.h1, .int .i64 H.on, .slice A' H.drain.length c', .int .i64 H.mx, .int .i64 H.tr, .bool H.rb], .int .i64 0, .int .i64 0, .int .i64 0]) ∧ NamesAt w'' A' c' H.drain ∧ Below w'.heap.size w' w'') := Lib.hid (fun w' hb => by
          have k := parse_any T w' (HE.out.below hb) (by omega)
          rw [hpb] at k
          refine k.mono ?_
          rintro e w'' ⟨A', c', rfl, ho, hb''⟩
          exact ⟨A', c', rfl, ⟨fun j y hj => Sc.own_slat ho j y hj, (Sc.own_cap ho).1, (Sc.own_cap ho).2, N3.out.big⟩, hb''⟩)
        go_wp2_with fail
        refine (KP.out _ B3.out N3.out).mono ?_
        rintro e w4 ⟨rfl, hb4⟩
        have B4 := Lib.hid (B3.out.trans (hb4.mono B3.out.size))
        have Q4 := Lib.hid (Blk.below Q3.out hb4 (Blk.lt Q3.out))
        have N4 := Lib.hid (N3.out.below hb4)
        clear hb4 KP a0 a1 a2 a3 a4 a5 a6 a7 a8
        have a0 : w4.cell? ⟨w.heap.size, 0, none⟩ = some (.int .i64 H.l0) := Blk.cell Q4.out 0
        have a1 : w4.cell? ⟨w.heap.size, 1, none⟩ = some (.int .i64 H.l1) := Blk.cell Q4.out 1
        have a2 : w4.cell? ⟨w.heap.size, 2, none⟩ = some (.int .i64 H.h0) := Blk.cell Q4.out 2
        have a3 : w4.cell? ⟨w.heap.size, 3, none⟩ = some (.int .i64 H.h1) := Blk.cell Q4.out 3
        have a4 : w4.cell? ⟨w.heap.size, 4, none⟩ = some (.int .i64 H.on) := Blk.cell Q4.out 4
        have a5 : w4.cell? ⟨w.heap.size, 5, none⟩ = some (.slice B H.drain.length d) := Blk.cell Q4.out 5
        have a6 : w4.cell? ⟨w.heap.size, 6, none⟩ = some (.int .i64 H.mx) := Blk.cell Q4.out 6
        have a7 : w4.cell? ⟨w.heap.size, 7, none⟩ = some (.int .i64 H.tr) := Blk.cell Q4.out 7
        have a8 : w4.cell? ⟨w.heap.size, 8, none⟩ = some (.bool H.rb) := Blk.cell Q4.out 8
        go_wp2_with fail
        refine (KC.out _ N4.out).mono ?_
        rintro e w5 ⟨rfl, hb5⟩
        have B5 := Lib.hid (B4.out.trans (hb5.mono B4.out.size))
        have Q5 := Lib.hid (Blk.below Q4.out hb5 (Blk.lt Q4.out))
        have N5 := Lib.hid (N4.out.below hb5)
        clear hb5 KC a0 a1 a2 a3 a4 a5 a6 a7 a8
        have a0 : w5.cell? ⟨w.heap.size, 0, none⟩ = some (.int .i64 H.l0) := Blk.cell Q5.out 0
        have a1 : w5.cell? ⟨w.heap.size, 1, none⟩ = some (.int .i64 H.l1) := Blk.cell Q5.out 1
        have a2 : w5.cell? ⟨w.heap.size, 2, none⟩ = some (.int .i64 H.h0) := Blk.cell Q5.out 2
        have a3 : w5.cell? ⟨w.heap.size, 3, none⟩ = some (.int .i64 H.h1) := Blk.cell Q5.out 3
        have a4 : w5.cell? ⟨w.heap.size, 4, none⟩ = some (.int .i64 H.on) := Blk.cell Q5.out 4
        have a5 : w5.cell? ⟨w.heap.size, 5, none⟩ = some (.slice B H.drain.length d) := Blk.cell Q5.out 5
        have a6 : w5.cell? ⟨w.heap.size, 6, none⟩ = some (.int .i64 H.mx) := Blk.cell Q5.out 6
        have a7 : w5.cell? ⟨w.heap.size, 7, none⟩ = some (.int .i64 H.tr) := Blk.cell Q5.out 7
        have a8 : w5.cell? ⟨w.heap.size, 8, none⟩ = some (.bool H.rb) := Blk.cell Q5.out 8
        go_wp2_with fail
        refine (KQ.out _ B5.out).mono ?_
        rintro e w6 ⟨A6, c6, rfl, hn6, hb6⟩
        have B6 := Lib.hid (B5.out.trans (hb6.mono B5.out.size))
        have Q6 := Lib.hid (Blk.below Q5.out hb6 (Blk.lt Q5.out))
        have N6 := Lib.hid (N5.out.below hb6)
        have M6 := Lib.hid hn6
        clear hb6 hn6 KQ a0 a1 a2 a3 a4 a5 a6 a7 a8
        have hl6 := Blk.lt Q6.out
        have a0 : w6.cell? ⟨w.heap.size, 0, none⟩ = some (.int .i64 H.l0) := Blk.cell Q6.out 0
        have a1 : w6.cell? ⟨w.heap.size, 1, none⟩ = some (.int .i64 H.l1) := Blk.cell Q6.out 1
        have a2 : w6.cell? ⟨w.heap.size, 2, none⟩ = some (.int .i64 H.h0) := Blk.cell Q6.out 2
        have a3 : w6.cell? ⟨w.heap.size, 3, none⟩ = some (.int .i64 H.h1) := Blk.cell Q6.out 3
        have a4 : w6.cell? ⟨w.heap.size, 4, none⟩ = some (.int .i64 H.on) := Blk.cell Q6.out 4
        have a5 : w6.cell? ⟨w.heap.size, 5, none⟩ = some (.slice B H.drain.length d) := Blk.cell Q6.out 5
        have a6 : w6.cell? ⟨w.heap.size, 6, none⟩ = some (.int .i64 H.mx) := Blk.cell Q6.out 6
        have a7 : w6.cell? ⟨w.heap.size, 7, none⟩ = some (.int .i64 H.tr) := Blk.cell Q6.out 7
        have a8 : w6.cell? ⟨w.heap.size, 8, none⟩ = some (.bool H.rb) := Blk.cell Q6.out 8
        have Qh := Lib.hid (Blk.alloc Q6.out (.cells #[.int .i64 H.l0, .int .i64 H.l1, .int .i64 H.h0, .int .i64 H.h1, .int .i64 H.on, .slice A6 H.drain.length c6, .int .i64 H.mx, .int .i64 H.tr, .bool H.rb] 25))
        have Bh := Lib.hid (B6.out.alloc B6.out.size (.cells #[.int .i64 H.l0, .int .i64 H.l1, .int .i64 H.h0, .int .i64 H.h1, .int .i64 H.on, .slice A6 H.drain.length c6, .int .i64 H.mx, .int .i64 H.tr, .bool H.rb] 25))
        have Nh := Lib.hid (N6.out.below (below1 w6 (.cells #[.int .i64 H.l0, .int .i64 H.l1, .int .i64 H.h0, .int .i64 H.h1, .int .i64 H.on, .slice A6 H.drain.length c6, .int .i64 H.mx, .int .i64 H.tr, .bool H.rb] 25)))
        have KS : Hid (Calls Tryz.prog 19 #[.agg #[.int .i64 H.l0, .int .i64 H.l1, .int .i64 H.h0, .int .i64 H.h1, .int .i64 H.on, .slice B H.drain.length d, .int .i64 H.mx, .int .i64 H.tr, .bool H.rb], .agg #[.int .i64 H.l0, .int .i64 H.l1, .int .i64 H.h0, .int .i64 H.h1, .int .i64 H.on, .slice A6 H.drain.length c6, .int .i64 H.mx, .int .i64 H.tr, .bool H.rb]] (w6.alloc (.cells #[.int .i64 H.l0, .int .i64 H.l1, .int .i64 H.h0, .int .i64 H.h1, .int .i64 H.on, .slice A6 H.drain.length c6, .int .i64 H.mx, .int .i64 H.tr, .bool H.rb] 25)) fun e w' => e = .returned (.bool true) ∧ Below (w6.alloc (.cells #[.int .i64 H.l0, .int .i64 H.l1, .int .i64 H.h0, .int .i64 H.h1, .int .i64 H.on, .slice A6 H.drain.length c6, .int .i64 H.mx, .int .i64 H.tr, .bool H.rb] 25)).heap.size (w6.alloc (.cells #[.int .i64 H.l0, .int .i64 H.l1, .int .i64 H.h0, .int .i64 H.h1, .int .i64 H.on, .slice A6 H.drain.length c6, .int .i64 H.mx, .int .i64 H.tr, .bool H.rb] 25)) w') := Lib.hid (same_yes H B A6 d c6 _ (N6.out.below (below1 w6 _)) (M6.out.below (below1 w6 _)))
        go_wp2_with fail
        refine KS.out.mono ?_
        rintro e w7 ⟨rfl, hb7⟩
        have B7 := Lib.hid (Bh.out.trans (hb7.mono Bh.out.size))
        have Q7 := Lib.hid (Blk.below Qh.out hb7 (Blk.lt Qh.out))
        have N7 := Lib.hid (Nh.out.below hb7)
        clear hb7 KS Q6 N6 B6 M6 a0 a1 a2 a3 a4 a5 a6 a7 a8
        have a0 : w7.cell? ⟨w.heap.size, 0, none⟩ = some (.int .i64 H.l0) := Blk.cell Q7.out 0
        have a1 : w7.cell? ⟨w.heap.size, 1, none⟩ = some (.int .i64 H.l1) := Blk.cell Q7.out 1
        have a2 : w7.cell? ⟨w.heap.size, 2, none⟩ = some (.int .i64 H.h0) := Blk.cell Q7.out 2
        have a3 : w7.cell? ⟨w.heap.size, 3, none⟩ = some (.int .i64 H.h1) := Blk.cell Q7.out 3
        have a4 : w7.cell? ⟨w.heap.size, 4, none⟩ = some (.int .i64 H.on) := Blk.cell Q7.out 4
        have a5 : w7.cell? ⟨w.heap.size, 5, none⟩ = some (.slice B H.drain.length d) := Blk.cell Q7.out 5
        have a6 : w7.cell? ⟨w.heap.size, 6, none⟩ = some (.int .i64 H.mx) := Blk.cell Q7.out 6
        have a7 : w7.cell? ⟨w.heap.size, 7, none⟩ = some (.int .i64 H.tr) := Blk.cell Q7.out 7
        have a8 : w7.cell? ⟨w.heap.size, 8, none⟩ = some (.bool H.rb) := Blk.cell Q7.out 8
        go_wp2_with fail
        refine (KM.out w7 N7.out).mono ?_
        rintro e w8 ⟨A7, c7, rfl, hn8, hb8⟩
        have B8 := Lib.hid (B7.out.trans (hb8.mono B7.out.size))
        have Q8 := Lib.hid (Blk.below Q7.out hb8 (Blk.lt Q7.out))
        have N8 := Lib.hid (N7.out.below hb8)
        have M8 := Lib.hid hn8
        clear hb8 hn8 a0 a1 a2 a3 a4 a5 a6 a7 a8
        have a0 : w8.cell? ⟨w.heap.size, 0, none⟩ = some (.int .i64 H.l0) := Blk.cell Q8.out 0
        have a1 : w8.cell? ⟨w.heap.size, 1, none⟩ = some (.int .i64 H.l1) := Blk.cell Q8.out 1
        have a2 : w8.cell? ⟨w.heap.size, 2, none⟩ = some (.int .i64 H.h0) := Blk.cell Q8.out 2
        have a3 : w8.cell? ⟨w.heap.size, 3, none⟩ = some (.int .i64 H.h1) := Blk.cell Q8.out 3
        have a4 : w8.cell? ⟨w.heap.size, 4, none⟩ = some (.int .i64 H.on) := Blk.cell Q8.out 4
        have a5 : w8.cell? ⟨w.heap.size, 5, none⟩ = some (.slice B H.drain.length d) := Blk.cell Q8.out 5
        have a6 : w8.cell? ⟨w.heap.size, 6, none⟩ = some (.int .i64 H.mx) := Blk.cell Q8.out 6
        have a7 : w8.cell? ⟨w.heap.size, 7, none⟩ = some (.int .i64 H.tr) := Blk.cell Q8.out 7
        have a8 : w8.cell? ⟨w.heap.size, 8, none⟩ = some (.bool H.rb) := Blk.cell Q8.out 8
        have f0 : w8.frozen? ⟨w.heap.size, 0, none⟩ = false := Blk.free Q8.out 0
        have f1 : w8.frozen? ⟨w.heap.size, 1, none⟩ = false := Blk.free Q8.out 1
        have f2 : w8.frozen? ⟨w.heap.size, 2, none⟩ = false := Blk.free Q8.out 2
        have f3 : w8.frozen? ⟨w.heap.size, 3, none⟩ = false := Blk.free Q8.out 3
        have f4 : w8.frozen? ⟨w.heap.size, 4, none⟩ = false := Blk.free Q8.out 4
        have f5 : w8.frozen? ⟨w.heap.size, 5, none⟩ = false := Blk.free Q8.out 5
        have f6 : w8.frozen? ⟨w.heap.size, 6, none⟩ = false := Blk.free Q8.out 6
        have f7 : w8.frozen? ⟨w.heap.size, 7, none⟩ = false := Blk.free Q8.out 7
        have f8 : w8.frozen? ⟨w.heap.size, 8, none⟩ = false := Blk.free Q8.out 8
        obtain ⟨G7, hG7⟩ : ∃ G7, madeG H = G7 := ⟨_, rfl⟩
        have HC7 : Hid (checkG G7 = 0) := Lib.hid (by rw [← hG7]; exact made_check H)
        rw [hG7] at M8 ⊢
        clear hG7
        have QX : Hid (Blk (set9 w8 w.heap.size (.int .i64 G7.l0) (.int .i64 G7.l1) (.int .i64 G7.h0) (.int .i64 G7.h1) (.int .i64 G7.on) (.slice A7 G7.drain.length c7) (.int .i64 G7.mx) (.int .i64 G7.tr) (.bool G7.rb)) w.heap.size (cellsG G7 A7 c7) 25) := Lib.hid (blk9 Q8.out _ _ _ _ _ _ _ _ _)
        have BX := Lib.hid (below9 B8.out (Nat.le_refl _) (.int .i64 G7.l0) (.int .i64 G7.l1) (.int .i64 G7.h0) (.int .i64 G7.h1) (.int .i64 G7.on) (.slice A7 G7.drain.length c7) (.int .i64 G7.mx) (.int .i64 G7.tr) (.bool G7.rb))
        have NX : Hid (NamesAt (set9 w8 w.heap.size (.int .i64 G7.l0) (.int .i64 G7.l1) (.int .i64 G7.h0) (.int .i64 G7.h1) (.int .i64 G7.on) (.slice A7 G7.drain.length c7) (.int .i64 G7.mx) (.int .i64 G7.tr) (.bool G7.rb)) A7 c7 G7.drain) := Lib.hid (by
          have K := keep9 w8 w.heap.size (.int .i64 G7.l0) (.int .i64 G7.l1) (.int .i64 G7.h0) (.int .i64 G7.h1) (.int .i64 G7.on) (.slice A7 G7.drain.length c7) (.int .i64 G7.mx) (.int .i64 G7.tr) (.bool G7.rb)
          refine ⟨fun j y hj => ?_, M8.out.le, M8.out.most, M8.out.big⟩
          obtain ⟨b, o, hA, hc⟩ := M8.out.cells j y hj
          refine ⟨b, o, hA, K.cell hc (fun e => ?_)⟩
          subst e
          obtain ⟨t7, ht7⟩ : ∃ t, y = strV t := by
            simp only [strC, List.getElem?_map, Option.map_eq_some_iff] at hj
            obtain ⟨t, _, h⟩ := hj
            exact ⟨t, h.symm⟩
          rw [ht7] at hc
          exact gap7 Q8.out hc)
        go_wp2_with fail
        go_roundw
        case rel => exact ⟨k + 1, G7, A7, c7, by omega, by go_num, fun _ => HC7.out, QX.out, NX.out, BX.out⟩
        case measure => simp [intOf]; omega
      · have hz60 : checkG H = 60 := by
          unfold checkG at hz ⊢
          split at hz
          · exact absurd rfl hz
          · rename_i hp
            rw [if_neg hp]
        have hk0 : k = 0 := by
          by_cases h : k = 0
          · exact h
          · exact absurd (HCK.out h) hz
        subst hk0
        have KPb : Hid (∀ w', Below w.heap.size w w' → NamesAt w' B d H.drain → Calls Tryz.prog 9 #[.agg #[.int .i64 H.l0, .int .i64 H.l1, .int .i64 H.h0, .int .i64 H.h1, .int .i64 H.on, .slice B H.drain.length d, .int .i64 H.mx, .int .i64 H.tr, .bool H.rb]] w' fun e w'' => e = .returned (.tuple #[.string ⟨#[]⟩, .int .i64 60]) ∧ Below w'.heap.size w' w'') := Lib.hid (fun w' hb hn => by
          have k := KP.out w' hb hn
          rw [print_no hz] at k
          exact k)
        rw [hz60] at KC
        clear hz KP hz60
        go_wp2_with fail
        refine (KPb.out _ B3.out N3.out).mono ?_
        rintro e w4 ⟨rfl, hb4⟩
        have B4 := Lib.hid (B3.out.trans (hb4.mono B3.out.size))
        have Q4 := Lib.hid (Blk.below Q3.out hb4 (Blk.lt Q3.out))
        have N4 := Lib.hid (N3.out.below hb4)
        clear hb4 KPb a0 a1 a2 a3 a4 a5 a6 a7 a8
        have a0 : w4.cell? ⟨w.heap.size, 0, none⟩ = some (.int .i64 H.l0) := Blk.cell Q4.out 0
        have a1 : w4.cell? ⟨w.heap.size, 1, none⟩ = some (.int .i64 H.l1) := Blk.cell Q4.out 1
        have a2 : w4.cell? ⟨w.heap.size, 2, none⟩ = some (.int .i64 H.h0) := Blk.cell Q4.out 2
        have a3 : w4.cell? ⟨w.heap.size, 3, none⟩ = some (.int .i64 H.h1) := Blk.cell Q4.out 3
        have a4 : w4.cell? ⟨w.heap.size, 4, none⟩ = some (.int .i64 H.on) := Blk.cell Q4.out 4
        have a5 : w4.cell? ⟨w.heap.size, 5, none⟩ = some (.slice B H.drain.length d) := Blk.cell Q4.out 5
        have a6 : w4.cell? ⟨w.heap.size, 6, none⟩ = some (.int .i64 H.mx) := Blk.cell Q4.out 6
        have a7 : w4.cell? ⟨w.heap.size, 7, none⟩ = some (.int .i64 H.tr) := Blk.cell Q4.out 7
        have a8 : w4.cell? ⟨w.heap.size, 8, none⟩ = some (.bool H.rb) := Blk.cell Q4.out 8
        go_wp2_with fail
        refine (KC.out _ N4.out).mono ?_
        rintro e w5 ⟨rfl, hb5⟩
        have B5 := Lib.hid (B4.out.trans (hb5.mono B4.out.size))
        have Q5 := Lib.hid (Blk.below Q4.out hb5 (Blk.lt Q4.out))
        have N5 := Lib.hid (N4.out.below hb5)
        clear hb5 KC a0 a1 a2 a3 a4 a5 a6 a7 a8
        have a0 : w5.cell? ⟨w.heap.size, 0, none⟩ = some (.int .i64 H.l0) := Blk.cell Q5.out 0
        have a1 : w5.cell? ⟨w.heap.size, 1, none⟩ = some (.int .i64 H.l1) := Blk.cell Q5.out 1
        have a2 : w5.cell? ⟨w.heap.size, 2, none⟩ = some (.int .i64 H.h0) := Blk.cell Q5.out 2
        have a3 : w5.cell? ⟨w.heap.size, 3, none⟩ = some (.int .i64 H.h1) := Blk.cell Q5.out 3
        have a4 : w5.cell? ⟨w.heap.size, 4, none⟩ = some (.int .i64 H.on) := Blk.cell Q5.out 4
        have a5 : w5.cell? ⟨w.heap.size, 5, none⟩ = some (.slice B H.drain.length d) := Blk.cell Q5.out 5
        have a6 : w5.cell? ⟨w.heap.size, 6, none⟩ = some (.int .i64 H.mx) := Blk.cell Q5.out 6
        have a7 : w5.cell? ⟨w.heap.size, 7, none⟩ = some (.int .i64 H.tr) := Blk.cell Q5.out 7
        have a8 : w5.cell? ⟨w.heap.size, 8, none⟩ = some (.bool H.rb) := Blk.cell Q5.out 8
        go_wp2_with fail
        refine (KM.out w5 N5.out).mono ?_
        rintro e w6 ⟨A7, c7, rfl, hn6, hb6⟩
        have B6 := Lib.hid (B5.out.trans (hb6.mono B5.out.size))
        have Q6 := Lib.hid (Blk.below Q5.out hb6 (Blk.lt Q5.out))
        have N6 := Lib.hid (N5.out.below hb6)
        have M6 := Lib.hid hn6
        clear hb6 hn6 a0 a1 a2 a3 a4 a5 a6 a7 a8
        have a0 : w6.cell? ⟨w.heap.size, 0, none⟩ = some (.int .i64 H.l0) := Blk.cell Q6.out 0
        have a1 : w6.cell? ⟨w.heap.size, 1, none⟩ = some (.int .i64 H.l1) := Blk.cell Q6.out 1
        have a2 : w6.cell? ⟨w.heap.size, 2, none⟩ = some (.int .i64 H.h0) := Blk.cell Q6.out 2
        have a3 : w6.cell? ⟨w.heap.size, 3, none⟩ = some (.int .i64 H.h1) := Blk.cell Q6.out 3
        have a4 : w6.cell? ⟨w.heap.size, 4, none⟩ = some (.int .i64 H.on) := Blk.cell Q6.out 4
        have a5 : w6.cell? ⟨w.heap.size, 5, none⟩ = some (.slice B H.drain.length d) := Blk.cell Q6.out 5
        have a6 : w6.cell? ⟨w.heap.size, 6, none⟩ = some (.int .i64 H.mx) := Blk.cell Q6.out 6
        have a7 : w6.cell? ⟨w.heap.size, 7, none⟩ = some (.int .i64 H.tr) := Blk.cell Q6.out 7
        have a8 : w6.cell? ⟨w.heap.size, 8, none⟩ = some (.bool H.rb) := Blk.cell Q6.out 8
        have f0 : w6.frozen? ⟨w.heap.size, 0, none⟩ = false := Blk.free Q6.out 0
        have f1 : w6.frozen? ⟨w.heap.size, 1, none⟩ = false := Blk.free Q6.out 1
        have f2 : w6.frozen? ⟨w.heap.size, 2, none⟩ = false := Blk.free Q6.out 2
        have f3 : w6.frozen? ⟨w.heap.size, 3, none⟩ = false := Blk.free Q6.out 3
        have f4 : w6.frozen? ⟨w.heap.size, 4, none⟩ = false := Blk.free Q6.out 4
        have f5 : w6.frozen? ⟨w.heap.size, 5, none⟩ = false := Blk.free Q6.out 5
        have f6 : w6.frozen? ⟨w.heap.size, 6, none⟩ = false := Blk.free Q6.out 6
        have f7 : w6.frozen? ⟨w.heap.size, 7, none⟩ = false := Blk.free Q6.out 7
        have f8 : w6.frozen? ⟨w.heap.size, 8, none⟩ = false := Blk.free Q6.out 8
        obtain ⟨G7, hG7⟩ : ∃ G7, madeG H = G7 := ⟨_, rfl⟩
        have HC7 : Hid (checkG G7 = 0) := Lib.hid (by rw [← hG7]; exact made_check H)
        rw [hG7] at M6 ⊢
        clear hG7
        have QX : Hid (Blk (set9 w6 w.heap.size (.int .i64 G7.l0) (.int .i64 G7.l1) (.int .i64 G7.h0) (.int .i64 G7.h1) (.int .i64 G7.on) (.slice A7 G7.drain.length c7) (.int .i64 G7.mx) (.int .i64 G7.tr) (.bool G7.rb)) w.heap.size (cellsG G7 A7 c7) 25) := Lib.hid (blk9 Q6.out _ _ _ _ _ _ _ _ _)
        have BX := Lib.hid (below9 B6.out (Nat.le_refl _) (.int .i64 G7.l0) (.int .i64 G7.l1) (.int .i64 G7.h0) (.int .i64 G7.h1) (.int .i64 G7.on) (.slice A7 G7.drain.length c7) (.int .i64 G7.mx) (.int .i64 G7.tr) (.bool G7.rb))
        have NX : Hid (NamesAt (set9 w6 w.heap.size (.int .i64 G7.l0) (.int .i64 G7.l1) (.int .i64 G7.h0) (.int .i64 G7.h1) (.int .i64 G7.on) (.slice A7 G7.drain.length c7) (.int .i64 G7.mx) (.int .i64 G7.tr) (.bool G7.rb)) A7 c7 G7.drain) := Lib.hid (by
          have K := keep9 w6 w.heap.size (.int .i64 G7.l0) (.int .i64 G7.l1) (.int .i64 G7.h0) (.int .i64 G7.h1) (.int .i64 G7.on) (.slice A7 G7.drain.length c7) (.int .i64 G7.mx) (.int .i64 G7.tr) (.bool G7.rb)
          refine ⟨fun j y hj => ?_, M6.out.le, M6.out.most, M6.out.big⟩
          obtain ⟨b, o, hA, hc⟩ := M6.out.cells j y hj
          refine ⟨b, o, hA, K.cell hc (fun e => ?_)⟩
          subst e
          obtain ⟨t7, ht7⟩ : ∃ t, y = strV t := by
            simp only [strC, List.getElem?_map, Option.map_eq_some_iff] at hj
            obtain ⟨t, _, h⟩ := hj
            exact ⟨t, h.symm⟩
          rw [ht7] at hc
          exact gap7 Q6.out hc)
        go_wp2_with fail
        go_roundw
        case rel => exact ⟨0 + 1, G7, A7, c7, by omega, by go_num, fun _ => HC7.out, QX.out, NX.out, BX.out⟩
        case measure => simp [intOf]
    · obtain rfl : k = 2 := by omega
      go_wp2_with fail
      go_ret
      exact ⟨rfl, B3.out⟩
end Go.Proofs.YthbplchbolghjaaGreatDoor
