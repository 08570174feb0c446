/- A policy's reader: what it is in memory, and its small steps. Condition: its words lie in memory. -/
import Derived.Test.YthbplchbolghjaaGreatDoorGCheck
import Derived.Test.YthbplchbolghjaaGreatDoorSLine
import Derived.Test.YthbplchbolghjaaGreatDoorPercent
import Derived.Deep.QuietTactic
import Derived.BigQuiet
import Derived.Deep.RegionHeld3
namespace Go.Proofs.YthbplchbolghjaaGreatDoor
open Go.RowKit

/-- All but one block is as it was. -/
structure KeepR (g : Nat) (w w' : World) : Prop where
  os : w'.os = w.os
  tape : w'.tape = w.tape
  output : w'.output = w.output
  size : w.heap.size ≤ w'.heap.size
  block : ∀ b, b < w.heap.size → b ≠ g → w'.heap[b]? = w.heap[b]?
theorem below_drewN (B : Nat) (w : World) (n : Nat) : Below B w (w.drewN n) := ⟨rfl, rfl, rfl, Nat.le_refl _, fun _ _ => rfl⟩
theorem KeepR.refl (g : Nat) (w : World) : KeepR g w w := ⟨rfl, rfl, rfl, Nat.le_refl _, fun _ _ _ => rfl⟩
theorem KeepR.of {g : Nat} {w w' : World} (h : Below w.heap.size w w') : KeepR g w w' := ⟨h.os, h.tape, h.output, h.size, fun b hb _ => h.block b hb⟩
theorem KeepR.trans {g : Nat} {a b c : World} (h : KeepR g a b) (k : KeepR g b c) : KeepR g a c :=
  ⟨k.os.trans h.os, k.tape.trans h.tape, k.output.trans h.output, Nat.le_trans h.size k.size, fun i hi hg => (k.block i (Nat.lt_of_lt_of_le hi h.size) hg).trans (h.block i hi hg)⟩
theorem KeepR.fresh {g : Nat} {w a b : World} (h : KeepR g w a) (k : Below w.heap.size a b) : KeepR g w b := ⟨k.os.trans h.os, k.tape.trans h.tape, k.output.trans h.output, Nat.le_trans h.size k.size, fun i hi hg => (k.block i hi).trans (h.block i hi hg)⟩
theorem KeepR.below {g B : Nat} {w w' : World} (h : KeepR g w w') (hB : B ≤ g) (hg : g ≤ w.heap.size) : Below B w w' := ⟨h.os, h.tape, h.output, h.size, fun k hk => h.block k (by omega) (by omega)⟩
theorem KeepR.setCell {g : Nat} {w w' : World} (h : KeepR g w w') (i : Nat) (v : Value) : KeepR g w (w'.setCell ⟨g, i, none⟩ v) := by
  have k := (Below.refl g w').setCell (p := ⟨g, i, none⟩) (Nat.le_refl _) v
  refine ⟨k.os.trans h.os, k.tape.trans h.tape, k.output.trans h.output, Nat.le_trans h.size k.size, fun b hb hg => ?_⟩
  exact (Below.heap_setCell w' ⟨g, i, none⟩ v b hg).trans (h.block b hb hg)
theorem KeepR.cell {g : Nat} {w w' : World} (h : KeepR g w w') {p : Addr} {v : Value} (hp : w.cell? p = some v) (hg : p.block ≠ g) : w'.cell? p = some v := by
  have hb := h.block p.block (World.block_lt_of_cell? w p hp) hg
  rw [← hp]
  unfold World.cell?
  rw [hb]
theorem KeepR.blk {g b : Nat} {w w' : World} {cs : Array Value} {t : TypeId} (h : KeepR g w w') (k : Blk w b cs t) (hg : b ≠ g) : Blk w' b cs t := (h.block b (Blk.lt k) hg).trans k
theorem KeepR.own {g base : Nat} {w w' : World} {e : TypeId} {size : Nat} {v : Value} {n : Nat} {xs : List Value} (h : KeepR g w w') (k : w.ownsRow base e size v n xs) (hg : g < base) : w'.ownsRow base e size v n xs := by
  obtain ⟨h1, h2⟩ := k
  refine ⟨h1, ?_⟩
  rcases h2 with h2 | ⟨q, cap, cur, hv, hq, hc, h3⟩
  · exact .inl h2
  · exact .inr ⟨q, cap, cur, hv, hq, (h.block q (Array.getElem?_eq_some_iff.1 hc).1 (by omega)).trans hc, h3⟩

/-- A reader of a policy's lines. -/
structure PR where
  line : List Sc.W4
  at_ : Nat
  rest : List Sc.W4
  goal : Pol
  wl : Int
  wc : Int
  we : Int
abbrev cellsPR (A1 : Option Addr) (c1 : Nat) (A2 : Option Addr) (c2 : Nat) (A3 : Option Addr) (c3 : Nat) (s : PR) : Array Value := #[.slice A1 s.line.length c1, .int .i64 (s.at_ : Int), .slice A2 s.rest.length c2, .int .i64 s.goal.l0, .int .i64 s.goal.l1, .int .i64 s.goal.h0, .int .i64 s.goal.h1, .int .i64 s.goal.on, .slice A3 s.goal.drain.length c3, .int .i64 s.goal.mx, .int .i64 s.goal.tr, .bool s.goal.rb, .int .i64 s.wl, .int .i64 s.wc, .int .i64 s.we]
/-- It lies in memory. -/
structure RdM (w : World) (g : Nat) (A1 : Option Addr) (c1 : Nat) (A2 : Option Addr) (c2 : Nat) (A3 : Option Addr) (c3 : Nat) (s : PR) : Prop where
  blk : Blk w g (cellsPR A1 c1 A2 c2 A3 c3 s) 77
  lw : Sc.SlAt w A1 (Sc.cellsW s.line)
  ln : ∀ b o, A1 = some ⟨b, o, none⟩ → b < g
  rw : Sc.SlAt w A2 (Sc.cellsW s.rest)
  rn : ∀ b o, A2 = some ⟨b, o, none⟩ → b < g
  own : w.ownsRow (g + 1) 9 1 (.slice A3 s.goal.drain.length c3) s.goal.drain.length (strC s.goal.drain)
  le : s.at_ ≤ s.line.length
  lc : s.line.length ≤ c1 ∧ c1 ≤ 9223372036854775807
  rc : s.rest.length ≤ c2 ∧ c2 ≤ 9223372036854775807
/-- It lies in memory, and its names elsewhere than in block R. -/
def RdP (w : World) (g R : Nat) (s : PR) : Prop := ∃ A1 c1 A2 c2 A3 c3, RdM w g A1 c1 A2 c2 A3 c3 s ∧ (∀ b o, A3 = some ⟨b, o, none⟩ → b ≠ R)
theorem RdM.keep {w w' : World} {g : Nat} {A1 : Option Addr} {c1 : Nat} {A2 : Option Addr} {c2 : Nat} {A3 : Option Addr} {c3 : Nat} {s s' : PR} (h : RdM w g A1 c1 A2 c2 A3 c3 s) (hk : KeepR g w w') (hb : Blk w' g (cellsPR A1 c1 A2 c2 A3 c3 s') 77)
    (hl : s'.line = s.line) (hr : s'.rest = s.rest) (hd : s'.goal.drain = s.goal.drain) (ha : s'.at_ ≤ s.line.length) : RdM w' g A1 c1 A2 c2 A3 c3 s' := by
  refine ⟨hb, ?_, h.ln, ?_, h.rn, ?_, by rw [hl]; exact ha, by rw [hl]; exact h.lc, by rw [hr]; exact h.rc⟩
  · rw [hl]
    intro j y hj
    obtain ⟨b, o, hA, hc⟩ := h.lw j y hj
    exact ⟨b, o, hA, hk.cell hc (Nat.ne_of_lt (h.ln b o hA))⟩
  · rw [hr]
    intro j y hj
    obtain ⟨b, o, hA, hc⟩ := h.rw j y hj
    exact ⟨b, o, hA, hk.cell hc (Nat.ne_of_lt (h.rn b o hA))⟩
  · rw [hd]
    exact hk.own h.own (Nat.lt_succ_self g)
theorem RdM.below {w w' : World} {g : Nat} {A1 : Option Addr} {c1 : Nat} {A2 : Option Addr} {c2 : Nat} {A3 : Option Addr} {c3 : Nat} {s : PR} (h : RdM w g A1 c1 A2 c2 A3 c3 s) (hb : Below w.heap.size w w') : RdM w' g A1 c1 A2 c2 A3 c3 s :=
  h.keep (.of hb) (Blk.below h.blk hb (Blk.lt h.blk)) rfl rfl rfl h.le
theorem RdP.below {w w' : World} {g R : Nat} {s : PR} (h : RdP w g R s) (hb : Below w.heap.size w w') : RdP w' g R s := by
  obtain ⟨A1, c1, A2, c2, A3, c3, hm, hn⟩ := h
  exact ⟨A1, c1, A2, c2, A3, c3, hm.below hb, hn⟩
theorem RdP.lt {w : World} {g R : Nat} {s : PR} (h : RdP w g R s) : g < w.heap.size := by
  obtain ⟨A1, c1, A2, c2, A3, c3, hm, hn⟩ := h
  exact Blk.lt hm.blk

set_option maxRecDepth 100000 in
theorem atEnd_any (g : Nat) (A1 : Option Addr) (c1 : Nat) (A2 : Option Addr) (c2 : Nat) (A3 : Option Addr) (c3 : Nat) (s : PR) (w : World) (hm : RdM w g A1 c1 A2 c2 A3 c3 s) :
    Calls Tryz.prog 101 #[.pointer (some ⟨g, 0, none⟩)] w fun e w' => e = .returned (.bool (decide (s.at_ = s.line.length))) ∧ Below w.heap.size w w' := by
  have d0 : w.cell? ⟨g, 0, none⟩ = some (.slice A1 s.line.length c1) := Blk.cell hm.blk 0
  have d1 : w.cell? ⟨g, 1, none⟩ = some (.int .i64 (s.at_ : Int)) := Blk.cell hm.blk 1
  clear hm
  by_cases hq : s.at_ = s.line.length
  · have e1 : ((s.at_ : Int) == (s.line.length : Int)) = true := by simp [hq]
    rw [show decide (s.at_ = s.line.length) = true by simp [hq]]
    clear hq
    go_enter Tryz.func101, Tryz.ntmps101
    go_wp2
    go_quiet (fail)
    go_wp2
    go_ret
    exact ⟨rfl, below_drewN _ _ _⟩
  · have e1 : ((s.at_ : Int) == (s.line.length : Int)) = false := by simp; omega
    have e2 : decide ((s.at_ : Int) = (s.line.length : Int)) = false := by simp; omega
    rw [show decide (s.at_ = s.line.length) = false by simp [hq]]
    clear hq
    go_enter Tryz.func101, Tryz.ntmps101
    go_wp2
    go_quiet (fail)
    go_wp2
    go_ret
    exact ⟨rfl, below_drewN _ _ _⟩

/-- What is wrong is told, at a word. -/
def failP (s : PR) (x : Sc.W4) (er : Int) : PR := { s with wl := x.2.2.1, wc := x.2.2.2, we := er }
set_option maxRecDepth 100000 in
set_option maxHeartbeats 1000000 in
theorem gfail_any (g : Nat) (A1 : Option Addr) (c1 : Nat) (A2 : Option Addr) (c2 : Nat) (A3 : Option Addr) (c3 : Nat) (s : PR) (x : Sc.W4) (er : Int) (w : World) (hm : RdM w g A1 c1 A2 c2 A3 c3 s) :
    Calls Tryz.prog 72 #[.pointer (some ⟨g, 0, none⟩), Sc.worV x, .int .i64 er] w fun e w' => e = .returned (.bool false) ∧ RdM w' g A1 c1 A2 c2 A3 c3 (failP s x er) ∧ KeepR g w w' := by
  have HM := Lib.hid hm
  have hgl := Blk.lt hm.blk
  obtain ⟨kd, tx, ln, cl⟩ := x
  have B0 : Hid (Below w.heap.size w (w.alloc (.cells #[.int .i64 kd, strV tx, .int .i64 (ln : Int), .int .i64 (cl : Int)] 83))) := Lib.hid (below1 w _)
  have Q0 : Hid (Blk (w.alloc (.cells #[.int .i64 kd, strV tx, .int .i64 (ln : Int), .int .i64 (cl : Int)] 83)) w.heap.size #[.int .i64 kd, strV tx, .int .i64 (ln : Int), .int .i64 (cl : Int)] 83) := Lib.hid (Blk.new w _ _)
  have M0 := Lib.hid (hm.below B0.out)
  clear hm
  go_enter Tryz.func72, Tryz.ntmps72
  go_upto_region 1 with fail
  generalize (w.alloc (.cells #[.int .i64 kd, strV tx, .int .i64 (ln : Int), .int .i64 (cl : Int)] 83)) = W at B0 Q0 M0 ⊢
  have f12 := Blk.free M0.out.blk 12
  have f13 := Blk.free M0.out.blk 13
  have f14 := Blk.free M0.out.blk 14
  have g12 : W.cell? ⟨g, 12, none⟩ = some (.int .i64 s.wl) := Blk.cell M0.out.blk 12
  have g13 : W.cell? ⟨g, 13, none⟩ = some (.int .i64 s.wc) := Blk.cell M0.out.blk 13
  have g14 : W.cell? ⟨g, 14, none⟩ = some (.int .i64 s.we) := Blk.cell M0.out.blk 14
  have q2 : W.cell? ⟨w.heap.size, 2, none⟩ = some (.int .i64 (ln : Int)) := Blk.cell Q0.out 2
  have q3 : W.cell? ⟨w.heap.size, 3, none⟩ = some (.int .i64 (cl : Int)) := Blk.cell Q0.out 3
  have n1 : ¬ w.heap.size = g := by omega
  have n2 : ¬ g = w.heap.size := by omega
  go_wp2
  go_ret
  have KK := (((KeepR.of (g := g) B0.out).setCell 12 (.int .i64 (ln : Int))).setCell 13 (.int .i64 (cl : Int))).setCell 14 (.int .i64 er)
  have K1 := (((KeepR.refl g W).setCell 12 (.int .i64 (ln : Int))).setCell 13 (.int .i64 (cl : Int))).setCell 14 (.int .i64 er)
  exact ⟨rfl, M0.out.keep K1 (Blk.set (Blk.set (Blk.set M0.out.blk 12 (.int .i64 (ln : Int))) 13 (.int .i64 (cl : Int))) 14 (.int .i64 er)) rfl rfl rfl HM.out.le, KK⟩

theorem gword_size : (Tryz.prog.info? 83).map (·.size) = some 4 := by kernel_rfl
abbrev zw : Sc.W4 := (0, [], 0, 0)
/-- The next word, of a kind. -/
def takeP (s : PR) (kind : Int) : Option Sc.W4 × PR := match s.line[s.at_]? with
  | none => (none, failP s (s.line.getD (s.at_ - 1) zw) 3)
  | some x => if x.1 = kind then (some x, { s with at_ := s.at_ + 1 }) else (none, failP s x 4)
set_option maxRecDepth 100000 in
set_option maxHeartbeats 2000000 in
theorem gtake_any (g : Nat) (A1 : Option Addr) (c1 : Nat) (A2 : Option Addr) (c2 : Nat) (A3 : Option Addr) (c3 : Nat) (s : PR) (kind : Int) (w : World) (hm : RdM w g A1 c1 A2 c2 A3 c3 s) (h1 : 1 ≤ s.at_) :
    Calls Tryz.prog 100 #[.pointer (some ⟨g, 0, none⟩), .int .i64 kind] w fun e w' => e = .returned (.tuple #[Sc.worV ((takeP s kind).1.getD zw), .bool (takeP s kind).1.isSome]) ∧ RdM w' g A1 c1 A2 c2 A3 c3 (takeP s kind).2 ∧ KeepR g w w' := by
  have KE := Lib.hid (fun w hm => atEnd_any g A1 c1 A2 c2 A3 c3 s w hm)
  have KF := Lib.hid (fun x er w hm => gfail_any g A1 c1 A2 c2 A3 c3 s x er w hm)
  have HM := Lib.hid hm
  have hgl := Blk.lt hm.blk
  have hlc := hm.lc
  have hle := hm.le
  obtain ⟨T, hT⟩ : ∃ T, takeP s kind = T := ⟨_, rfl⟩
  have HT := Lib.hid hT
  rw [hT]
  clear hT
  have B0 : Hid (Below w.heap.size w (w.alloc (.cells #[.int .i64 0, .string ⟨#[]⟩, .int .i64 0, .int .i64 0] 83))) := Lib.hid (below1 w _)
  have R0 : Hid (Blk (w.alloc (.cells #[.int .i64 0, .string ⟨#[]⟩, .int .i64 0, .int .i64 0] 83)) w.heap.size #[.int .i64 0, .string ⟨#[]⟩, .int .i64 0, .int .i64 0] 83) := Lib.hid (Blk.new w _ _)
  have M0 := Lib.hid (hm.below B0.out)
  clear hm
  go_enter Tryz.func100, Tryz.ntmps100
  go_upto_region 1 with fail
  generalize (w.alloc (.cells #[.int .i64 0, .string ⟨#[]⟩, .int .i64 0, .int .i64 0] 83)) = W at B0 R0 M0 ⊢
  go_wp2_with fail
  refine (KE.out _ M0.out).mono ?_
  rintro e w2 ⟨rfl, hb⟩
  have hWl := Blk.lt R0.out
  have R2 := Lib.hid (Blk.below R0.out hb hWl)
  have M2 := Lib.hid (M0.out.below hb)
  have B2 := Lib.hid (B0.out.trans (hb.mono B0.out.size))
  clear hb KE R0 M0 B0 hWl
  have hR2 := Blk.lt R2.out
  have n1 : ¬ w.heap.size = g := by omega
  have n2 : ¬ g = w.heap.size := by omega
  have d0 : w2.cell? ⟨g, 0, none⟩ = some (.slice A1 s.line.length c1) := Blk.cell M2.out.blk 0
  have d1 : w2.cell? ⟨g, 1, none⟩ = some (.int .i64 (s.at_ : Int)) := Blk.cell M2.out.blk 1
  have r0 : w2.cell? ⟨w.heap.size, 0, none⟩ = some (.int .i64 0) := Blk.cell R2.out 0
  have r1 : w2.cell? ⟨w.heap.size, 1, none⟩ = some (.string ⟨#[]⟩) := Blk.cell R2.out 1
  have r2 : w2.cell? ⟨w.heap.size, 2, none⟩ = some (.int .i64 0) := Blk.cell R2.out 2
  have r3 : w2.cell? ⟨w.heap.size, 3, none⟩ = some (.int .i64 0) := Blk.cell R2.out 3
  have q0 : w2.frozen? ⟨w.heap.size, 0, none⟩ = false := Blk.free R2.out 0
  have q1 : w2.frozen? ⟨w.heap.size, 1, none⟩ = false := Blk.free R2.out 1
  have q2 : w2.frozen? ⟨w.heap.size, 2, none⟩ = false := Blk.free R2.out 2
  have q3 : w2.frozen? ⟨w.heap.size, 3, none⟩ = false := Blk.free R2.out 3
  by_cases hlt : s.at_ < s.line.length
  · obtain ⟨x, hx⟩ : ∃ x, s.line[s.at_]? = some x := ⟨s.line[s.at_], List.getElem?_eq_getElem hlt⟩
    obtain ⟨b, o, hA, hbl, e0, e1, e2, e3⟩ := Sc.SlAt.wor M2.out.lw hx
    subst hA
    rw [show decide (s.at_ = s.line.length) = false by simp; omega]
    have k0 : (0 : Int) ≤ (s.at_ : Int) := by omega
    have k1 : (s.at_ : Int) < (s.line.length : Int) := by omega
    have hE : T = if x.1 = kind then (some x, { s with at_ := s.at_ + 1 }) else (none, failP s x 4) := by rw [← HT.out]; unfold takeP; rw [hx]
    obtain ⟨kd, tx, ln, cl⟩ := x
    simp only at e0 e1 e2 e3
    have hbg := HM.out.ln b o rfl
    have n3 : ¬ b = w.heap.size := by omega
    have n4 : ¬ w.heap.size = b := by omega
    clear hx HT
    go_wp2_with fail
    go_region_held3 (fun w' => w'.cell? ⟨g, 0, none⟩ = some (.slice (some ⟨b, o, none⟩) s.line.length c1) ∧ w'.cell? ⟨g, 1, none⟩ = some (.int .i64 (s.at_ : Int)) ∧ w'.cell? ⟨b, o + s.at_ * 4, none⟩ = some (.int .i64 kd) ∧ w'.cell? ⟨b, o + s.at_ * 4 + 1, none⟩ = some (strV tx) ∧ w'.cell? ⟨b, o + s.at_ * 4 + 2, none⟩ = some (.int .i64 (ln : Int)) ∧ w'.cell? ⟨b, o + s.at_ * 4 + 3, none⟩ = some (.int .i64 (cl : Int)))
      (first | exact ⟨d0, d1, e0, e1, e2, e3⟩ | go_keep)
      (first
        | skip)
    have B3 : Hid (Below w.heap.size w ((((w2.setCell ⟨w.heap.size, 0, none⟩ (.int .i64 kd)).setCell ⟨w.heap.size, 1, none⟩ (strV tx)).setCell ⟨w.heap.size, 2, none⟩ (.int .i64 (ln : Int))).setCell ⟨w.heap.size, 3, none⟩ (.int .i64 (cl : Int))).drew) :=
      Lib.hid (((((B2.out.setCell (p := ⟨w.heap.size, 0, none⟩) (Nat.le_refl _) (.int .i64 kd)).setCell (p := ⟨w.heap.size, 1, none⟩) (Nat.le_refl _) (strV tx)).setCell (p := ⟨w.heap.size, 2, none⟩) (Nat.le_refl _) (.int .i64 (ln : Int))).setCell (p := ⟨w.heap.size, 3, none⟩) (Nat.le_refl _) (.int .i64 (cl : Int))).drew)
    have R3 : Hid (Blk ((((w2.setCell ⟨w.heap.size, 0, none⟩ (.int .i64 kd)).setCell ⟨w.heap.size, 1, none⟩ (strV tx)).setCell ⟨w.heap.size, 2, none⟩ (.int .i64 (ln : Int))).setCell ⟨w.heap.size, 3, none⟩ (.int .i64 (cl : Int))).drew w.heap.size #[.int .i64 kd, strV tx, .int .i64 (ln : Int), .int .i64 (cl : Int)] 83) :=
      Lib.hid (Blk.set (Blk.set (Blk.set (Blk.set R2.out 0 (.int .i64 kd)) 1 (strV tx)) 2 (.int .i64 (ln : Int))) 3 (.int .i64 (cl : Int)))
    have M3 := Lib.hid (HM.out.below B3.out)
    change Exit.then _ _ _ _ ((((w2.setCell ⟨w.heap.size, 0, none⟩ (.int .i64 kd)).setCell ⟨w.heap.size, 1, none⟩ (strV tx)).setCell ⟨w.heap.size, 2, none⟩ (.int .i64 (ln : Int))).setCell ⟨w.heap.size, 3, none⟩ (.int .i64 (cl : Int))).drew
    generalize ((((w2.setCell ⟨w.heap.size, 0, none⟩ (.int .i64 kd)).setCell ⟨w.heap.size, 1, none⟩ (strV tx)).setCell ⟨w.heap.size, 2, none⟩ (.int .i64 (ln : Int))).setCell ⟨w.heap.size, 3, none⟩ (.int .i64 (cl : Int))).drew = V at B3 R3 M3 ⊢
    clear d0 d1 r0 r1 r2 r3 q0 q1 q2 q3 e0 e1 e2 e3 R2 M2 B2
    have hVl := Blk.lt R3.out
    have hVg := Blk.lt M3.out.blk
    have d1 : V.cell? ⟨g, 1, none⟩ = some (.int .i64 (s.at_ : Int)) := Blk.cell M3.out.blk 1
    have f1 : V.frozen? ⟨g, 1, none⟩ = false := Blk.free M3.out.blk 1
    have r0 : V.cell? ⟨w.heap.size, 0, none⟩ = some (.int .i64 kd) := Blk.cell R3.out 0
    have r1 : V.cell? ⟨w.heap.size, 1, none⟩ = some (strV tx) := Blk.cell R3.out 1
    have r2 : V.cell? ⟨w.heap.size, 2, none⟩ = some (.int .i64 (ln : Int)) := Blk.cell R3.out 2
    have r3 : V.cell? ⟨w.heap.size, 3, none⟩ = some (.int .i64 (cl : Int)) := Blk.cell R3.out 3
    by_cases hk : kd = kind
    · subst hk
      rw [if_pos rfl] at hE
      have HE := Lib.hid hE
      clear hE
      have q0 : V.frozen? ⟨w.heap.size, 0, none⟩ = false := Blk.free R3.out 0
      have q1 : V.frozen? ⟨w.heap.size, 1, none⟩ = false := Blk.free R3.out 1
      have q2 : V.frozen? ⟨w.heap.size, 2, none⟩ = false := Blk.free R3.out 2
      have q3 : V.frozen? ⟨w.heap.size, 3, none⟩ = false := Blk.free R3.out 3
      go_wp2_with fail
      refine La.bodyPost_row2 Tryz.results100 w.heap.size _ _ _ _ (.bool true) ?d1 ?p1 ?s1 (Blk.set (Blk.set (Blk.set (Blk.set (Blk.oth R3.out n1 1 _) 0 _) 1 _) 2 _) 3 _) Tryz.underlying83 rfl gword_size ?_
      case d1 => rfl
      case p1 => rfl
      case s1 => rfl
      rw [HE.out]
      have KK := KeepR.fresh ((KeepR.of (g := g) B3.out).setCell 1 (.int .i64 ((s.at_ : Int) + 1))) (((((Below.refl w.heap.size _).setCell (p := ⟨w.heap.size, 0, none⟩) (Nat.le_refl _) (.int .i64 kd)).setCell (p := ⟨w.heap.size, 1, none⟩) (Nat.le_refl _) (strV tx)).setCell (p := ⟨w.heap.size, 2, none⟩) (Nat.le_refl _) (.int .i64 (ln : Int))).setCell (p := ⟨w.heap.size, 3, none⟩) (Nat.le_refl _) (.int .i64 (cl : Int)))
      refine ⟨rfl, HM.out.keep KK ?_ rfl rfl rfl (by simp; omega), KK⟩
      exact Blk.oth (Blk.oth (Blk.oth (Blk.oth (Blk.set M3.out.blk 1 (.int .i64 ((s.at_ : Int) + 1))) n2 0 _) n2 1 _) n2 2 _) n2 3 _
    · rw [if_neg hk] at hE
      have HE := Lib.hid hE
      have e3 : decide (kd = kind) = false := by simpa using hk
      have e4 : (kd == kind) = false := by simpa using hk
      clear hE
      go_wp2_with fail
      refine (KF.out (kd, tx, ln, cl) 4 _ M3.out).mono ?_
      rintro e w4 ⟨rfl, hm4, hk4⟩
      have R4 := Lib.hid (hk4.blk R3.out n1)
      have M4 := Lib.hid hm4
      have K4 := Lib.hid ((KeepR.of (g := g) B3.out).trans hk4)
      clear hm4 hk4 d1 f1 r0 r1 r2 r3 KF
      have r0 : w4.cell? ⟨w.heap.size, 0, none⟩ = some (.int .i64 kd) := Blk.cell R4.out 0
      have r1 : w4.cell? ⟨w.heap.size, 1, none⟩ = some (strV tx) := Blk.cell R4.out 1
      have r2 : w4.cell? ⟨w.heap.size, 2, none⟩ = some (.int .i64 (ln : Int)) := Blk.cell R4.out 2
      have r3 : w4.cell? ⟨w.heap.size, 3, none⟩ = some (.int .i64 (cl : Int)) := Blk.cell R4.out 3
      have q0 : w4.frozen? ⟨w.heap.size, 0, none⟩ = false := Blk.free R4.out 0
      have q1 : w4.frozen? ⟨w.heap.size, 1, none⟩ = false := Blk.free R4.out 1
      have q2 : w4.frozen? ⟨w.heap.size, 2, none⟩ = false := Blk.free R4.out 2
      have q3 : w4.frozen? ⟨w.heap.size, 3, none⟩ = false := Blk.free R4.out 3
      go_wp2_with fail
      refine La.bodyPost_row2 Tryz.results100 w.heap.size _ _ _ _ (.bool false) ?d1 ?p1 ?s1 (Blk.set (Blk.set (Blk.set (Blk.set R4.out 0 _) 1 _) 2 _) 3 _) Tryz.underlying83 rfl gword_size ?_
      case d1 => rfl
      case p1 => rfl
      case s1 => rfl
      rw [HE.out]
      have KK := KeepR.fresh K4.out (((((Below.refl w.heap.size _).setCell (p := ⟨w.heap.size, 0, none⟩) (Nat.le_refl _) (.int .i64 0)).setCell (p := ⟨w.heap.size, 1, none⟩) (Nat.le_refl _) (.string ⟨#[]⟩)).setCell (p := ⟨w.heap.size, 2, none⟩) (Nat.le_refl _) (.int .i64 0)).setCell (p := ⟨w.heap.size, 3, none⟩) (Nat.le_refl _) (.int .i64 0))
      refine ⟨rfl, HM.out.keep KK ?_ rfl rfl rfl HM.out.le, KK⟩
      exact Blk.oth (Blk.oth (Blk.oth (Blk.oth M4.out.blk n2 0 _) n2 1 _) n2 2 _) n2 3 _
  · obtain ⟨x, hx⟩ : ∃ x, s.line[s.at_ - 1]? = some x := ⟨s.line[s.at_ - 1]'(by omega), List.getElem?_eq_getElem (by omega)⟩
    have HE : Hid (T = (none, failP s x 3)) := Lib.hid (by rw [← HT.out]; unfold takeP; rw [List.getElem?_eq_none (by omega)]; simp [List.getD_eq_getElem?_getD, hx])
    rw [show decide (s.at_ = s.line.length) = true by simp; omega]
    obtain ⟨b, o, hA, hbl, e0, e1, e2, e3⟩ := Sc.SlAt.wor M2.out.lw hx
    subst hA
    obtain ⟨kd, tx, ln, cl⟩ := x
    simp only at e0 e1 e2 e3
    have hbg := HM.out.ln b o rfl
    have n3 : ¬ b = w.heap.size := by omega
    have n4 : ¬ w.heap.size = b := by omega
    have i1 : IntKind.i64.wrap ((s.at_ : Int) - 1) = ((s.at_ - 1 : Nat) : Int) := by rw [IntWalk.i64_in _ (by omega)]; omega
    have k0 : (0 : Int) ≤ ((s.at_ - 1 : Nat) : Int) := by omega
    have k1 : ((s.at_ - 1 : Nat) : Int) < (s.line.length : Int) := by omega
    clear hx HT
    go_wp2_with fail
    go_region_held3 (fun w' => w'.cell? ⟨g, 0, none⟩ = some (.slice (some ⟨b, o, none⟩) s.line.length c1) ∧ w'.cell? ⟨g, 1, none⟩ = some (.int .i64 (s.at_ : Int)) ∧ w'.cell? ⟨b, o + (s.at_ - 1) * 4, none⟩ = some (.int .i64 kd) ∧ w'.cell? ⟨b, o + (s.at_ - 1) * 4 + 1, none⟩ = some (strV tx) ∧ w'.cell? ⟨b, o + (s.at_ - 1) * 4 + 2, none⟩ = some (.int .i64 (ln : Int)) ∧ w'.cell? ⟨b, o + (s.at_ - 1) * 4 + 3, none⟩ = some (.int .i64 (cl : Int)))
      (first | exact ⟨d0, d1, e0, e1, e2, e3⟩ | exact S4 | go_keep)
      (first
        | (go_at_call 72; refine (KF.out (kd, tx, ln, cl) 3 _ (M2.out.below ((Below.refl _ _).drew))).mono ?_; rintro e w4 ⟨rfl, hm4, hk4⟩; have R4 := Lib.hid (hk4.blk (show Blk w2.drew _ _ _ from R2.out) n1); have M4 := Lib.hid hm4; have K4 := Lib.hid ((KeepR.of (g := g) B2.out.drew).trans hk4); have S4 := (⟨Blk.cell hm4.blk 0, Blk.cell hm4.blk 1, hk4.cell (p := ⟨b, o + (s.at_ - 1) * 4, none⟩) e0 (Nat.ne_of_lt hbg), hk4.cell (p := ⟨b, o + (s.at_ - 1) * 4 + 1, none⟩) e1 (Nat.ne_of_lt hbg), hk4.cell (p := ⟨b, o + (s.at_ - 1) * 4 + 2, none⟩) e2 (Nat.ne_of_lt hbg), hk4.cell (p := ⟨b, o + (s.at_ - 1) * 4 + 3, none⟩) e3 (Nat.ne_of_lt hbg)⟩ : w4.cell? ⟨g, 0, none⟩ = some (.slice (some ⟨b, o, none⟩) s.line.length c1) ∧ w4.cell? ⟨g, 1, none⟩ = some (.int .i64 (s.at_ : Int)) ∧ w4.cell? ⟨b, o + (s.at_ - 1) * 4, none⟩ = some (.int .i64 kd) ∧ w4.cell? ⟨b, o + (s.at_ - 1) * 4 + 1, none⟩ = some (strV tx) ∧ w4.cell? ⟨b, o + (s.at_ - 1) * 4 + 2, none⟩ = some (.int .i64 (ln : Int)) ∧ w4.cell? ⟨b, o + (s.at_ - 1) * 4 + 3, none⟩ = some (.int .i64 (cl : Int))); have r0 : w4.cell? ⟨w.heap.size, 0, none⟩ = some (.int .i64 0) := Blk.cell R4.out 0; have r1 : w4.cell? ⟨w.heap.size, 1, none⟩ = some (.string ⟨#[]⟩) := Blk.cell R4.out 1; have r2 : w4.cell? ⟨w.heap.size, 2, none⟩ = some (.int .i64 0) := Blk.cell R4.out 2; have r3 : w4.cell? ⟨w.heap.size, 3, none⟩ = some (.int .i64 0) := Blk.cell R4.out 3; have q0 : w4.frozen? ⟨w.heap.size, 0, none⟩ = false := Blk.free R4.out 0; have q1 : w4.frozen? ⟨w.heap.size, 1, none⟩ = false := Blk.free R4.out 1; have q2 : w4.frozen? ⟨w.heap.size, 2, none⟩ = false := Blk.free R4.out 2; have q3 : w4.frozen? ⟨w.heap.size, 3, none⟩ = false := Blk.free R4.out 3; clear hm4 hk4)
        | skip)
    go_wp2_with fail
    refine La.bodyPost_row2 Tryz.results100 w.heap.size _ _ _ _ (.bool false) ?d1 ?p1 ?s1 (Blk.set (Blk.set (Blk.set (Blk.set R4.out 0 _) 1 _) 2 _) 3 _) Tryz.underlying83 rfl gword_size ?_
    case d1 => rfl
    case p1 => rfl
    case s1 => rfl
    rw [HE.out]
    have KK := KeepR.fresh K4.out (((((Below.refl w.heap.size _).setCell (p := ⟨w.heap.size, 0, none⟩) (Nat.le_refl _) (.int .i64 0)).setCell (p := ⟨w.heap.size, 1, none⟩) (Nat.le_refl _) (.string ⟨#[]⟩)).setCell (p := ⟨w.heap.size, 2, none⟩) (Nat.le_refl _) (.int .i64 0)).setCell (p := ⟨w.heap.size, 3, none⟩) (Nat.le_refl _) (.int .i64 0))
    refine ⟨rfl, HM.out.keep KK ?_ rfl rfl rfl HM.out.le, KK⟩
    exact Blk.oth (Blk.oth (Blk.oth (Blk.oth M4.out.blk n2 0 _) n2 1 _) n2 2 _) n2 3 _
end Go.Proofs.YthbplchbolghjaaGreatDoor
