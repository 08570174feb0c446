/- Whether no pod is to go: the contract of Fine. Condition: the arguments lie in memory; whether a pod is crowded is asked only where that is on. Of a safe placement, and a policy without drain, high and empty, none is to go; where some clause of a pod is broken that is looked for, that one is: the law's walk. Condition: the arguments lie in memory. -/
import Derived.Test.YticgcimcebdjlaaGreatC01
import Derived.Handy

namespace Go.Proofs.YticgcimcebdjlaaGreat
open Go.RowKit

set_option maxRecDepth 100000 in
set_option maxHeartbeats 4000000 in
theorem Fine_any (A B C P G : Option Addr) (ca cb cc cp cg : Nat) (ns : List NodeD) (ps : List PodD) (os : List OwnD) (p : List Int) (g : Pol) (cr : Nat → Bool) (w : World) (h : SnapIn w A B C ca cb cc ns ps os) (hp : IntsAt w P cp p) (hg : NamesAt w G cg g.drain) (HC : CrowdOk A B C P G ca cb cc cp cg ns ps os p g cr) :
    Calls Tryz.prog 14 #[snapV A B C ca cb cc ns ps os, .slice P p.length cp, valG g G cg] w fun e w' => e = .returned (.bool (decide (checkG g = 0 ∧ placeE ns ps os p = 0) && decide (wrongF ns ps os p g cr = []))) ∧ Below w.heap.size w w' := by
  obtain ⟨L, hL⟩ : ∃ L, wrongF ns ps os p g cr = L := ⟨_, rfl⟩
  obtain ⟨bd, hbd⟩ : ∃ b, decide (checkG g = 0 ∧ placeE ns ps os p = 0) = b := ⟨_, rfl⟩
  rw [hL, hbd]
  have HL := Lib.hid hL
  have HBD := Lib.hid hbd
  clear hL hbd
  have B0 : Hid (Below w.heap.size w ((w.alloc (.cells (snapC A B C ca cb cc ns ps os) 26)).alloc (.cells (cellsG g G cg) 30))) := Lib.hid (Qu.below2 w _ _)
  have S0 : Hid (Blk ((w.alloc (.cells (snapC A B C ca cb cc ns ps os) 26)).alloc (.cells (cellsG g G cg) 30)) w.heap.size (snapC A B C ca cb cc ns ps os) 26) := Lib.hid (Blk.alloc (Blk.new w _ _) _)
  have G0 : Hid (Blk ((w.alloc (.cells (snapC A B C ca cb cc ns ps os) 26)).alloc (.cells (cellsG g G cg) 30)) (w.heap.size + 1) (cellsG g G cg) 30) := Lib.hid (blk2 w _ _ _)
  have KL := Lib.hid (fun W' (hb : Below w.heap.size w W') => look_any A B C P G ca cb cc cp cg ns ps os p g cr W' (h.low hb) (hp.below hb) (hg.below hb) HC)
  clear h hp hg HC
  go_enter Tryz.func14, Tryz.ntmps14
  go_upto_region 1 with fail
  try change Code.wp _ _ _ _ ((w.alloc (.cells (snapC A B C ca cb cc ns ps os) 26)).alloc (.cells (cellsG g G cg) 30))
  generalize ((w.alloc (.cells (snapC A B C ca cb cc ns ps os) 26)).alloc (.cells (cellsG g G cg) 30)) = W0 at B0 S0 G0 ⊢
  obtain ⟨Gb, hGb⟩ : ∃ b, w.heap.size + 1 = b := ⟨_, rfl⟩
  rw [hGb] at G0 ⊢
  clear hGb
  have s0 : W0.cell? ⟨w.heap.size, 0, none⟩ = some (.slice A ns.length ca) := Blk.cell S0.out 0
  have s1 : W0.cell? ⟨w.heap.size, 1, none⟩ = some (.slice B ps.length cb) := Blk.cell S0.out 1
  have s2 : W0.cell? ⟨w.heap.size, 2, none⟩ = some (.slice C os.length cc) := Blk.cell S0.out 2
  have g0 : W0.cell? ⟨Gb, 0, none⟩ = some (.int .i64 g.l0) := Blk.cell G0.out 0
  have g1 : W0.cell? ⟨Gb, 1, none⟩ = some (.int .i64 g.l1) := Blk.cell G0.out 1
  have g2 : W0.cell? ⟨Gb, 2, none⟩ = some (.int .i64 g.h0) := Blk.cell G0.out 2
  have g3 : W0.cell? ⟨Gb, 3, none⟩ = some (.int .i64 g.h1) := Blk.cell G0.out 3
  have g4 : W0.cell? ⟨Gb, 4, none⟩ = some (.int .i64 g.on) := Blk.cell G0.out 4
  have g5 : W0.cell? ⟨Gb, 5, none⟩ = some (.slice G g.drain.length cg) := Blk.cell G0.out 5
  have g6 : W0.cell? ⟨Gb, 6, none⟩ = some (.int .i64 g.mx) := Blk.cell G0.out 6
  have g7 : W0.cell? ⟨Gb, 7, none⟩ = some (.int .i64 g.tr) := Blk.cell G0.out 7
  have g8 : W0.cell? ⟨Gb, 8, none⟩ = some (.bool g.rb) := Blk.cell G0.out 8
  go_wp2_with fail
  refine (KL.out _ B0.out).mono ?_
  rintro e w1 ⟨v, bv, rfl, hv, hb⟩
  have B1 : Hid (Below w.heap.size w w1) := Lib.hid (B0.out.trans (hb.mono B0.out.size))
  have KW := Lib.hid (fun W' hb => hv.wrong W' hb)
  rw [HL.out] at KW
  obtain rfl : bv = bd := hv.is.trans HBD.out
  clear hv hb s0 s1 s2 g0 g1 g2 g3 g4 g5 g6 g7 g8 KL S0 G0 B0
  have BV := Lib.hid (below1 w1 (.cells (cellsVw v) 92))
  have QV := Lib.hid (Blk.new w1 (cellsVw v) 92)
  go_upto_region 2 with fail
  try change Code.wp _ _ _ _ (w1.alloc (.cells (cellsVw v) 92))
  generalize (w1.alloc (.cells (cellsVw v) 92)) = W2 at BV QV ⊢
  generalize w1.heap.size = Vb at QV ⊢
  have m0 : W2.cell? ⟨Vb, 0, none⟩ = some (.slice v.A v.ns.length v.ca) := Blk.cell QV.out 0
  have m1 : W2.cell? ⟨Vb, 1, none⟩ = some (.slice v.B v.ps.length v.cb) := Blk.cell QV.out 1
  have m2 : W2.cell? ⟨Vb, 2, none⟩ = some (.slice v.C v.os.length v.cc) := Blk.cell QV.out 2
  have m3 : W2.cell? ⟨Vb, 3, none⟩ = some (.slice v.P v.p.length v.cp) := Blk.cell QV.out 3
  have m4 : W2.cell? ⟨Vb, 4, none⟩ = some (.int .i64 v.g.l0) := Blk.cell QV.out 4
  have m5 : W2.cell? ⟨Vb, 5, none⟩ = some (.int .i64 v.g.l1) := Blk.cell QV.out 5
  have m6 : W2.cell? ⟨Vb, 6, none⟩ = some (.int .i64 v.g.h0) := Blk.cell QV.out 6
  have m7 : W2.cell? ⟨Vb, 7, none⟩ = some (.int .i64 v.g.h1) := Blk.cell QV.out 7
  have m8 : W2.cell? ⟨Vb, 8, none⟩ = some (.int .i64 v.g.on) := Blk.cell QV.out 8
  have m9 : W2.cell? ⟨Vb, 9, none⟩ = some (.slice v.G v.g.drain.length v.cg) := Blk.cell QV.out 9
  have m10 : W2.cell? ⟨Vb, 10, none⟩ = some (.int .i64 v.g.mx) := Blk.cell QV.out 10
  have m11 : W2.cell? ⟨Vb, 11, none⟩ = some (.int .i64 v.g.tr) := Blk.cell QV.out 11
  have m12 : W2.cell? ⟨Vb, 12, none⟩ = some (.bool v.g.rb) := Blk.cell QV.out 12
  have m13 : W2.cell? ⟨Vb, 13, none⟩ = some (.slice v.K v.l.length v.ck) := Blk.cell QV.out 13
  have m14 : W2.cell? ⟨Vb, 14, none⟩ = some (.slice v.X v.hs.length v.cx) := Blk.cell QV.out 14
  have m15 : W2.cell? ⟨Vb, 15, none⟩ = some (.slice v.Y v.ws.length v.cy) := Blk.cell QV.out 15
  have m16 : W2.cell? ⟨Vb, 16, none⟩ = some (.slice v.F v.full.length v.cf) := Blk.cell QV.out 16
  have KW1 := Lib.hid (KW.out W2 BV.out)
  clear KW
  cases bv with
  | false =>
    have D := Lib.hid (B1.out.trans (BV.out.mono B1.out.size))
    clear KW1 QV m0 m1 m2 m3 m4 m5 m6 m7 m8 m9 m10 m11 m12 m13 m14 m15 m16
    go_wp2
    go_ret
    exact ⟨rfl, D.out⟩
  | true =>
    go_wp2_with fail
    refine (KW1.out).mono ?_
    rintro e w3 ⟨x, rfl, ho, hb⟩
    obtain ⟨R, cR, rfl, _⟩ := La.own_slice ho
    have D := Lib.hid (B1.out.trans ((BV.out.trans (hb.mono BV.out.size)).mono B1.out.size))
    clear hb ho m0 m1 m2 m3 m4 m5 m6 m7 m8 m9 m10 m11 m12 m13 m14 m15 m16 KW1 QV
    cases L with
    | nil =>
      go_wp2
      go_ret
      exact ⟨rfl, D.out⟩
    | cons x t =>
      have h1 : ((((x :: t).length : Nat) : Int) == 0) = false := by simp; omega
      have h2 : decide ((((x :: t).length : Nat) : Int) = 0) = false := decide_eq_false (by simp; omega)
      generalize (x :: t).length = n at h1 h2 ⊢
      go_wp2
      go_ret
      exact ⟨by simp, D.out⟩
end Go.Proofs.YticgcimcebdjlaaGreat

namespace Go.Proofs.YticgcimcebdjlaaGreat
open Go.RowKit Go.Maps

/-- Sixty-four yes or no lie in block b. -/
structure BoolsAt (w : World) (b : Nat) (F : Nat → Bool) : Prop where
  lt : b < w.heap.size
  c : ∀ i, i < 64 → w.cell? ⟨b, i, none⟩ = some (.bool (F i)) ∧ w.frozen? ⟨b, i, none⟩ = false
theorem BoolsAt.below {w w' : World} {b : Nat} {F : Nat → Bool} (h : BoolsAt w b F) (hb : Below w.heap.size w w') : BoolsAt w' b F :=
  ⟨Nat.lt_of_lt_of_le h.lt hb.size, fun i hi => ⟨(hb.cell (p := ⟨b, i, none⟩) h.lt).trans (h.c i hi).1, (hb.frozen (p := ⟨b, i, none⟩) h.lt).trans (h.c i hi).2⟩⟩
theorem BoolsAt.new (w : World) (t : TypeId) : BoolsAt (w.alloc (.cells (Array.replicate 64 (.bool false)) t)) w.heap.size (fun _ => false) := by
  have hB := Blk.new w (Array.replicate 64 (.bool false)) t
  refine ⟨hB.lt, fun i hi => ⟨?_, Blk.free hB i⟩⟩
  rw [Blk.cell hB i]
  simp [hi]
theorem BoolsAt.set {w : World} {b k : Nat} {F : Nat → Bool} (h : BoolsAt w b F) (hk : k < 64) (v : Bool) : BoolsAt (w.setCell ⟨b, k, none⟩ (.bool v)) b (fun i => if i = k then v else F i) := by
  refine ⟨by simpa using h.lt, fun i hi => ⟨?_, by rw [World.frozen?_setCell]; exact (h.c i hi).2⟩⟩
  by_cases hik : i = k
  · subst hik
    rw [if_pos rfl]
    exact World.cell?_setCell_same _ _ _ (h.c i hi).1
  · rw [if_neg hik, World.cell?_setCell_other _ _ _ _ (by intro e; cases e; exact hik rfl)]
    exact (h.c i hi).1
end Go.Proofs.YticgcimcebdjlaaGreat
