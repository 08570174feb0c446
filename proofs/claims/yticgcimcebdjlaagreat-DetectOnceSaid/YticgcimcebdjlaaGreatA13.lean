/- The pods that are to go, in order: the contract of Pods. Condition: the arguments lie in memory; whether a pod is crowded is asked only where that is on. The chapter's examples of layer 13 hold. No conditions. -/
import Derived.Test.YticgcimcebdjlaaGreatA12

namespace Go.Proofs.YticgcimcebdjlaaGreat
open Go.RowKit

set_option maxRecDepth 100000 in
set_option maxHeartbeats 4000000 in
theorem Pods_any (A B C P G : Option Addr) (ca cb cc cp cg : Nat) (ns : List NodeD) (ps : List PodD) (os : List OwnD) (p : List Int) (g : Pol) (cr : Nat → Bool) (w : World) (h : SnapIn w A B C ca cb cc ns ps os) (hp : IntsAt w P cp p) (hg : NamesAt w G cg g.drain) (HC : CrowdOk A B C P G ca cb cc cp cg ns ps os p g cr) :
    Calls Tryz.prog 13 #[snapV A B C ca cb cc ns ps os, .slice P p.length cp, valG g G cg] w fun e w' => ∃ x, e = .returned x ∧ w'.ownsRow w.heap.size 98 3 x (sortW (wrongF ns ps os p g cr)).length (cellsW3 (sortW (wrongF ns ps os p g cr))) ∧ Below w.heap.size w w' := by
  have HLN := Lib.hid (wrongF_few ns ps os p g cr)
  obtain ⟨L, hL⟩ : ∃ L, wrongF ns ps os p g cr = L := ⟨_, rfl⟩
  rw [hL] at HLN ⊢
  have HL := Lib.hid hL
  clear hL
  have B0 : Hid (Below w.heap.size w ((w.alloc (.cells (snapC A B C ca cb cc ns ps os) 26)).alloc (.cells (cellsG g G cg) 30))) := Lib.hid (Qu.below2 w _ _)
  have S0 : Hid (Blk ((w.alloc (.cells (snapC A B C ca cb cc ns ps os) 26)).alloc (.cells (cellsG g G cg) 30)) w.heap.size (snapC A B C ca cb cc ns ps os) 26) := Lib.hid (Blk.alloc (Blk.new w _ _) _)
  have G0 : Hid (Blk ((w.alloc (.cells (snapC A B C ca cb cc ns ps os) 26)).alloc (.cells (cellsG g G cg) 30)) (w.heap.size + 1) (cellsG g G cg) 30) := Lib.hid (blk2 w _ _ _)
  have KL := Lib.hid (fun W' (hb : Below w.heap.size w W') => look_any A B C P G ca cb cc cp cg ns ps os p g cr W' (h.low hb) (hp.below hb) (hg.below hb) HC)
  clear h hp hg HC
  go_enter Tryz.func13, Tryz.ntmps13
  go_upto_region 1 with fail
  try change Code.wp _ _ _ _ ((w.alloc (.cells (snapC A B C ca cb cc ns ps os) 26)).alloc (.cells (cellsG g G cg) 30))
  generalize ((w.alloc (.cells (snapC A B C ca cb cc ns ps os) 26)).alloc (.cells (cellsG g G cg) 30)) = W0 at B0 S0 G0 ⊢
  obtain ⟨Gb, hGb⟩ : ∃ b, w.heap.size + 1 = b := ⟨_, rfl⟩
  rw [hGb] at G0 ⊢
  clear hGb
  have s0 : W0.cell? ⟨w.heap.size, 0, none⟩ = some (.slice A ns.length ca) := Blk.cell S0.out 0
  have s1 : W0.cell? ⟨w.heap.size, 1, none⟩ = some (.slice B ps.length cb) := Blk.cell S0.out 1
  have s2 : W0.cell? ⟨w.heap.size, 2, none⟩ = some (.slice C os.length cc) := Blk.cell S0.out 2
  have g0 : W0.cell? ⟨Gb, 0, none⟩ = some (.int .i64 g.l0) := Blk.cell G0.out 0
  have g1 : W0.cell? ⟨Gb, 1, none⟩ = some (.int .i64 g.l1) := Blk.cell G0.out 1
  have g2 : W0.cell? ⟨Gb, 2, none⟩ = some (.int .i64 g.h0) := Blk.cell G0.out 2
  have g3 : W0.cell? ⟨Gb, 3, none⟩ = some (.int .i64 g.h1) := Blk.cell G0.out 3
  have g4 : W0.cell? ⟨Gb, 4, none⟩ = some (.int .i64 g.on) := Blk.cell G0.out 4
  have g5 : W0.cell? ⟨Gb, 5, none⟩ = some (.slice G g.drain.length cg) := Blk.cell G0.out 5
  have g6 : W0.cell? ⟨Gb, 6, none⟩ = some (.int .i64 g.mx) := Blk.cell G0.out 6
  have g7 : W0.cell? ⟨Gb, 7, none⟩ = some (.int .i64 g.tr) := Blk.cell G0.out 7
  have g8 : W0.cell? ⟨Gb, 8, none⟩ = some (.bool g.rb) := Blk.cell G0.out 8
  go_wp2_with fail
  refine (KL.out _ B0.out).mono ?_
  rintro e w1 ⟨v, bv, rfl, hv, hb⟩
  have B1 : Hid (Below w.heap.size w w1) := Lib.hid (B0.out.trans (hb.mono B0.out.size))
  have KW := Lib.hid (fun W' hb => hv.wrong W' hb)
  rw [HL.out] at KW
  clear hv hb s0 s1 s2 g0 g1 g2 g3 g4 g5 g6 g7 g8 KL S0 G0 B0
  have BV := Lib.hid (below1 w1 (.cells (cellsVw v) 92))
  have QV := Lib.hid (Blk.new w1 (cellsVw v) 92)
  go_upto_region 2 with fail
  try change Code.wp _ _ _ _ (w1.alloc (.cells (cellsVw v) 92))
  generalize (w1.alloc (.cells (cellsVw v) 92)) = W2 at BV QV ⊢
  generalize w1.heap.size = Vb at QV ⊢
  have m0 : W2.cell? ⟨Vb, 0, none⟩ = some (.slice v.A v.ns.length v.ca) := Blk.cell QV.out 0
  have m1 : W2.cell? ⟨Vb, 1, none⟩ = some (.slice v.B v.ps.length v.cb) := Blk.cell QV.out 1
  have m2 : W2.cell? ⟨Vb, 2, none⟩ = some (.slice v.C v.os.length v.cc) := Blk.cell QV.out 2
  have m3 : W2.cell? ⟨Vb, 3, none⟩ = some (.slice v.P v.p.length v.cp) := Blk.cell QV.out 3
  have m4 : W2.cell? ⟨Vb, 4, none⟩ = some (.int .i64 v.g.l0) := Blk.cell QV.out 4
  have m5 : W2.cell? ⟨Vb, 5, none⟩ = some (.int .i64 v.g.l1) := Blk.cell QV.out 5
  have m6 : W2.cell? ⟨Vb, 6, none⟩ = some (.int .i64 v.g.h0) := Blk.cell QV.out 6
  have m7 : W2.cell? ⟨Vb, 7, none⟩ = some (.int .i64 v.g.h1) := Blk.cell QV.out 7
  have m8 : W2.cell? ⟨Vb, 8, none⟩ = some (.int .i64 v.g.on) := Blk.cell QV.out 8
  have m9 : W2.cell? ⟨Vb, 9, none⟩ = some (.slice v.G v.g.drain.length v.cg) := Blk.cell QV.out 9
  have m10 : W2.cell? ⟨Vb, 10, none⟩ = some (.int .i64 v.g.mx) := Blk.cell QV.out 10
  have m11 : W2.cell? ⟨Vb, 11, none⟩ = some (.int .i64 v.g.tr) := Blk.cell QV.out 11
  have m12 : W2.cell? ⟨Vb, 12, none⟩ = some (.bool v.g.rb) := Blk.cell QV.out 12
  have m13 : W2.cell? ⟨Vb, 13, none⟩ = some (.slice v.K v.l.length v.ck) := Blk.cell QV.out 13
  have m14 : W2.cell? ⟨Vb, 14, none⟩ = some (.slice v.X v.hs.length v.cx) := Blk.cell QV.out 14
  have m15 : W2.cell? ⟨Vb, 15, none⟩ = some (.slice v.Y v.ws.length v.cy) := Blk.cell QV.out 15
  have m16 : W2.cell? ⟨Vb, 16, none⟩ = some (.slice v.F v.full.length v.cf) := Blk.cell QV.out 16
  have KW1 := Lib.hid (KW.out W2 BV.out)
  clear KW
  go_wp2_with fail
  refine (KW1.out).mono ?_
  rintro e w3 ⟨x, rfl, ho, hb⟩
  obtain ⟨R, cR, rfl, _⟩ := La.own_slice ho
  have D := Lib.hid (B1.out.trans ((BV.out.trans (hb.mono BV.out.size)).mono B1.out.size))
  have HO3 := Lib.hid ho
  have HW3 := Lib.hid hb.size
  have HSZ : Hid (w.heap.size ≤ W2.heap.size) := Lib.hid (Nat.le_trans B1.out.size BV.out.size)
  clear hb ho m0 m1 m2 m3 m4 m5 m6 m7 m8 m9 m10 m11 m12 m13 m14 m15 m16 KW1 QV BV B1
  have Bf : Hid (Below w3.heap.size w3 (w3.alloc (.cells #[.func (.func 49) #[] #[], .func (.func 50) #[] #[], .func (.func 51) #[] #[]] 101))) := Lib.hid (below1 w3 _)
  have Qf : Hid (Blk (w3.alloc (.cells #[.func (.func 49) #[] #[], .func (.func 50) #[] #[], .func (.func 51) #[] #[]] 101)) w3.heap.size #[.func (.func 49) #[] #[], .func (.func 50) #[] #[], .func (.func 51) #[] #[]] 101) := Lib.hid (Blk.new w3 _ _)
  go_wp2_with fail
  refine (byD_any _ _).mono ?_
  rintro e w4 ⟨rfl, rfl⟩
  generalize (w3.alloc (.cells #[.func (.func 49) #[] #[], .func (.func 50) #[] #[], .func (.func 51) #[] #[]] 101)) = w4 at Bf Qf ⊢
  have HO4 := Lib.hid (La.own_below (La.own_below HO3.out Bf.out) (below1 w4 (.cells #[.slice (some ⟨w3.heap.size, 0, none⟩) 3 3] 148)))
  have B5 := Lib.hid (Bf.out.trans ((below1 w4 (.cells #[.slice (some ⟨w3.heap.size, 0, none⟩) 3 3] 148)).mono Bf.out.size))
  have Q5 := Lib.hid (Blk.alloc Qf.out (.cells #[.slice (some ⟨w3.heap.size, 0, none⟩) 3 3] 148))
  have P5 := Lib.hid (Blk.new w4 #[.slice (some ⟨w3.heap.size, 0, none⟩) 3 3] 148)
  generalize (w4.alloc (.cells #[.slice (some ⟨w3.heap.size, 0, none⟩) 3 3] 148)) = w5 at HO4 B5 Q5 P5 ⊢
  have KS := Lib.hid (sortW_any W2.heap.size w4.heap.size w3.heap.size cR R L w5 HLN.out (Nat.le_trans HW3.out B5.out.size) HO4.out (fun b hR => by
    subst hR
    have h1 := (own_lt HO3.out (g := b) rfl).2
    have h2 := Bf.out.size
    exact ⟨by omega, by omega⟩) (Blk.cell P5.out 0) (Blk.cell Q5.out 0) (Blk.cell Q5.out 1) (Blk.cell Q5.out 2) P5.out.lt Q5.out.lt)
  go_wp2_with fail
  refine (KS.out).mono ?_
  rintro e w6 ⟨rfl, ho6, hb6⟩
  have D6 := Lib.hid (D.out.trans ((B5.out.mono D.out.size).trans (hb6.mono HSZ.out)))
  have O6 := Lib.hid (own_base ho6 HSZ.out)
  clear ho6 hb6 KS
  go_wp2
  go_ret
  exact ⟨.slice R L.length cR, rfl, by rw [sortW_len]; exact O6.out, D6.out⟩
end Go.Proofs.YticgcimcebdjlaaGreat

namespace Go.Proofs.YticgcimcebdjlaaGreat
open Go.RowKit

theorem part_wr0 (a b c : Int) (w : World) : (Go.part 3 #[.int .i64 a, .int .i64 b, .int .i64 c] 0).run Tryz.prog w = .ok (.int .i64 a) w := by kernel_rfl
theorem part_wr1 (a b c : Int) (w : World) : (Go.part 3 #[.int .i64 a, .int .i64 b, .int .i64 c] 1).run Tryz.prog w = .ok (.int .i64 b) w := by kernel_rfl
theorem part_wr2 (a b c : Int) (w : World) : (Go.part 3 #[.int .i64 a, .int .i64 b, .int .i64 c] 2).run Tryz.prog w = .ok (.int .i64 c) w := by kernel_rfl
theorem eq_wr_in (n : Nat) (a b c : Int) (w : World) : (Op.equalIn (n + 2) 98 (.agg #[.int .i64 a, .int .i64 b, .int .i64 c]) (.agg #[.int .i64 a, .int .i64 b, .int .i64 c])).run Tryz.prog w = .ok true w := by
  rw [Op.equalIn]
  simp only [Sem.run_bind, run_underlying Tryz.underlying98, Result.andThen_ok]
  simp [Sem.run_bind, part_wr0, part_wr1, part_wr2, Qu.eq_int]
theorem eq_wr (a b c : Int) (w : World) : (Op.equalIn 10000 98 (.agg #[.int .i64 a, .int .i64 b, .int .i64 c]) (.agg #[.int .i64 a, .int .i64 b, .int .i64 c])).run Tryz.prog w = .ok true w := eq_wr_in 9998 a b c w
theorem wr_guard : Tryz.prog.eqGuardType Tryz.prog.depth 98 = false := by kernel_rfl
theorem ints_newD (W : World) (l : List Int) (hl : l.length ≤ 1000) : IntsAt (W.alloc (.cells (intsC l).toArray 3)) (some ⟨W.heap.size, 0, none⟩) l.length l := by
  refine ⟨fun j y hj => ⟨W.heap.size, 0, rfl, ?_⟩, Nat.le_refl _, by omega⟩
  rw [Nat.zero_add, Blk.cell (Blk.new W _ _) j, ← hj, ← List.getElem?_toArray]
theorem nilD (w : World) : NamesAt w none 0 [] := ⟨fun j y hj => (by simp [strC] at hj), Nat.le_refl _, by omega, fun x hx => (by cases hx)⟩
theorem nameD1 (W : World) (c : UInt8) : NamesAt (W.alloc (.cells #[strV [c]] 9)) (some ⟨W.heap.size, 0, none⟩) 1 [[c]] := by
  refine ⟨fun j y hj => ⟨W.heap.size, 0, rfl, ?_⟩, Nat.le_refl _, by omega, fun x hx => by simp at hx; subst hx; simp⟩
  rw [Nat.zero_add, Blk.cell (Blk.new W _ _) j, ← hj, ← List.getElem?_toArray]
  rfl
set_option maxRecDepth 100000 in
set_option maxHeartbeats 4000000 in
theorem told1_yes (G X : Option Addr) (cg cx : Nat) (x0 x1 x2 : Int) (w : World) (hG : La.SlAt w G (cellsW3 [(x0, x1, x2)])) (hX : IntsAt w X cx [x0, x1, x2]) :
    Calls Tryz.prog 38 #[.slice G 1 cg, .slice X 3 cx] w fun e w' => e = .returned (.bool true) ∧ Below w.heap.size w w' := by
  have hgd := wr_guard
  have heqx := fun w => eq_wr x0 x1 x2 w
  obtain ⟨b, o, hA, _, c0⟩ := atI hX.cells (k := 0) (x := x0) rfl
  subst hA
  obtain ⟨g, r, hB, d0⟩ := hG 0 (.int .i64 x0) rfl
  subst hB
  obtain ⟨b', o', hA, _, c1⟩ := atI hX.cells (k := 1) (x := x1) rfl
  cases hA
  obtain ⟨g', r', hB, d1⟩ := hG 1 (.int .i64 x1) rfl
  cases hB
  obtain ⟨b', o', hA, _, c2⟩ := atI hX.cells (k := 2) (x := x2) rfl
  cases hA
  obtain ⟨g', r', hB, d2⟩ := hG 2 (.int .i64 x2) rfl
  cases hB
  simp only [Nat.add_zero] at c0 d0
  have hbl := World.block_lt_of_cell? w _ c0
  have hgl := World.block_lt_of_cell? w _ d0
  dsimp only at hbl hgl
  have C0 := Lib.hid (fun W' (hb : Below w.heap.size w W') => (hb.cell (p := ⟨b, o, none⟩) hbl).trans c0)
  have D0 := Lib.hid (fun W' (hb : Below w.heap.size w W') => (hb.cell (p := ⟨g, r, none⟩) hgl).trans d0)
  have C1 := Lib.hid (fun W' (hb : Below w.heap.size w W') => (hb.cell (p := ⟨b, o + 1, none⟩) hbl).trans c1)
  have D1 := Lib.hid (fun W' (hb : Below w.heap.size w W') => (hb.cell (p := ⟨g, r + 1, none⟩) hgl).trans d1)
  have C2 := Lib.hid (fun W' (hb : Below w.heap.size w W') => (hb.cell (p := ⟨b, o + 2, none⟩) hbl).trans c2)
  have D2 := Lib.hid (fun W' (hb : Below w.heap.size w W') => (hb.cell (p := ⟨g, r + 2, none⟩) hgl).trans d2)
  clear hG hX c0 d0 c1 d1 c2 d2
  go_enter Tryz.func38, Tryz.ntmps38
  go_wp2_with fail
  go_loopw [5] (fun i wr => ∃ k : Nat, k ≤ 1 ∧ i = .int .i64 k ∧ Below w.heap.size w wr) (fun i _ => 1 - (RowKit.intOf i).toNat)
  case atStart => exact ⟨0, by omega, rfl, Below.refl _ _⟩
  case round =>
    obtain ⟨k, hk, rfl, hb⟩ := hrel
    have HB := Lib.hid hb
    clear hb
    rcases k with _ | _ | k
    · have HD := Lib.hid HB.out.drew
      have c0 := C0.out _ HB.out
      have d0 := D0.out _ HB.out
      have c1 := C1.out _ HB.out
      have d1 := D1.out _ HB.out
      have c2 := C2.out _ HB.out
      have d2 := D2.out _ HB.out
      go_upto_region 6 with fail
      go_quiet (fail)
      have HQ := Lib.hid (belowN HB.out nq)
      go_wp2_with fail
      go_roundw
      case rel => exact ⟨1, by omega, by go_num, HQ.out⟩
      case measure => simp [RowKit.intOf] <;> omega
    · go_wp2
      go_ret
      exact ⟨rfl, HB.out⟩
    · omega
set_option maxRecDepth 100000 in
set_option maxHeartbeats 4000000 in
theorem told2_yes (G X : Option Addr) (cg cx : Nat) (x0 x1 x2 y0 y1 y2 : Int) (w : World) (hG : La.SlAt w G (cellsW3 [(x0, x1, x2), (y0, y1, y2)])) (hX : IntsAt w X cx [x0, x1, x2, y0, y1, y2]) :
    Calls Tryz.prog 38 #[.slice G 2 cg, .slice X 6 cx] w fun e w' => e = .returned (.bool true) ∧ Below w.heap.size w w' := by
  have hgd := wr_guard
  have heqx := fun w => eq_wr x0 x1 x2 w
  have heqy := fun w => eq_wr y0 y1 y2 w
  obtain ⟨b, o, hA, _, c0⟩ := atI hX.cells (k := 0) (x := x0) rfl
  subst hA
  obtain ⟨g, r, hB, d0⟩ := hG 0 (.int .i64 x0) rfl
  subst hB
  obtain ⟨b', o', hA, _, c1⟩ := atI hX.cells (k := 1) (x := x1) rfl
  cases hA
  obtain ⟨g', r', hB, d1⟩ := hG 1 (.int .i64 x1) rfl
  cases hB
  obtain ⟨b', o', hA, _, c2⟩ := atI hX.cells (k := 2) (x := x2) rfl
  cases hA
  obtain ⟨g', r', hB, d2⟩ := hG 2 (.int .i64 x2) rfl
  cases hB
  obtain ⟨b', o', hA, _, c3⟩ := atI hX.cells (k := 3) (x := y0) rfl
  cases hA
  obtain ⟨g', r', hB, d3⟩ := hG 3 (.int .i64 y0) rfl
  cases hB
  obtain ⟨b', o', hA, _, c4⟩ := atI hX.cells (k := 4) (x := y1) rfl
  cases hA
  obtain ⟨g', r', hB, d4⟩ := hG 4 (.int .i64 y1) rfl
  cases hB
  obtain ⟨b', o', hA, _, c5⟩ := atI hX.cells (k := 5) (x := y2) rfl
  cases hA
  obtain ⟨g', r', hB, d5⟩ := hG 5 (.int .i64 y2) rfl
  cases hB
  simp only [Nat.add_zero] at c0 d0
  have hbl := World.block_lt_of_cell? w _ c0
  have hgl := World.block_lt_of_cell? w _ d0
  dsimp only at hbl hgl
  have C0 := Lib.hid (fun W' (hb : Below w.heap.size w W') => (hb.cell (p := ⟨b, o, none⟩) hbl).trans c0)
  have D0 := Lib.hid (fun W' (hb : Below w.heap.size w W') => (hb.cell (p := ⟨g, r, none⟩) hgl).trans d0)
  have C1 := Lib.hid (fun W' (hb : Below w.heap.size w W') => (hb.cell (p := ⟨b, o + 1, none⟩) hbl).trans c1)
  have D1 := Lib.hid (fun W' (hb : Below w.heap.size w W') => (hb.cell (p := ⟨g, r + 1, none⟩) hgl).trans d1)
  have C2 := Lib.hid (fun W' (hb : Below w.heap.size w W') => (hb.cell (p := ⟨b, o + 2, none⟩) hbl).trans c2)
  have D2 := Lib.hid (fun W' (hb : Below w.heap.size w W') => (hb.cell (p := ⟨g, r + 2, none⟩) hgl).trans d2)
  have C3 := Lib.hid (fun W' (hb : Below w.heap.size w W') => (hb.cell (p := ⟨b, o + 3, none⟩) hbl).trans c3)
  have D3 := Lib.hid (fun W' (hb : Below w.heap.size w W') => (hb.cell (p := ⟨g, r + 3, none⟩) hgl).trans d3)
  have C4 := Lib.hid (fun W' (hb : Below w.heap.size w W') => (hb.cell (p := ⟨b, o + 4, none⟩) hbl).trans c4)
  have D4 := Lib.hid (fun W' (hb : Below w.heap.size w W') => (hb.cell (p := ⟨g, r + 4, none⟩) hgl).trans d4)
  have C5 := Lib.hid (fun W' (hb : Below w.heap.size w W') => (hb.cell (p := ⟨b, o + 5, none⟩) hbl).trans c5)
  have D5 := Lib.hid (fun W' (hb : Below w.heap.size w W') => (hb.cell (p := ⟨g, r + 5, none⟩) hgl).trans d5)
  clear hG hX c0 d0 c1 d1 c2 d2 c3 d3 c4 d4 c5 d5
  go_enter Tryz.func38, Tryz.ntmps38
  go_wp2_with fail
  go_loopw [5] (fun i wr => ∃ k : Nat, k ≤ 2 ∧ i = .int .i64 k ∧ Below w.heap.size w wr) (fun i _ => 2 - (RowKit.intOf i).toNat)
  case atStart => exact ⟨0, by omega, rfl, Below.refl _ _⟩
  case round =>
    obtain ⟨k, hk, rfl, hb⟩ := hrel
    have HB := Lib.hid hb
    clear hb
    rcases k with _ | _ | _ | k
    · have HD := Lib.hid HB.out.drew
      have c0 := C0.out _ HB.out
      have d0 := D0.out _ HB.out
      have c1 := C1.out _ HB.out
      have d1 := D1.out _ HB.out
      have c2 := C2.out _ HB.out
      have d2 := D2.out _ HB.out
      go_upto_region 6 with fail
      go_quiet (fail)
      have HQ := Lib.hid (belowN HB.out nq)
      go_wp2_with fail
      go_roundw
      case rel => exact ⟨1, by omega, by go_num, HQ.out⟩
      case measure => simp [RowKit.intOf] <;> omega
    · have HD := Lib.hid HB.out.drew
      have c3 := C3.out _ HB.out
      have d3 := D3.out _ HB.out
      have c4 := C4.out _ HB.out
      have d4 := D4.out _ HB.out
      have c5 := C5.out _ HB.out
      have d5 := D5.out _ HB.out
      go_upto_region 6 with fail
      go_quiet (fail)
      have HQ := Lib.hid (belowN HB.out nq)
      go_wp2_with fail
      go_roundw
      case rel => exact ⟨2, by omega, by go_num, HQ.out⟩
      case measure => simp [RowKit.intOf] <;> omega
    · go_wp2
      go_ret
      exact ⟨rfl, HB.out⟩
    · omega
/-- The cluster and its box lie in memory. -/
structure DeW (w W : World) (N Sb : Nat) : Prop where
  s : SnapIn W (some ⟨N + 1, 0, none⟩) (some ⟨N + 3, 0, none⟩) none 2 2 0 (deN N) (deP N) []
  b : Blk W Sb #[.slice (some ⟨N + 1, 0, none⟩) 2 2, .slice (some ⟨N + 3, 0, none⟩) 2 2, .slice none 0 0] 26
  w : Below w.heap.size w W
theorem DeW.below {w W W' : World} {N Sb : Nat} (h : DeW w W N Sb) (hb : Below W.heap.size W W') : DeW w W' N Sb := ⟨h.s.low hb, h.b.below hb h.b.lt, h.w.trans (hb.mono h.w.size)⟩
theorem DeW.c0 {w W : World} {N Sb : Nat} (h : DeW w W N Sb) : W.cell? ⟨Sb, 0, none⟩ = some (.slice (some ⟨N + 1, 0, none⟩) 2 2) ∧ W.cell? ⟨Sb, 1, none⟩ = some (.slice (some ⟨N + 3, 0, none⟩) 2 2) ∧ W.cell? ⟨Sb, 2, none⟩ = some (.slice none 0 0) := ⟨Blk.cell h.b 0, Blk.cell h.b 1, Blk.cell h.b 2⟩
set_option maxRecDepth 100000 in
set_option maxHeartbeats 8000000 in
theorem works13_any (w : World) :
    Calls Tryz.prog 9 #[] w fun e w' => e = .returned (.bool true) ∧ Below w.heap.size w w' := by
  have KE := Lib.hid (example13_any w)
  obtain ⟨N, hN⟩ : ∃ N, w.heap.size + 1 = N := ⟨_, rfl⟩
  rw [hN] at KE
  have HN := Lib.hid hN
  clear hN
  go_enter Tryz.func9, Tryz.ntmps9
  go_wp2_with fail
  refine (KE.out).mono ?_
  rintro e w1 ⟨rfl, hs, hb⟩
  have H0 : Hid (DeW w (w1.alloc (.cells #[.slice (some ⟨N + 1, 0, none⟩) 2 2, .slice (some ⟨N + 3, 0, none⟩) 2 2, .slice none 0 0] 26)) N w1.heap.size) := Lib.hid ⟨hs.low (below1 _ _), Blk.new w1 _ _, hb.trans ((below1 w1 _).mono hb.size)⟩
  clear hs hb KE
  go_upto_region 2 with fail
  try change Code.wp _ _ _ _ (w1.alloc (.cells #[.slice (some ⟨N + 1, 0, none⟩) 2 2, .slice (some ⟨N + 3, 0, none⟩) 2 2, .slice none 0 0] 26))
  generalize (w1.alloc (.cells #[.slice (some ⟨N + 1, 0, none⟩) 2 2, .slice (some ⟨N + 3, 0, none⟩) 2 2, .slice none 0 0] 26)) = V0 at H0 ⊢
  generalize w1.heap.size = Sb at H0 ⊢
  have I0 := Lib.hid (ints_newD V0 [1, 1] (by simp))
  have Ha := Lib.hid (H0.out.below (below1 V0 (.cells (intsC [1, 1]).toArray 3)))
  obtain ⟨b0, b1, b2⟩ := H0.out.c0
  have K := Lib.hid (Pods_any _ _ _ (some ⟨V0.heap.size, 0, none⟩) none 2 2 0 2 0 (deN N) (deP N) [] [1, 1] deG0 noCr _ Ha.out.s I0.out (nilD _) (fun h => absurd h (by decide)))
  rw [de1, sortW_one] at K
  go_wp2_with fail
  refine (K.out).mono ?_
  rintro e V1 ⟨x, rfl, ho, hb⟩
  obtain ⟨R1, cR1, rfl, _⟩ := La.own_slice ho
  have T1 := Lib.hid (La.own_slat ho)
  have H1 := Lib.hid (Ha.out.below hb)
  clear ho hb K Ha H0 I0 b0 b1 b2
  have I1 := Lib.hid (ints_newD V1 [2, 1, 1] (by simp))
  have Ha := Lib.hid (H1.out.below (below1 V1 (.cells (intsC [2, 1, 1]).toArray 3)))
  have K := Lib.hid (told1_yes R1 _ cR1 3 2 1 1 _ (La.SlAt.below T1.out (below1 V1 (.cells (intsC [2, 1, 1]).toArray 3))) I1.out)
  go_wp2_with fail
  refine (K.out).mono ?_
  rintro e V2 ⟨rfl, hb⟩
  have H2 := Lib.hid (Ha.out.below hb)
  clear hb K Ha H1 I1 T1
  have I2 := Lib.hid (ints_newD V2 [1, 1] (by simp))
  have Ha := Lib.hid (H2.out.below (below1 V2 (.cells (intsC [1, 1]).toArray 3)))
  obtain ⟨b0, b1, b2⟩ := H2.out.c0
  have K := Lib.hid (Pods_any _ _ _ (some ⟨V2.heap.size, 0, none⟩) none 2 2 0 2 0 (deN N) (deP N) [] [1, 1] deG4 noCr _ Ha.out.s I2.out (nilD _) (fun h => absurd h (by decide)))
  rw [de2, sortW_id (by decide)] at K
  go_wp2_with fail
  refine (K.out).mono ?_
  rintro e V3 ⟨x, rfl, ho, hb⟩
  obtain ⟨R3, cR3, rfl, _⟩ := La.own_slice ho
  have T3 := Lib.hid (La.own_slat ho)
  have H3 := Lib.hid (Ha.out.below hb)
  clear ho hb K Ha H2 I2 b0 b1 b2
  have I3 := Lib.hid (ints_newD V3 [2, 0, 1, 2, 1, 1] (by simp))
  have Ha := Lib.hid (H3.out.below (below1 V3 (.cells (intsC [2, 0, 1, 2, 1, 1]).toArray 3)))
  have K := Lib.hid (told2_yes R3 _ cR3 6 2 0 1 2 1 1 _ (La.SlAt.below T3.out (below1 V3 (.cells (intsC [2, 0, 1, 2, 1, 1]).toArray 3))) I3.out)
  go_wp2_with fail
  refine (K.out).mono ?_
  rintro e V4 ⟨rfl, hb⟩
  have H4 := Lib.hid (Ha.out.below hb)
  clear hb K Ha H3 I3 T3
  have I4 := Lib.hid ((ints_newD V4 [1, 0] (by simp)).below (below1 _ (.cells #[strV [98]] 9)))
  have J4 := Lib.hid (nameD1 (V4.alloc (.cells (intsC [1, 0]).toArray 3)) 98)
  rw [World.size_alloc] at J4
  have Ha := Lib.hid (H4.out.below (Qu.below2 V4 (.cells (intsC [1, 0]).toArray 3) (.cells #[strV [98]] 9)))
  obtain ⟨b0, b1, b2⟩ := H4.out.c0
  have K := Lib.hid (Pods_any _ _ _ (some ⟨V4.heap.size, 0, none⟩) (some ⟨V4.heap.size + 1, 0, none⟩) 2 2 0 2 1 (deN N) (deP N) [] [1, 0] deGb noCr _ Ha.out.s I4.out J4.out (fun h => absurd h (by decide)))
  rw [de3, sortW_id (by decide)] at K
  go_wp2_with fail
  refine (K.out).mono ?_
  rintro e V5 ⟨x, rfl, ho, hb⟩
  obtain ⟨R5, cR5, rfl, _⟩ := La.own_slice ho
  have T5 := Lib.hid (La.own_slat ho)
  have H5 := Lib.hid (Ha.out.below hb)
  clear ho hb K Ha H4 I4 b0 b1 b2 J4
  have I5 := Lib.hid (ints_newD V5 [1, 0, 1, 2, 1, 0] (by simp))
  have Ha := Lib.hid (H5.out.below (below1 V5 (.cells (intsC [1, 0, 1, 2, 1, 0]).toArray 3)))
  have K := Lib.hid (told2_yes R5 _ cR5 6 1 0 1 2 1 0 _ (La.SlAt.below T5.out (below1 V5 (.cells (intsC [1, 0, 1, 2, 1, 0]).toArray 3))) I5.out)
  go_wp2_with fail
  refine (K.out).mono ?_
  rintro e V6 ⟨rfl, hb⟩
  have H6 := Lib.hid (Ha.out.below hb)
  clear hb K Ha H5 I5 T5
  have I6 := Lib.hid ((ints_newD V6 [0, -1] (by simp)).below (below1 _ (.cells #[strV [97]] 9)))
  have J6 := Lib.hid (nameD1 (V6.alloc (.cells (intsC [0, -1]).toArray 3)) 97)
  rw [World.size_alloc] at J6
  have Ha := Lib.hid (H6.out.below (Qu.below2 V6 (.cells (intsC [0, -1]).toArray 3) (.cells #[strV [97]] 9)))
  obtain ⟨b0, b1, b2⟩ := H6.out.c0
  have K := Lib.hid (Why_any _ _ _ (some ⟨V6.heap.size, 0, none⟩) (some ⟨V6.heap.size + 1, 0, none⟩) 2 2 0 2 1 (deN N) (deP N) [] [0, -1] deGa noCr 1 _ Ha.out.s I6.out J6.out (fun h => absurd h (by decide)))
  rw [de4] at K
  go_wp2_with fail
  refine (K.out).mono ?_
  rintro e V7 ⟨rfl, hb⟩
  have H7 := Lib.hid (Ha.out.below hb)
  clear hb K Ha H6 I6 b0 b1 b2 J6
  go_wp2
  go_ret
  exact ⟨rfl, H7.out.w⟩
end Go.Proofs.YticgcimcebdjlaaGreat
