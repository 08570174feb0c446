/- Each pod that is to go is told once, where it is, in order; what is on more in a policy lets none stay: the law's walk. Condition: the arguments lie in memory. An argument that is a policy, opened: what stands in memory. No conditions of its own. -/
import Derived.Test.YticgcimcebdjlaaGreatC03
import Derived.Handy

namespace Go.Proofs.YticgcimcebdjlaaGreat
open Go.RowKit Go.Maps

/-- A cell of another block is written: numbers in a row read as before. -/
theorem IntsAt.farD {w : World} {X : Option Addr} {cx : Nat} {p : List Int} {a : Addr} {v : Value} (h : IntsAt w X cx p) (hX : ∀ b o, X = some ⟨b, o, none⟩ → a.block ≠ b) : IntsAt (w.setCell a v) X cx p :=
  ⟨fun j y hj => by
    obtain ⟨b, o, hA, hc⟩ := h.cells j y hj
    exact ⟨b, o, hA, by rw [World.cell?_setCell_far _ _ _ _ (by exact hX b o hA)]; exact hc⟩, h.le, h.most⟩
set_option maxRecDepth 100000 in
set_option maxHeartbeats 16000000 in
theorem detectOnce_law (A B C G : Option Addr) (ca cb cc cg : Nat) (ns : List NodeD) (ps : List PodD) (os : List OwnD) (g : Pol) (a0 : Int) (w : World) (h : SnapIn w A B C ca cb cc ns ps os) (hm : ps.length * 8 ≤ 140737488355328) (hg : NamesAt w G cg g.drain) (hz : G = none → g.drain = [] ∧ cg = 0) :
    Calls Tryz.prog 3 #[snapV A B C ca cb cc ns ps os, valG g G cg, .int .i64 a0] w fun e w' => e = .returned (.bool true) ∧ Below w.heap.size w w' := by
  obtain ⟨m, hmm⟩ : ∃ m, min g.drain.length 12 = m := ⟨_, rfl⟩
  have hml : m ≤ g.drain.length := by omega
  have hcl := hg.le
  have hcm := hg.most
  have hmi : min (g.drain.length : Int) 12 = (m : Int) := by omega
  obtain ⟨gd, hgd⟩ : ∃ G : Pol, { g with drain := g.drain.take m } = G := ⟨_, rfl⟩
  have hdl : gd.drain.length = m := by rw [← hgd, List.length_take]; omega
  have HV : Hid (#[.int .i64 g.l0, .int .i64 g.l1, .int .i64 g.h0, .int .i64 g.h1, .int .i64 g.on, .slice G m cg, .int .i64 g.mx, .int .i64 g.tr, .bool g.rb] = cellsG gd G cg) := Lib.hid (by
    have e : cellsG gd G cg = #[.int .i64 gd.l0, .int .i64 gd.l1, .int .i64 gd.h0, .int .i64 gd.h1, .int .i64 gd.on, .slice G gd.drain.length cg, .int .i64 gd.mx, .int .i64 gd.tr, .bool gd.rb] := rfl
    rw [e, hdl, ← hgd])
  have HN : Hid (NamesAt w G cg gd.drain) := Lib.hid (by rw [← hgd]; exact hg.takeD m)
  have hAn : G = none → g.drain.length = 0 ∧ cg = 0 ∧ m = 0 := fun e => by
    have := hz e
    have h2 : g.drain.length = 0 := by rw [this.1]; rfl
    exact ⟨h2, this.2, by omega⟩
  have B0 : Hid (Below w.heap.size w ((w.alloc (.cells (snapC A B C ca cb cc ns ps os) 26)).alloc (.cells (cellsG g G cg) 30))) := Lib.hid (Qu.below2 w _ _)
  have S0 : Hid (Blk ((w.alloc (.cells (snapC A B C ca cb cc ns ps os) 26)).alloc (.cells (cellsG g G cg) 30)) w.heap.size (snapC A B C ca cb cc ns ps os) 26) := Lib.hid (Blk.alloc (Blk.new w _ _) _)
  have G0 : Hid (Blk ((w.alloc (.cells (snapC A B C ca cb cc ns ps os) 26)).alloc (.cells (cellsG g G cg) 30)) (w.heap.size + 1) (cellsG g G cg) 30) := Lib.hid (blk2 w _ _ _)
  have KW := Lib.hid works13_any
  have H := Lib.hid h
  have KL := Lib.hid (fun W' (hb : Below w.heap.size w W') => placement_in A B C ca cb cc ns ps os W' (h.low hb) hm)
  clear h hm hgd hg hz hmm
  go_enter Tryz.func3, Tryz.ntmps3
  go_upto_region 1 with fail
  try change Code.wp _ _ _ _ ((w.alloc (.cells (snapC A B C ca cb cc ns ps os) 26)).alloc (.cells (cellsG g G cg) 30))
  generalize ((w.alloc (.cells (snapC A B C ca cb cc ns ps os) 26)).alloc (.cells (cellsG g G cg) 30)) = W0 at B0 S0 G0 ⊢
  obtain ⟨Gb, hGb⟩ : ∃ b, w.heap.size + 1 = b := ⟨_, rfl⟩
  have HGS : Hid (w.heap.size < Gb) := Lib.hid (by omega)
  rw [hGb] at G0 ⊢
  clear hGb
  go_wp2_with fail
  refine (KW.out _).mono ?_
  rintro e W1 ⟨rfl, hb⟩
  have S1 := Lib.hid (S0.out.below hb S0.out.lt)
  have G1 := Lib.hid (G0.out.below hb G0.out.lt)
  have B1 := Lib.hid (B0.out.trans (hb.mono B0.out.size))
  clear hb S0 G0 B0
  have KL1 := Lib.hid (KL.out _ B1.out)
  have z0 : W1.cell? ⟨w.heap.size, 0, none⟩ = some (.slice A ns.length ca) := Blk.cell S1.out 0
  have z1 : W1.cell? ⟨w.heap.size, 1, none⟩ = some (.slice B ps.length cb) := Blk.cell S1.out 1
  have z2 : W1.cell? ⟨w.heap.size, 2, none⟩ = some (.slice C os.length cc) := Blk.cell S1.out 2
  go_upto_region 3 with fail
  go_wp2_with fail
  refine (KL1.out).mono ?_
  rintro e W2 ⟨X, cx, rfl, ho, hb⟩
  have S2 := Lib.hid (S1.out.below hb S1.out.lt)
  have G2 := Lib.hid (G1.out.below hb G1.out.lt)
  have B2 := Lib.hid (B1.out.trans (hb.mono B1.out.size))
  have IX := Lib.hid (IntsAt.own ho)
  have HXG : Hid (∀ b o, X = some ⟨b, o, none⟩ → Gb ≠ b) := Lib.hid (fun b o hx => by
    subst hx
    rcases ho.2 with ⟨h1, _⟩ | ⟨g', cap, cur, h1, h2, _⟩
    · cases h1
    · cases h1
      have := G1.out.lt
      omega)
  clear ho hb KL1 KL z0 z1 z2 S1 G1 B1
  obtain ⟨p, hp⟩ : ∃ p, placesP ns ps = p := ⟨_, rfl⟩
  rw [hp] at IX ⊢
  clear hp
  -- the policy's names are cut
  have a5 : W2.cell? ⟨Gb, 5, none⟩ = some (.slice G g.drain.length cg) := Blk.cell G2.out 5
  have f5 : W2.frozen? ⟨Gb, 5, none⟩ = false := Blk.free G2.out 5
  have m0 : (0 : Int) ≤ (m : Int) := by omega
  have m1 : (m : Int) ≤ (g.drain.length : Int) := by omega
  have m2 : (m : Int) ≤ (cg : Int) := by omega
  have B3 : Hid (Below w.heap.size w (W2.setCell ⟨Gb, 5, none⟩ (.slice G m cg))) := Lib.hid (B2.out.setCell (p := ⟨Gb, 5, none⟩) (Nat.le_of_lt HGS.out) _)
  have G3 : Hid (Blk (W2.setCell ⟨Gb, 5, none⟩ (.slice G m cg)) Gb (cellsG gd G cg) 30) := Lib.hid (by rw [← HV.out]; exact Blk.set G2.out 5 (.slice G m cg))
  have S3 : Hid (Blk (W2.setCell ⟨Gb, 5, none⟩ (.slice G m cg)) w.heap.size (snapC A B C ca cb cc ns ps os) 26) := Lib.hid (S2.out.below ((Below.refl Gb W2).setCell (p := ⟨Gb, 5, none⟩) (Nat.le_refl _) _) HGS.out)
  have I3 : Hid (IntsAt (W2.setCell ⟨Gb, 5, none⟩ (.slice G m cg)) X cx p) := Lib.hid (IX.out.farD HXG.out)
  go_upto_region 5 with fail
  generalize (W2.setCell ⟨Gb, 5, none⟩ (.slice G m cg)) = V at B3 G3 S3 I3 ⊢
  clear a5 f5 m0 m1 m2 B2 S2 G2 IX HXG HV hAn hmi hml hcl hcm hdl KW
  have HTV := Lib.hid (fun W' (hb : Below V.heap.size V W') => B3.out.trans (hb.mono B3.out.size))
  have HCV : Hid (∀ W', Below V.heap.size V W' → (W'.cell? ⟨w.heap.size, 0, none⟩ = some (.slice A ns.length ca) ∧ W'.cell? ⟨w.heap.size, 1, none⟩ = some (.slice B ps.length cb) ∧ W'.cell? ⟨w.heap.size, 2, none⟩ = some (.slice C os.length cc)) ∧ (W'.cell? ⟨Gb, 0, none⟩ = some (.int .i64 gd.l0) ∧ W'.cell? ⟨Gb, 1, none⟩ = some (.int .i64 gd.l1) ∧ W'.cell? ⟨Gb, 2, none⟩ = some (.int .i64 gd.h0) ∧ W'.cell? ⟨Gb, 3, none⟩ = some (.int .i64 gd.h1) ∧ W'.cell? ⟨Gb, 4, none⟩ = some (.int .i64 gd.on) ∧ W'.cell? ⟨Gb, 5, none⟩ = some (.slice G gd.drain.length cg) ∧ W'.cell? ⟨Gb, 6, none⟩ = some (.int .i64 gd.mx) ∧ W'.cell? ⟨Gb, 7, none⟩ = some (.int .i64 gd.tr) ∧ W'.cell? ⟨Gb, 8, none⟩ = some (.bool gd.rb))) := Lib.hid (fun W' hb => by
    have h1 := S3.out.below hb S3.out.lt
    have h2 := G3.out.below hb G3.out.lt
    exact ⟨⟨Blk.cell h1 0, Blk.cell h1 1, Blk.cell h1 2⟩, Blk.cell h2 0, Blk.cell h2 1, Blk.cell h2 2, Blk.cell h2 3, Blk.cell h2 4, Blk.cell h2 5, Blk.cell h2 6, Blk.cell h2 7, Blk.cell h2 8⟩)
  have HIV := Lib.hid (fun W' (hb : Below V.heap.size V W') => I3.out.below hb)
  have HGV : Hid (Gb < V.heap.size) := Lib.hid G3.out.lt
  clear B3 S3 G3 I3
  have KE := Lib.hid (fun W' (hb : Below w.heap.size w W') (hi : IntsAt W' X cx p) => pcheck_in A B C X ca cb cc cx ns ps os p W' (H.out.low hb) hi)
  have KG := Lib.hid (fun W' (hb : Below w.heap.size w W') => gcheck_any gd G cg W' (HN.out.below hb))
  have KP := Lib.hid (fun W' (hb : Below w.heap.size w W') (hi : IntsAt W' X cx p) => Pods_any A B C X G ca cb cc cx cg ns ps os p gd (crP ns ps os p) W' (H.out.low hb) hi (HN.out.below hb) (crowdOk A B C X G ca cb cc cx cg ns ps os p gd))
  have KF := Lib.hid (fun W' (hb : Below w.heap.size w W') (hi : IntsAt W' X cx p) => Fine_any A B C X G ca cb cc cx cg ns ps os p gd (crP ns ps os p) W' (H.out.low hb) hi (HN.out.below hb) (crowdOk A B C X G ca cb cc cx cg ns ps os p gd))
  have HBAD : Hid (¬ (checkG gd = 0 ∧ placeE ns ps os p = 0) → wrongF ns ps os p gd (crP ns ps os p) = []) := Lib.hid (fun hb => by unfold wrongF; rw [if_neg hb])
  have KE1 := Lib.hid (KE.out _ (HTV.out _ (Below.refl _ _)) (HIV.out _ (Below.refl _ _)))
  obtain ⟨⟨z0, z1, z2⟩, ⟨g0, g1, g2, g3, g4, g5, g6, g7, g8⟩⟩ := HCV.out _ (Below.refl _ _)
  obtain ⟨E, hE⟩ : ∃ E, placeE ns ps os p = E := ⟨_, rfl⟩
  rw [hE] at KE1
  have HE := Lib.hid hE
  go_wp2_with fail
  refine (KE1.out).mono ?_
  rintro e W3 ⟨rfl, hb⟩
  have HB3 := Lib.hid hb
  clear hb KE KE1 z0 z1 z2 g0 g1 g2 g3 g4 g5 g6 g7 g8
  by_cases h0 : E = 0
  case neg =>
    have hne : (E != 0) = true := by simpa using h0
    have hnd : decide (E = 0) = false := decide_eq_false h0
    have hbad : ¬ (checkG gd = 0 ∧ placeE ns ps os p = 0) := fun h => h0 (by rw [← hE]; exact h.2)
    clear hE h0
    go_upto_region 6 with fail
    obtain ⟨⟨z0, z1, z2⟩, ⟨g0, g1, g2, g3, g4, g5, g6, g7, g8⟩⟩ := HCV.out _ HB3.out
    have KP1 := Lib.hid (KP.out _ (HTV.out _ HB3.out) (HIV.out _ HB3.out))
    rw [HBAD.out hbad, sortW_nil] at KP1
    go_wp2_with fail
    refine (KP1.out).mono ?_
    rintro e W6 ⟨v, rfl, ho, hb⟩
    obtain ⟨XP, cP, rfl, _⟩ := La.own_slice ho
    have HB6 := Lib.hid (HB3.out.trans (hb.mono HB3.out.size))
    clear ho hb KP1 z0 z1 z2 g0 g1 g2 g3 g4 g5 g6 g7 g8
    obtain ⟨⟨z0, z1, z2⟩, ⟨g0, g1, g2, g3, g4, g5, g6, g7, g8⟩⟩ := HCV.out _ HB6.out
    have KF1 := Lib.hid (KF.out _ (HTV.out _ HB6.out) (HIV.out _ HB6.out))
    rw [decide_eq_false hbad, Bool.false_and] at KF1
    go_wp2_with fail
    refine (KF1.out).mono ?_
    rintro e W7 ⟨rfl, hb⟩
    have D := Lib.hid (HTV.out _ (HB6.out.trans (hb.mono HB6.out.size)))
    clear hb KF1 z0 z1 z2 g0 g1 g2 g3 g4 g5 g6 g7 g8
    go_wp2
    go_ret
    exact ⟨rfl, D.out⟩
  subst h0
  obtain ⟨⟨z0, z1, z2⟩, ⟨g0, g1, g2, g3, g4, g5, g6, g7, g8⟩⟩ := HCV.out _ HB3.out
  have KG1 := Lib.hid (KG.out _ (HTV.out _ HB3.out))
  obtain ⟨E2, hE2⟩ : ∃ E, checkG gd = E := ⟨_, rfl⟩
  rw [hE2] at KG1
  go_wp2_with fail
  refine (KG1.out).mono ?_
  rintro e W4 ⟨rfl, hb⟩
  have HB4 := Lib.hid (HB3.out.trans (hb.mono HB3.out.size))
  clear hb KG KG1 z0 z1 z2 g0 g1 g2 g3 g4 g5 g6 g7 g8 HB3
  by_cases h0 : E2 = 0
  case neg =>
    have hne : (E2 != 0) = true := by simpa using h0
    have hnd : decide (E2 = 0) = false := decide_eq_false h0
    have hbad : ¬ (checkG gd = 0 ∧ placeE ns ps os p = 0) := fun h => h0 (by rw [← hE2]; exact h.1)
    clear hE2 h0
    go_upto_region 6 with fail
    obtain ⟨⟨z0, z1, z2⟩, ⟨g0, g1, g2, g3, g4, g5, g6, g7, g8⟩⟩ := HCV.out _ HB4.out
    have KP1 := Lib.hid (KP.out _ (HTV.out _ HB4.out) (HIV.out _ HB4.out))
    rw [HBAD.out hbad, sortW_nil] at KP1
    go_wp2_with fail
    refine (KP1.out).mono ?_
    rintro e W6 ⟨v, rfl, ho, hb⟩
    obtain ⟨XP, cP, rfl, _⟩ := La.own_slice ho
    have HB6 := Lib.hid (HB4.out.trans (hb.mono HB4.out.size))
    clear ho hb KP1 z0 z1 z2 g0 g1 g2 g3 g4 g5 g6 g7 g8
    obtain ⟨⟨z0, z1, z2⟩, ⟨g0, g1, g2, g3, g4, g5, g6, g7, g8⟩⟩ := HCV.out _ HB6.out
    have KF1 := Lib.hid (KF.out _ (HTV.out _ HB6.out) (HIV.out _ HB6.out))
    rw [decide_eq_false hbad, Bool.false_and] at KF1
    go_wp2_with fail
    refine (KF1.out).mono ?_
    rintro e W7 ⟨rfl, hb⟩
    have D := Lib.hid (HTV.out _ (HB6.out.trans (hb.mono HB6.out.size)))
    clear hb KF1 z0 z1 z2 g0 g1 g2 g3 g4 g5 g6 g7 g8
    go_wp2
    go_ret
    exact ⟨rfl, D.out⟩
  subst h0
  have HGM := Lib.hid hE2
  clear hE2 KP KF HBAD hE
  have em0 := Int.emod_nonneg a0 (show (32 : Int) ≠ 0 by omega)
  have em1 := Int.emod_lt_of_pos a0 (show (0 : Int) < 32 by omega)
  have BR := Lib.hid (fun W => Qu.bring_any a0 32 W (by omega) (by omega))
  obtain ⟨x0, hx0⟩ : ∃ x, a0 % 32 = x := ⟨_, rfl⟩
  rw [hx0] at BR em0 em1
  clear hx0
  have HGN := Lib.hid (more_may HGM.out em0 em1)
  have HWM := Lib.hid (fun (k : Int) => why_more (ns := ns) (ps := ps) (os := os) (p := p) (cr := crP ns ps os p) HGM.out em0 em1 k)
  have HMC : Hid (cellsG (moreG gd x0) G cg = #[.int .i64 gd.l0, .int .i64 gd.l1, .int .i64 gd.h0, .int .i64 gd.h1, .int .i64 (bits BinOp.or IntKind.i64 gd.on x0), .slice G gd.drain.length cg, .int .i64 gd.mx, .int .i64 gd.tr, .bool gd.rb]) := Lib.hid rfl
  have HND : Hid (NamesAt w G cg (moreG gd x0).drain) := Lib.hid HN.out
  obtain ⟨gh, hgh⟩ : ∃ h, moreG gd x0 = h := ⟨_, rfl⟩
  rw [hgh] at HGN HMC HND HWM
  clear hgh
  obtain ⟨⟨z0, z1, z2⟩, ⟨g0, g1, g2, g3, g4, g5, g6, g7, g8⟩⟩ := HCV.out _ HB4.out
  go_upto_region 8 with fail
  have Q5 : Hid (Blk (W4.alloc (.cells (cellsG gd G cg) 30)) W4.heap.size (cellsG gd G cg) 30) := Lib.hid (Blk.new W4 _ _)
  have B5 : Hid (Below W4.heap.size W4 (W4.alloc (.cells (cellsG gd G cg) 30))) := Lib.hid (below1 W4 _)
  have q0 : (W4.alloc (.cells (cellsG gd G cg) 30)).drew.cell? ⟨Gb, 4, none⟩ = some (.int .i64 gd.on) := ((HCV.out _ (HB4.out.trans (B5.out.mono HB4.out.size))).2).2.2.2.2.1
  try change Code.wp _ _ _ _ (W4.alloc (.cells (cellsG gd G cg) 30))
  generalize (W4.alloc (.cells (cellsG gd G cg) 30)) = W5 at Q5 B5 q0 ⊢
  obtain ⟨Hb, hHb⟩ : ∃ b, W4.heap.size = b := ⟨_, rfl⟩
  have HBL : Hid (W4.heap.size ≤ Hb) := Lib.hid (by omega)
  rw [hHb] at Q5 ⊢
  clear hHb z0 z1 z2 g0 g1 g2 g3 g4 g5 g6 g7 g8
  have HGH : Gb ≠ Hb := by
    have h1 := HGV.out
    have h2 := HB4.out.size
    have h3 := HBL.out
    omega
  have q4 : W5.drew.cell? ⟨Hb, 4, none⟩ = some (.int .i64 gd.on) := Blk.cell (Blk.drew Q5.out) 4
  have f4 : W5.drew.frozen? ⟨Hb, 4, none⟩ = false := Blk.free (Blk.drew Q5.out) 4
  have B6 : Hid (Below W4.heap.size W4 (W5.setCell ⟨Hb, 4, none⟩ (.int .i64 (bits BinOp.or IntKind.i64 gd.on x0))).drew) := Lib.hid ((B5.out.setCell (p := ⟨Hb, 4, none⟩) HBL.out _).drew)
  have Q6 : Hid (Blk ((W5.setCell ⟨Hb, 4, none⟩ (.int .i64 (bits BinOp.or IntKind.i64 gd.on x0))).drew) Hb (cellsG gh G cg) 30) := Lib.hid (by rw [HMC.out]; exact Blk.drew (Blk.set Q5.out 4 _))
  have q1 : ((W5.setCell ⟨Hb, 4, none⟩ (.int .i64 (bits BinOp.or IntKind.i64 gd.on x0))).drew).cell? ⟨Gb, 4, none⟩ = some (.int .i64 gd.on) := by
    show (W5.setCell ⟨Hb, 4, none⟩ (.int .i64 (bits BinOp.or IntKind.i64 gd.on x0))).cell? ⟨Gb, 4, none⟩ = _
    rw [World.cell?_setCell_far _ _ _ _ (show (⟨Hb, 4, none⟩ : Addr).block ≠ Gb from fun h => HGH h.symm)]
    exact q0
  go_region_held3 (fun w' => w'.cell? ⟨Gb, 4, none⟩ = some (.int .i64 gd.on))
    (first | (with_reducible exact q0) | (with_reducible exact q1))
    (first | (go_at_call 15; with_reducible refine (BR.out _).mono ?_; rintro e w3 ⟨rfl, rfl⟩))
  generalize ((W5.setCell ⟨Hb, 4, none⟩ (.int .i64 (bits BinOp.or IntKind.i64 gd.on x0))).drew) = W6 at B6 Q6 ⊢
  clear Q5 B5 q0 q1 q4 f4 HMC BR HGH HBL
  have HB6 := Lib.hid (HB4.out.trans (B6.out.mono HB4.out.size))
  clear HB4 B6
  have HT6 := Lib.hid (fun W' (hb : Below W6.heap.size W6 W') => HTV.out W' (HB6.out.trans (hb.mono HB6.out.size)))
  have HC6 : Hid (∀ W', Below W6.heap.size W6 W' → (W'.cell? ⟨w.heap.size, 0, none⟩ = some (.slice A ns.length ca) ∧ W'.cell? ⟨w.heap.size, 1, none⟩ = some (.slice B ps.length cb) ∧ W'.cell? ⟨w.heap.size, 2, none⟩ = some (.slice C os.length cc)) ∧ (W'.cell? ⟨Gb, 0, none⟩ = some (.int .i64 gd.l0) ∧ W'.cell? ⟨Gb, 1, none⟩ = some (.int .i64 gd.l1) ∧ W'.cell? ⟨Gb, 2, none⟩ = some (.int .i64 gd.h0) ∧ W'.cell? ⟨Gb, 3, none⟩ = some (.int .i64 gd.h1) ∧ W'.cell? ⟨Gb, 4, none⟩ = some (.int .i64 gd.on) ∧ W'.cell? ⟨Gb, 5, none⟩ = some (.slice G gd.drain.length cg) ∧ W'.cell? ⟨Gb, 6, none⟩ = some (.int .i64 gd.mx) ∧ W'.cell? ⟨Gb, 7, none⟩ = some (.int .i64 gd.tr) ∧ W'.cell? ⟨Gb, 8, none⟩ = some (.bool gd.rb)) ∧ (W'.cell? ⟨Hb, 0, none⟩ = some (.int .i64 gh.l0) ∧ W'.cell? ⟨Hb, 1, none⟩ = some (.int .i64 gh.l1) ∧ W'.cell? ⟨Hb, 2, none⟩ = some (.int .i64 gh.h0) ∧ W'.cell? ⟨Hb, 3, none⟩ = some (.int .i64 gh.h1) ∧ W'.cell? ⟨Hb, 4, none⟩ = some (.int .i64 gh.on) ∧ W'.cell? ⟨Hb, 5, none⟩ = some (.slice G gh.drain.length cg) ∧ W'.cell? ⟨Hb, 6, none⟩ = some (.int .i64 gh.mx) ∧ W'.cell? ⟨Hb, 7, none⟩ = some (.int .i64 gh.tr) ∧ W'.cell? ⟨Hb, 8, none⟩ = some (.bool gh.rb))) := Lib.hid (fun W' hb => by
    obtain ⟨h1, h2⟩ := HCV.out W' (HB6.out.trans (hb.mono HB6.out.size))
    have h3 := Q6.out.below hb Q6.out.lt
    exact ⟨h1, h2, Blk.cell h3 0, Blk.cell h3 1, Blk.cell h3 2, Blk.cell h3 3, Blk.cell h3 4, Blk.cell h3 5, Blk.cell h3 6, Blk.cell h3 7, Blk.cell h3 8⟩)
  have HI6 := Lib.hid (fun W' (hb : Below W6.heap.size W6 W') => HIV.out W' (HB6.out.trans (hb.mono HB6.out.size)))
  clear HTV HCV HIV HGV HB6 Q6
  have hpl : p.length ≤ 24 := by
    have h1 := placeE_len HE.out
    have h2 := (placeE_few HE.out).2.1
    omega
  have KYd := Lib.hid (fun (k : Nat) W' (hb : Below W6.heap.size W6 W') => Why_any A B C X G ca cb cc cx cg ns ps os p gd (crP ns ps os p) (k : Int) W' (H.out.low (HT6.out _ hb)) (HI6.out _ hb) (HN.out.below (HT6.out _ hb)) (crowdOk A B C X G ca cb cc cx cg ns ps os p gd))
  have KYh := Lib.hid (fun (k : Nat) W' (hb : Below W6.heap.size W6 W') => Why_any A B C X G ca cb cc cx cg ns ps os p gh (crP ns ps os p) (k : Int) W' (H.out.low (HT6.out _ hb)) (HI6.out _ hb) (HND.out.below (HT6.out _ hb)) (crowdOk A B C X G ca cb cc cx cg ns ps os p gh))
  have KAd := Lib.hid (fun W' (hb : Below W6.heap.size W6 W') => all_any A B C X G ca cb cc cx cg ns ps os p gd (crP ns ps os p) W' (H.out.low (HT6.out _ hb)) (HI6.out _ hb) (HN.out.below (HT6.out _ hb)) (crowdOk A B C X G ca cb cc cx cg ns ps os p gd) HE.out HGM.out)
  have KAh := Lib.hid (fun W' (hb : Below W6.heap.size W6 W') => all_any A B C X G ca cb cc cx cg ns ps os p gh (crP ns ps os p) W' (H.out.low (HT6.out _ hb)) (HI6.out _ hb) (HND.out.below (HT6.out _ hb)) (crowdOk A B C X G ca cb cc cx cg ns ps os p gh) HE.out HGN.out)
  clear H HN HND HI6 HE HGM HGN
  go_upto_region 9 with fail
  go_wp2_with fail
  go_loopw [9] (fun i wr => ∃ k : Nat, k ≤ p.length ∧ i = .int .i64 k ∧ Below W6.heap.size W6 wr) (fun i _ => p.length - (intOf i).toNat)
  case atStart => exact ⟨0, by omega, rfl, Below.refl _ _⟩
  case round =>
    obtain ⟨k, hk, rfl, hb⟩ := hrel
    have HB := Lib.hid hb
    clear hb
    by_cases hlt : k < p.length
    case neg =>
      obtain rfl : k = p.length := by omega
      have KA1 := Lib.hid (KAd.out _ HB.out)
      obtain ⟨⟨z0, z1, z2⟩, ⟨g0, g1, g2, g3, g4, g5, g6, g7, g8⟩, hh⟩ := HC6.out _ HB.out
      clear hh
      go_wp2_with fail
      refine (KA1.out).mono ?_
      rintro e W7 ⟨rfl, hb⟩
      have HB7 := Lib.hid (HB.out.trans (hb.mono HB.out.size))
      clear hb KA1 z0 z1 z2 g0 g1 g2 g3 g4 g5 g6 g7 g8
      have KA2 := Lib.hid (KAh.out _ HB7.out)
      obtain ⟨⟨z0, z1, z2⟩, hh, ⟨g0, g1, g2, g3, g4, g5, g6, g7, g8⟩⟩ := HC6.out _ HB7.out
      clear hh
      go_wp2_with fail
      refine (KA2.out).mono ?_
      rintro e W8 ⟨rfl, hb⟩
      have D := Lib.hid (HT6.out _ (HB7.out.trans (hb.mono HB7.out.size)))
      clear hb KA2 z0 z1 z2 g0 g1 g2 g3 g4 g5 g6 g7 g8
      go_wp2
      go_ret
      exact ⟨rfl, D.out⟩
    have k0 : (0 : Int) ≤ (k : Int) := by omega
    have k1 : (k : Int) < (p.length : Int) := by omega
    have HW1 := Lib.hid (HWM.out (k : Int))
    have K1 := Lib.hid (KYd.out k)
    have K2 := Lib.hid (KYh.out k)
    generalize whyF ns ps os p gd (crP ns ps os p) (k : Int) = a at HW1 K1
    generalize whyF ns ps os p gh (crP ns ps os p) (k : Int) = b at HW1 K2
    go_upto_region 12 with fail
    have D0 : Hid (Below W6.heap.size W6 wr.drew) := Lib.hid HB.out.drew
    have T0 := HC6.out _ D0.out
    have K1' := Lib.hid (K1.out _ D0.out)
    go_cut [10, 11] (fun u v wc => u = .int .i64 a ∧ v = .int .i64 b ∧ Below W6.heap.size W6 wc)
    case first =>
      go_region_held3 (fun w' => (w'.cell? ⟨w.heap.size, 0, none⟩ = some (.slice A ns.length ca) ∧ w'.cell? ⟨w.heap.size, 1, none⟩ = some (.slice B ps.length cb) ∧ w'.cell? ⟨w.heap.size, 2, none⟩ = some (.slice C os.length cc)) ∧ (w'.cell? ⟨Gb, 0, none⟩ = some (.int .i64 gd.l0) ∧ w'.cell? ⟨Gb, 1, none⟩ = some (.int .i64 gd.l1) ∧ w'.cell? ⟨Gb, 2, none⟩ = some (.int .i64 gd.h0) ∧ w'.cell? ⟨Gb, 3, none⟩ = some (.int .i64 gd.h1) ∧ w'.cell? ⟨Gb, 4, none⟩ = some (.int .i64 gd.on) ∧ w'.cell? ⟨Gb, 5, none⟩ = some (.slice G gd.drain.length cg) ∧ w'.cell? ⟨Gb, 6, none⟩ = some (.int .i64 gd.mx) ∧ w'.cell? ⟨Gb, 7, none⟩ = some (.int .i64 gd.tr) ∧ w'.cell? ⟨Gb, 8, none⟩ = some (.bool gd.rb)) ∧ (w'.cell? ⟨Hb, 0, none⟩ = some (.int .i64 gh.l0) ∧ w'.cell? ⟨Hb, 1, none⟩ = some (.int .i64 gh.l1) ∧ w'.cell? ⟨Hb, 2, none⟩ = some (.int .i64 gh.h0) ∧ w'.cell? ⟨Hb, 3, none⟩ = some (.int .i64 gh.h1) ∧ w'.cell? ⟨Hb, 4, none⟩ = some (.int .i64 gh.on) ∧ w'.cell? ⟨Hb, 5, none⟩ = some (.slice G gh.drain.length cg) ∧ w'.cell? ⟨Hb, 6, none⟩ = some (.int .i64 gh.mx) ∧ w'.cell? ⟨Hb, 7, none⟩ = some (.int .i64 gh.tr) ∧ w'.cell? ⟨Hb, 8, none⟩ = some (.bool gh.rb)))
        (first | (with_reducible exact T0) | (with_reducible exact T1) | (with_reducible exact T2))
        (first
          | (go_at_call 16
             with_reducible refine (K1'.out).mono ?_
             rintro e wA ⟨rfl, hb⟩
             have D1 := Lib.hid (D0.out.trans (hb.mono D0.out.size))
             have T1 := HC6.out _ D1.out
             have K2' := Lib.hid (K2.out _ D1.out)
             clear hb)
          | (go_at_call 16
             with_reducible refine (K2'.out).mono ?_
             rintro e wB ⟨rfl, hb⟩
             have D2 := Lib.hid (D1.out.trans (hb.mono D1.out.size))
             have T2 := HC6.out _ D2.out
             clear hb))
      all_goals
        (try go_wp2_with fail)
        go_meet
        exact ⟨rfl, rfl, D2.out⟩
    case' rest => obtain ⟨rfl, rfl, hb⟩ := hcut
    have HBc := Lib.hid hb
    clear hb T0 K1' K1 K2 D0 HB
    by_cases ha : 0 < a
    · obtain ⟨h1, h2⟩ := HW1.out ha
      have t1 : decide (0 < a) = true := decide_eq_true ha
      have t2 : (b == 0) = false := by rw [beq_eq_false_iff_ne]; omega
      have t3 : decide (b = 0) = false := decide_eq_false (by omega)
      have t4 : decide (a < b) = false := decide_eq_false (by omega)
      clear h1 h2 ha HW1
      go_wp2_with fail
      go_roundw
      case rel => exact ⟨k + 1, by omega, by go_num, HBc.out⟩
      case measure => simp [intOf] <;> omega
    · have t1 : decide (0 < a) = false := decide_eq_false ha
      clear ha HW1
      go_wp2_with fail
      go_roundw
      case rel => exact ⟨k + 1, by omega, by go_num, HBc.out⟩
      case measure => simp [intOf] <;> omega
end Go.Proofs.YticgcimcebdjlaaGreat

namespace Go.Proofs.YticgcimcebdjlaaGreat
open Go.ChangeShapes Go.WideShapes Go.ChangeAt Go.RowKit Go.Deep

theorem kcGoalD : Tryz.prog.cellsOf 30 = 9 := by kernel_rfl
theorem kcStrsD : Tryz.prog.cellsOf 28 = 1 := by kernel_rfl
theorem flat_strs : ∀ l : List (List UInt8), l.flatMap (fun y => [strV y]) = strC l
  | [] => rfl
  | x :: t => by
    rw [List.flatMap_cons, flat_strs t]
    rfl
set_option maxRecDepth 100000 in
theorem names_one {H : Type} {enc : TypeId × Value → H} {W : World} {held : Bool} {n : Nat} {c : Value} {x : DataW H × List MemPlace}
    (h : DataW.trod enc Tryz.prog W 0 (fun _ => true) held n 28 [c] = some x) : ∃ (A : Option Addr) (cap : Nat) (l : List (List UInt8)), c = .slice A l.length cap ∧ NamesAt W A cap l ∧ (A = none → l = [] ∧ cap = 0) := by
  obtain ⟨A, cap, l, e, hs, h1, h2, hg⟩ := slice_cells (T := List UInt8) (fun y => [strV y]) 1 (fun y => y.length ≤ maxLen) Tryz.underlying28 kcStr (by omega) (fun _ => rfl) (fun n cs x h => by
    obtain ⟨s, e, _, m⟩ := DataW.trod_string Tryz.underlying9 h
    exact ⟨s.data.toList, e, m⟩) h
  rw [flat_strs] at hs
  simp only [List.cons.injEq, and_true] at e
  refine ⟨A, cap, l, e, ⟨hs, h1, h2, hg⟩, ?_⟩
  intro hA
  subst hA
  rcases open_slice Tryz.underlying28 h with ⟨hcs, _⟩ | ⟨a, len, cap', m, n', D, Pl, hcs, _⟩
  · simp only [List.cons.injEq, and_true] at hcs
    rw [hcs] at e
    injection e with _ e2 e3
    exact ⟨List.length_eq_zero_iff.1 e2.symm, e3.symm⟩
  · simp only [List.cons.injEq, and_true] at hcs
    rw [hcs] at e
    injection e with e1
    cases e1
set_option maxRecDepth 100000 in
theorem two_one {H : Type} {enc : TypeId × Value → H} {W : World} {held : Bool} {n : Nat} {c0 c1 : Value} {x : DataW H × List MemPlace}
    (h : DataW.trod enc Tryz.prog W 0 (fun _ => true) held n 27 [c0, c1] = some x) : ∃ a b : Int, c0 = .int .i64 a ∧ c1 = .int .i64 b := by
  obtain ⟨xs, m, _, _, hl, hxl, hf⟩ := DataW.trod_array Tryz.underlying27 h
  match xs, hxl with
  | [y0, y1], _ =>
    have h0 := hf 0 (by omega)
    have h1 := hf 1 (by omega)
    rw [kcInt] at h0 h1
    obtain ⟨i0, e0⟩ := int_one (enc := enc) (W := W) (held := held) (n := m) (c := c0) (x := y0) h0
    obtain ⟨i1, e1⟩ := int_one (enc := enc) (W := W) (held := held) (n := m) (c := c1) (x := y1) h1
    exact ⟨i0, i1, e0, e1⟩
set_option maxRecDepth 100000 in
set_option maxHeartbeats 1000000 in
theorem open_goalD {H : Type} {enc : TypeId × Value → H} {W : World} {r : Reach} {b0 : Nat} {held : Bool} {v : Value} {d : DataW H} {p : List MemPlace}
    (hv : Value.okWide Tryz.prog W r b0 30 v) (h : DataW.Trod enc Tryz.prog W 0 (fun _ => true) held 30 v d p) :
    ∃ (g : Pol) (A : Option Addr) (c : Nat), v = valG g A c ∧ NamesAt W A c g.drain ∧ (A = none → g.drain = [] ∧ c = 0) := by
  simp only [Value.okWide, Tryz.underlying30] at hv
  obtain ⟨cs, rfl, _, _⟩ := hv
  obtain ⟨fuel, hf0⟩ := h
  obtain ⟨xs, m, _, _, hl, hxl, hf⟩ := DataW.trod_struct Tryz.underlying30 hf0
  rw [kcGoalD] at hl
  have hc : (Value.agg cs).cells.toList = cs.toList := rfl
  rw [hc] at hl hf
  generalize hL : cs.toList = L at hl hf
  match L, hl, xs, hxl with
  | [c0, c1, c2, c3, c4, c5, c6, c7, c8], _, [y0, y1, y2, y3, y4, y5, y6], _ =>
    have h0 : DataW.trod enc Tryz.prog W 0 (fun _ => true) held m 27 ((([c0, c1, c2, c3, c4, c5, c6, c7, c8] : List Value).drop 0).take (Tryz.prog.cellsOf 27)) = some y0 := hf 0 _ rfl
    have h1 : DataW.trod enc Tryz.prog W 0 (fun _ => true) held m 27 ((([c0, c1, c2, c3, c4, c5, c6, c7, c8] : List Value).drop 2).take (Tryz.prog.cellsOf 27)) = some y1 := hf 1 _ rfl
    have h2 : DataW.trod enc Tryz.prog W 0 (fun _ => true) held m 3 ((([c0, c1, c2, c3, c4, c5, c6, c7, c8] : List Value).drop 4).take (Tryz.prog.cellsOf 3)) = some y2 := hf 2 _ rfl
    have h3 : DataW.trod enc Tryz.prog W 0 (fun _ => true) held m 28 ((([c0, c1, c2, c3, c4, c5, c6, c7, c8] : List Value).drop 5).take (Tryz.prog.cellsOf 28)) = some y3 := hf 3 _ rfl
    have h4 : DataW.trod enc Tryz.prog W 0 (fun _ => true) held m 3 ((([c0, c1, c2, c3, c4, c5, c6, c7, c8] : List Value).drop 6).take (Tryz.prog.cellsOf 3)) = some y4 := hf 4 _ rfl
    have h5 : DataW.trod enc Tryz.prog W 0 (fun _ => true) held m 3 ((([c0, c1, c2, c3, c4, c5, c6, c7, c8] : List Value).drop 7).take (Tryz.prog.cellsOf 3)) = some y5 := hf 5 _ rfl
    have h6 : DataW.trod enc Tryz.prog W 0 (fun _ => true) held m 4 ((([c0, c1, c2, c3, c4, c5, c6, c7, c8] : List Value).drop 8).take (Tryz.prog.cellsOf 4)) = some y6 := hf 6 _ rfl
    rw [kcTwoD] at h0 h1
    rw [kcInt] at h2 h4 h5
    rw [kcStrsD] at h3
    rw [kcBool] at h6
    obtain ⟨a0, a1, rfl, rfl⟩ := two_one (show DataW.trod enc Tryz.prog W 0 (fun _ => true) held m 27 [c0, c1] = some y0 from h0)
    obtain ⟨a2, a3, rfl, rfl⟩ := two_one (show DataW.trod enc Tryz.prog W 0 (fun _ => true) held m 27 [c2, c3] = some y1 from h1)
    obtain ⟨n2, rfl⟩ := int_one (show DataW.trod enc Tryz.prog W 0 (fun _ => true) held m 3 [c4] = some y2 from h2)
    obtain ⟨A, c, l, rfl, hn, hz⟩ := names_one (show DataW.trod enc Tryz.prog W 0 (fun _ => true) held m 28 [c5] = some y3 from h3)
    obtain ⟨n4, rfl⟩ := int_one (show DataW.trod enc Tryz.prog W 0 (fun _ => true) held m 3 [c6] = some y4 from h4)
    obtain ⟨n5, rfl⟩ := int_one (show DataW.trod enc Tryz.prog W 0 (fun _ => true) held m 3 [c7] = some y5 from h5)
    obtain ⟨bb, rfl⟩ := bool_one (show DataW.trod enc Tryz.prog W 0 (fun _ => true) held m 4 [c8] = some y6 from h6)
    refine ⟨⟨a0, a1, a2, a3, n2, l, n4, n5, bb⟩, A, c, ?_, hn, hz⟩
    have hv : cs = #[.int .i64 a0, .int .i64 a1, .int .i64 a2, .int .i64 a3, .int .i64 n2, .slice A l.length c, .int .i64 n4, .int .i64 n5, .bool bb] := by
      apply Array.ext'
      rw [hL]
    rw [hv]
end Go.Proofs.YticgcimcebdjlaaGreat
