/- Step and May answer as the document says: the law's walk. Condition: the arguments lie in memory. -/
import Derived.Test.YtpdaohkpgconkaaGreatA04

namespace Go.Proofs.YtpdaohkpgconkaaGreat
open Go.RowKit Go.Maps

set_option maxRecDepth 100000 in
set_option maxHeartbeats 16000000 in
theorem admitSteps_law (A B C : Option Addr) (ca cb cc : Nat) (ns : List NodeD) (ps : List PodD) (os : List OwnD) (P : Option Addr) (cp : Nat) (p : List Int) (kd pd nd : Int) (w : World) (h : SnapIn w A B C ca cb cc ns ps os) (hp : NumsIn w P cp p) :
    Calls Tryz.prog 7 #[snapV A B C ca cb cc ns ps os, .slice P p.length cp, stepV kd pd nd] w fun e w' => e = .returned (.bool true) ∧ Below w.heap.size w w' := by
  have HP9 := Lib.hid hp
  clear hp
  have B0 : Hid (Below w.heap.size w ((w.alloc (.cells (snapC A B C ca cb cc ns ps os) 26)).alloc (.cells #[.int .i64 kd, .int .i64 pd, .int .i64 nd] 70))) := Lib.hid (Qu.below2 w _ _)
  have S0 : Hid (Blk ((w.alloc (.cells (snapC A B C ca cb cc ns ps os) 26)).alloc (.cells #[.int .i64 kd, .int .i64 pd, .int .i64 nd] 70)) w.heap.size (snapC A B C ca cb cc ns ps os) 26) := Lib.hid (Blk.alloc (Blk.new w _ _) _)
  have X0 : Hid (Blk ((w.alloc (.cells (snapC A B C ca cb cc ns ps os) 26)).alloc (.cells #[.int .i64 kd, .int .i64 pd, .int .i64 nd] 70)) (w.heap.size + 1) #[.int .i64 kd, .int .i64 pd, .int .i64 nd] 70) := Lib.hid (blk2 w _ _ _)
  have H := Lib.hid (h.take)
  have KW := Lib.hid works10_any
  have HIN := Lib.hid h
  have hn12 : (ns.take 12).length ≤ 12 := List.length_take_le _ _
  have hp30 : (ps.take 30).length ≤ 30 := List.length_take_le _ _
  have ho12 : (os.take 12).length ≤ 12 := List.length_take_le _ _
  have KC := Lib.hid (fun W' (hb : Below w.heap.size w W') => cut10_any A B C ca cb cc ns ps os W' (HIN.out.below8 hb))
  generalize ns.take 12 = n1 at H KC hn12
  generalize ps.take 30 = p1 at H KC hp30
  generalize os.take 12 = o1 at H KC ho12
  clear h HIN
  go_enter Tryz.func7, Tryz.ntmps7
  go_upto_region 1 with fail
  try change Code.wp _ _ _ _ ((w.alloc (.cells (snapC A B C ca cb cc ns ps os) 26)).alloc (.cells #[.int .i64 kd, .int .i64 pd, .int .i64 nd] 70))
  generalize ((w.alloc (.cells (snapC A B C ca cb cc ns ps os) 26)).alloc (.cells #[.int .i64 kd, .int .i64 pd, .int .i64 nd] 70)) = W0 at B0 S0 X0 ⊢
  have z0 : W0.cell? ⟨w.heap.size, 0, none⟩ = some (.slice A ns.length ca) := Blk.cell S0.out 0
  have z1 : W0.cell? ⟨w.heap.size, 1, none⟩ = some (.slice B ps.length cb) := Blk.cell S0.out 1
  have z2 : W0.cell? ⟨w.heap.size, 2, none⟩ = some (.slice C os.length cc) := Blk.cell S0.out 2
  go_wp2_with fail
  refine (KC.out _ B0.out).mono ?_
  rintro e w2 ⟨rfl, hb2⟩
  have S2 : Hid (Blk w2 w.heap.size (snapC A B C ca cb cc ns ps os) 26) := Lib.hid (S0.out.below hb2 S0.out.lt)
  have B2 : Hid (Below w.heap.size w w2) := Lib.hid (B0.out.trans (hb2.mono B0.out.size))
  have X2 := Lib.hid (X0.out.below hb2 X0.out.lt)
  clear hb2 S0 B0 KC X0 z0 z1 z2
  have r0 : w2.cell? ⟨w.heap.size, 0, none⟩ = some (.slice A ns.length ca) := Blk.cell S2.out 0
  have r1 : w2.cell? ⟨w.heap.size, 1, none⟩ = some (.slice B ps.length cb) := Blk.cell S2.out 1
  have r2 : w2.cell? ⟨w.heap.size, 2, none⟩ = some (.slice C os.length cc) := Blk.cell S2.out 2
  have f0 := Blk.free S2.out 0
  have f1 := Blk.free S2.out 1
  have f2 := Blk.free S2.out 2
  have S3 : Hid (Blk (((w2.setCell ⟨w.heap.size, 0, none⟩ (.slice A n1.length ca)).setCell ⟨w.heap.size, 1, none⟩ (.slice B p1.length cb)).setCell ⟨w.heap.size, 2, none⟩ (.slice C o1.length cc)) w.heap.size (snapC A B C ca cb cc n1 p1 o1) 26) := Lib.hid (((S2.out.set 0 _).set 1 _).set 2 _)
  have B3 : Hid (Below w.heap.size w (((w2.setCell ⟨w.heap.size, 0, none⟩ (.slice A n1.length ca)).setCell ⟨w.heap.size, 1, none⟩ (.slice B p1.length cb)).setCell ⟨w.heap.size, 2, none⟩ (.slice C o1.length cc))) := Lib.hid (((B2.out.setCell (p := ⟨w.heap.size, 0, none⟩) (Nat.le_refl _) _).setCell (p := ⟨w.heap.size, 1, none⟩) (Nat.le_refl _) _).setCell (p := ⟨w.heap.size, 2, none⟩) (Nat.le_refl _) _)
  have X3 : Hid (Blk (((w2.setCell ⟨w.heap.size, 0, none⟩ (.slice A n1.length ca)).setCell ⟨w.heap.size, 1, none⟩ (.slice B p1.length cb)).setCell ⟨w.heap.size, 2, none⟩ (.slice C o1.length cc)) (w.heap.size + 1) #[.int .i64 kd, .int .i64 pd, .int .i64 nd] 70) := Lib.hid (((X2.out.oth (by omega) 0 _).oth (by omega) 1 _).oth (by omega) 2 _)
  go_upto_region 2 with fail
  clear r0 r1 r2 f0 f1 f2
  generalize (((w2.setCell ⟨w.heap.size, 0, none⟩ (.slice A n1.length ca)).setCell ⟨w.heap.size, 1, none⟩ (.slice B p1.length cb)).setCell ⟨w.heap.size, 2, none⟩ (.slice C o1.length cc)) = W at S3 B3 X3 ⊢
  clear S2 B2 X2
  have HW := Lib.hid (fun W' (hb : Below W.heap.size W W') => (show W'.cell? ⟨w.heap.size, 0, none⟩ = some (.slice A n1.length ca) ∧ W'.cell? ⟨w.heap.size, 1, none⟩ = some (.slice B p1.length cb) ∧ W'.cell? ⟨w.heap.size, 2, none⟩ = some (.slice C o1.length cc) from ⟨Blk.cell (S3.out.below hb S3.out.lt) 0, Blk.cell (S3.out.below hb S3.out.lt) 1, Blk.cell (S3.out.below hb S3.out.lt) 2⟩))
  have HG : Hid (w.heap.size < W.heap.size) := Lib.hid S3.out.lt
  have HT := Lib.hid (fun W' (hb : Below W.heap.size W W') => B3.out.trans (hb.mono B3.out.size))
  have HS := Lib.hid (fun W' (hb : Below W.heap.size W W') => H.out.below (HT.out W' hb))
  have hln := H.out.ln
  have hlp := H.out.lp
  have hlo := H.out.lo
  have HX := Lib.hid (fun W' (hb : Below W.heap.size W W') => (show W'.cell? ⟨w.heap.size + 1, 0, none⟩ = some (.int .i64 kd) ∧ W'.cell? ⟨w.heap.size + 1, 1, none⟩ = some (.int .i64 pd) ∧ W'.cell? ⟨w.heap.size + 1, 2, none⟩ = some (.int .i64 nd) from ⟨Blk.cell (X3.out.below hb X3.out.lt) 0, Blk.cell (X3.out.below hb X3.out.lt) 1, Blk.cell (X3.out.below hb X3.out.lt) 2⟩))
  have HPW := Lib.hid (HP9.out.below B3.out)
  have K1 := Lib.hid (copyInts_any P cp p W HPW.out)
  clear H B3 S3 X3 HP9 HG
  go_wp2_with fail
  refine (K1.out).mono ?_
  rintro e V ⟨vx, rfl, hox, hb0⟩
  obtain ⟨I, ci, rfl, _⟩ := La.own_slice hox
  have HB0 := Lib.hid hb0
  have HFP := Lib.hid HPW.out.few
  have HI := Lib.hid (fun W' (hb' : Below V.heap.size V W') => (IntsAt.own hox).below hb')
  have HP := Lib.hid (fun W' (hb' : Below V.heap.size V W') => (HPW.out.below hb0).ints.below hb')
  have HZ := Lib.hid (fun W' (hb : Below V.heap.size V W') => And.intro (HW.out W' (HB0.out.trans (hb.mono HB0.out.size))) (HX.out W' (HB0.out.trans (hb.mono HB0.out.size))))
  have HTV := Lib.hid (fun W' (hb : Below V.heap.size V W') => HT.out W' (HB0.out.trans (hb.mono HB0.out.size)))
  have HSV := Lib.hid (fun W' (hb : Below V.heap.size V W') => HS.out W' (HB0.out.trans (hb.mono HB0.out.size)))
  clear hox hb0 K1 HPW HB0 HW HX HT HS
  have hfew : ∀ p', (all8 n1 p1 o1 p').length ≤ 1000 := fun p' => all8_few hn12 hp30 ho12
  have k1 := Lib.hid (fun W' (hb : Below V.heap.size V W') => step_any A B C I ca cb cc ci n1 p1 o1 p kd pd nd W' (HSV.out W' hb) (HI.out W' hb))
  have k2 := Lib.hid (fun W' (hb : Below V.heap.size V W') => step10_any A B C P ca cb cc cp n1 p1 o1 p kd pd nd hfew W' (HSV.out W' hb) (HP.out W' hb))
  have k3 := Lib.hid (fun W' (hb : Below V.heap.size V W') => may_anyA A B C I ca cb cc ci n1 p1 o1 p kd pd nd W' (HSV.out W' hb) (HI.out W' hb))
  have k4 := Lib.hid (fun W' (hb : Below V.heap.size V W') => may10_any A B C P ca cb cc cp n1 p1 o1 p kd pd nd hfew W' (HSV.out W' hb) (HP.out W' hb))
  generalize stepF n1 p1 o1 p (kd, pd, nd) = T at k1 k2
  generalize mayB n1 p1 o1 p (kd, pd, nd) = M at k3 k4
  obtain ⟨q, ⟨c0, c1, c2, c3⟩, x⟩ := T
  dsimp only at k1 k2
  have hee : (x == x) = true := by simp
  have hed : decide (x = x) = true := by simp
  have hmm : (M == M) = true := by simp
  have hmd : decide (M = M) = true := by simp
  have hmg := cl_guard
  have hq1 := fun w => eq_cl c0 c1 c2 c3 w
  have HB := Lib.hid (Below.refl V.heap.size V)
  clear hn12 hp30 ho12 hln hlp hlo hfew
  obtain ⟨⟨z0, z1, z2⟩, y0, y1, y2⟩ := HZ.out _ HB.out
  go_wp2_with fail
  refine (k1.out _ HB.out).mono ?_
  rintro e V1 ⟨va, rfl, hoa, hb⟩
  obtain ⟨Ga, ca2, rfl, _⟩ := La.own_slice hoa
  have B1 := Lib.hid (HB.out.trans (hb.mono HB.out.size))
  have O2 := Lib.hid (La.own_below hoa (below1 V1 (.cells (clC (c0, c1, c2, c3)) 47)))
  have B2 := Lib.hid (B1.out.alloc B1.out.size (.cells (clC (c0, c1, c2, c3)) 47))
  have C2 := Lib.hid (Blk.new V1 (clC (c0, c1, c2, c3)) 47)
  clear hb hoa z0 z1 z2 y0 y1 y2 k1 HB
  go_upto_region 4 with fail
  try change Code.wp _ _ _ _ (V1.alloc (.cells (clC (c0, c1, c2, c3)) 47))
  generalize (V1.alloc (.cells (clC (c0, c1, c2, c3)) 47)) = V2 at O2 B2 C2 ⊢
  generalize V1.heap.size = g1 at C2 ⊢
  obtain ⟨⟨z0, z1, z2⟩, y0, y1, y2⟩ := HZ.out _ B2.out
  go_wp2_with fail
  refine (k2.out _ B2.out).mono ?_
  rintro e V3 ⟨vb, rfl, hob, hb⟩
  obtain ⟨Gb, cb2, rfl, _⟩ := La.own_slice hob
  have B3 := Lib.hid (B2.out.trans (hb.mono B2.out.size))
  have B4 := Lib.hid (B3.out.alloc B3.out.size (.cells (clC (c0, c1, c2, c3)) 47))
  have C4 := Lib.hid (Blk.new V3 (clC (c0, c1, c2, c3)) 47)
  have C3 := Lib.hid (Blk.alloc (C2.out.below hb C2.out.lt) (.cells (clC (c0, c1, c2, c3)) 47))
  have O4 := Lib.hid (La.own_below (La.own_below O2.out hb) (below1 V3 (.cells (clC (c0, c1, c2, c3)) 47)))
  have Q4 := Lib.hid ((IntsAt.own hob).below (below1 V3 (.cells (clC (c0, c1, c2, c3)) 47)))
  clear hb hob z0 z1 z2 y0 y1 y2 k2 B1 O2 B2 C2 B3
  go_upto_region 5 with fail
  try change Code.wp _ _ _ _ (V3.alloc (.cells (clC (c0, c1, c2, c3)) 47))
  generalize (V3.alloc (.cells (clC (c0, c1, c2, c3)) 47)) = V4 at O4 B4 C4 C3 Q4 ⊢
  generalize V3.heap.size = g2 at C4 ⊢
  have hql := Nat.le_trans Q4.out.le Q4.out.most
  have KE := Lib.hid (fun W' (hb : Below V4.heap.size V4 W') => eqSame9 Ga Gb ca2 cb2 q W' hql ((IntsAt.own O4.out).below hb) (Q4.out.below hb))
  have HC := Lib.hid (fun W' (hb : Below V4.heap.size V4 W') => And.intro (HZ.out W' (B4.out.trans (hb.mono B4.out.size))) (And.intro (cells_of4 (C3.out.below hb C3.out.lt)).1 (cells_of4 (C4.out.below hb C4.out.lt)).1))
  have K3 := Lib.hid (fun W' (hb : Below V4.heap.size V4 W') => k3.out W' (B4.out.trans (hb.mono B4.out.size)))
  have K4 := Lib.hid (fun W' (hb : Below V4.heap.size V4 W') => k4.out W' (B4.out.trans (hb.mono B4.out.size)))
  have D0 : Hid (Below V4.heap.size V4 V4.drew) := Lib.hid ((Below.refl _ V4).drew)
  have h0 := HC.out _ D0.out
  clear Q4 C3 C4 k3 k4
  dsimp only at h0
  go_cut [59] (fun u wc => u = .bool false ∧ Below V4.heap.size V4 wc)
  case first =>
    go_region_held3 (fun w' => ((w'.cell? ⟨w.heap.size, 0, none⟩ = some (.slice A n1.length ca) ∧ w'.cell? ⟨w.heap.size, 1, none⟩ = some (.slice B p1.length cb) ∧ w'.cell? ⟨w.heap.size, 2, none⟩ = some (.slice C o1.length cc)) ∧ w'.cell? ⟨w.heap.size + 1, 0, none⟩ = some (.int .i64 kd) ∧ w'.cell? ⟨w.heap.size + 1, 1, none⟩ = some (.int .i64 pd) ∧ w'.cell? ⟨w.heap.size + 1, 2, none⟩ = some (.int .i64 nd)) ∧ (w'.cell? ⟨g1, 0, none⟩ = some (.int .i64 c0) ∧ w'.cell? ⟨g1, 1, none⟩ = some (.int .i64 c1) ∧ w'.cell? ⟨g1, 2, none⟩ = some (.int .i64 c2) ∧ w'.cell? ⟨g1, 3, none⟩ = some (.int .i64 c3)) ∧ (w'.cell? ⟨g2, 0, none⟩ = some (.int .i64 c0) ∧ w'.cell? ⟨g2, 1, none⟩ = some (.int .i64 c1) ∧ w'.cell? ⟨g2, 2, none⟩ = some (.int .i64 c2) ∧ w'.cell? ⟨g2, 3, none⟩ = some (.int .i64 c3)))
      (first | (with_reducible exact h0) | (with_reducible exact h1) | (with_reducible exact h2) | (with_reducible exact h3))
      (first
        | (go_at_call 28; (with_reducible refine (KE.out _ D0.out).mono ?_); rintro e wA ⟨rfl, hbA⟩; have D1 := Lib.hid (D0.out.trans (hbA.mono D0.out.size)); have h1 := HC.out _ D1.out; clear hbA)
        | (go_at_call 37; (with_reducible refine (K3.out _ D1.out).mono ?_); rintro e wB ⟨rfl, hbA⟩; have D2 := Lib.hid (D1.out.trans (hbA.mono D1.out.size)); have h2 := HC.out _ D2.out; clear hbA)
        | (go_at_call 38; (with_reducible refine (K4.out _ D2.out).mono ?_); rintro e wC ⟨rfl, hbA⟩; have D3 := Lib.hid (D2.out.trans (hbA.mono D2.out.size)); have h3 := HC.out _ D3.out; clear hbA))
    all_goals
      (try go_wp2_with fail)
      go_meet
      exact ⟨rfl, D3.out⟩
  case' rest => obtain ⟨rfl, hcut⟩ := hcut
  have HB5 := Lib.hid (B4.out.trans (hcut.mono B4.out.size))
  have O5 := Lib.hid (La.own_below O4.out hcut)
  clear hcut O4 B4 HC KE K3 K4 D0 h0 HZ hq1 hmg hmm hmd hee hed
  go_wp2_with fail
  go_loopw [14] (fun i wr => ∃ (m : Nat) (xs : List Int), m ≤ q.length ∧ xs.length = q.length ∧ i = .int .i64 m ∧ wr.ownsRow V.heap.size 3 1 (.slice Ga q.length ca2) q.length (intsC xs) ∧ Below V.heap.size V wr) (fun i _ => q.length - (intOf i).toNat)
  case atStart => exact ⟨0, q, by omega, rfl, rfl, O5.out, HB5.out⟩
  case round =>
    clear O5 HB5
    obtain ⟨m, xs, hm, hxs, rfl, ho1, hbw⟩ := hrel
    have U9 := Lib.hid hbw
    have HXs := Lib.hid hxs
    clear hbw hxs
    by_cases hml : m < q.length
    · obtain ⟨g, cap, hA1, hgb⟩ : ∃ g cap, (Value.slice Ga q.length ca2) = .slice (some ⟨g, 0, none⟩) q.length cap ∧ V.heap.size ≤ g := by
        rcases ho1.2 with ⟨_, h⟩ | ⟨g, cap, cur, hv, hb, _⟩
        · omega
        · exact ⟨g, cap, hv, hb⟩
      simp only [Value.slice.injEq] at hA1
      obtain ⟨rfl, _, rfl⟩ := hA1
      obtain ⟨y, hy⟩ : ∃ y, xs[m]? = some y := ⟨xs[m]'(by have := HXs.out; omega), List.getElem?_eq_getElem _⟩
      obtain ⟨b3, o3, hA3, hbl3, hcur⟩ := atI (La.own_slat ho1) hy
      cases hA3
      rw [Nat.zero_add] at hcur
      have hfr := own_free ho1 m
      have m0 : (0 : Int) ≤ (m : Int) := by omega
      have m1 : (m : Int) < (q.length : Int) := by omega
      have O10 := Lib.hid (by
        have q := own_put ho1 m (.int .i64 77)
        rwa [ints_set] at q)
      have U10 := Lib.hid (U9.out.setCell (p := ⟨g, m, none⟩) hgb (.int .i64 77))
      clear ho1 hy
      go_wp2_with fail
      go_roundw
      case rel => exact ⟨m + 1, xs.set m 77, by omega, by rw [List.length_set]; exact HXs.out, by go_num, O10.out, U10.out⟩
      case measure => simp [intOf]; omega
    · obtain rfl : m = q.length := by omega
      clear ho1
      have L6 := Lib.hid (eqSame9 I P ci cp p wr (by have := HFP.out; omega) (HI.out _ U9.out) (HP.out _ U9.out))
      go_wp2_with fail
      refine (L6.out).mono ?_
      rintro e w10 ⟨rfl, hb10⟩
      have U11 := Lib.hid (U9.out.trans (hb10.mono U9.out.size))
      clear hb10 L6
      go_wp2_with fail
      refine (KW.out _).mono ?_
      rintro e w11 ⟨rfl, hb10⟩
      have D := Lib.hid (HTV.out _ (U11.out.trans (hb10.mono U11.out.size)))
      clear hb10
      go_wp2
      go_ret
      exact ⟨rfl, D.out⟩
end Go.Proofs.YtpdaohkpgconkaaGreat
