/- The sums of a placement: true. Condition: the arguments lie in memory. -/
import Derived.Test.YtoankplhahbgkaaGreatC08

namespace Go.Proofs.YtoankplhahbgkaaGreat
open Go.RowKit

set_option maxRecDepth 100000 in
set_option maxHeartbeats 4000000 in
theorem sums_any (A B C P : Option Addr) (ca cb cc cp : Nat) (ns : List NodeD) (ps : List PodD) (os : List OwnD) (l : List Int) (w : World) (h : SnapIn w A B C ca cb cc ns ps os) (hp : IntsAt w P cp l) :
    Calls Tryz.prog 6 #[snapV A B C ca cb cc ns ps os, .slice P l.length cp] w fun e w' => e = .returned (.bool true) ∧ Below w.heap.size w w' := by
  have B0 : Hid (Below w.heap.size w (w.alloc (.cells (snapC A B C ca cb cc ns ps os) 26))) := Lib.hid (below1 w _)
  have S0 : Hid (Blk (w.alloc (.cells (snapC A B C ca cb cc ns ps os) 26)) w.heap.size (snapC A B C ca cb cc ns ps os) 26) := Lib.hid (Blk.new w _ _)
  have H := Lib.hid (h.take)
  have HP := Lib.hid hp
  have KW := Lib.hid works_any
  have KC0 := Lib.hid (fun W' (hb : Below w.heap.size w W') => cut_any A B C ca cb cc ns ps os W' (h.below hb))
  generalize ns.take 12 = n1 at H KC0
  generalize ps.take 30 = p1 at H KC0
  generalize os.take 12 = o1 at H KC0
  clear h hp
  go_enter Tryz.func6, Tryz.ntmps6
  go_wp2_with fail
  refine (KW.out _).mono ?_
  rintro e w1 ⟨rfl, hb1⟩
  have S1 : Hid (Blk w1 w.heap.size (snapC A B C ca cb cc ns ps os) 26) := Lib.hid (S0.out.below hb1 S0.out.lt)
  have B1 : Hid (Below w.heap.size w w1) := Lib.hid (B0.out.trans (hb1.mono B0.out.size))
  have KC := Lib.hid (KC0.out w1 B1.out)
  clear hb1 S0 B0 KC0
  have q0 : w1.cell? ⟨w.heap.size, 0, none⟩ = some (.slice A ns.length ca) := Blk.cell S1.out 0
  have q1 : w1.cell? ⟨w.heap.size, 1, none⟩ = some (.slice B ps.length cb) := Blk.cell S1.out 1
  have q2 : w1.cell? ⟨w.heap.size, 2, none⟩ = some (.slice C os.length cc) := Blk.cell S1.out 2
  go_wp2_with fail
  refine (KC.out).mono ?_
  rintro e w2 ⟨rfl, hb2⟩
  have S2 : Hid (Blk w2 w.heap.size (snapC A B C ca cb cc ns ps os) 26) := Lib.hid (S1.out.below hb2 S1.out.lt)
  have B2 : Hid (Below w.heap.size w w2) := Lib.hid (B1.out.trans (hb2.mono B1.out.size))
  clear hb2 S1 B1 KC q0 q1 q2
  have r0 : w2.cell? ⟨w.heap.size, 0, none⟩ = some (.slice A ns.length ca) := Blk.cell S2.out 0
  have r1 : w2.cell? ⟨w.heap.size, 1, none⟩ = some (.slice B ps.length cb) := Blk.cell S2.out 1
  have r2 : w2.cell? ⟨w.heap.size, 2, none⟩ = some (.slice C os.length cc) := Blk.cell S2.out 2
  have f0 := Blk.free S2.out 0
  have f1 := Blk.free S2.out 1
  have f2 := Blk.free S2.out 2
  have S3 : Hid (Blk (((w2.setCell ⟨w.heap.size, 0, none⟩ (.slice A n1.length ca)).setCell ⟨w.heap.size, 1, none⟩ (.slice B p1.length cb)).setCell ⟨w.heap.size, 2, none⟩ (.slice C o1.length cc)) w.heap.size (snapC A B C ca cb cc n1 p1 o1) 26) := Lib.hid (((S2.out.set 0 _).set 1 _).set 2 _)
  have B3 : Hid (Below w.heap.size w (((w2.setCell ⟨w.heap.size, 0, none⟩ (.slice A n1.length ca)).setCell ⟨w.heap.size, 1, none⟩ (.slice B p1.length cb)).setCell ⟨w.heap.size, 2, none⟩ (.slice C o1.length cc))) := Lib.hid (((B2.out.setCell (p := ⟨w.heap.size, 0, none⟩) (Nat.le_refl _) _).setCell (p := ⟨w.heap.size, 1, none⟩) (Nat.le_refl _) _).setCell (p := ⟨w.heap.size, 2, none⟩) (Nat.le_refl _) _)
  go_upto_region 4 with fail
  clear r0 r1 r2 f0 f1 f2
  generalize (((w2.setCell ⟨w.heap.size, 0, none⟩ (.slice A n1.length ca)).setCell ⟨w.heap.size, 1, none⟩ (.slice B p1.length cb)).setCell ⟨w.heap.size, 2, none⟩ (.slice C o1.length cc)) = W at S3 B3 ⊢
  clear S2 B2
  have HW := Lib.hid (fun W' (hb : Below W.heap.size W W') => (show W'.cell? ⟨w.heap.size, 0, none⟩ = some (.slice A n1.length ca) ∧ W'.cell? ⟨w.heap.size, 1, none⟩ = some (.slice B p1.length cb) ∧ W'.cell? ⟨w.heap.size, 2, none⟩ = some (.slice C o1.length cc) from ⟨Blk.cell (S3.out.below hb S3.out.lt) 0, Blk.cell (S3.out.below hb S3.out.lt) 1, Blk.cell (S3.out.below hb S3.out.lt) 2⟩))
  have HT := Lib.hid (fun W' (hb : Below W.heap.size W W') => B3.out.trans (hb.mono B3.out.size))
  have HS := Lib.hid (fun W' (hb : Below W.heap.size W W') => H.out.below (HT.out W' hb))
  have KF1 := Lib.hid (fitted_ints A B C P ca cb cc cp n1 p1 o1 l W (HS.out W (Below.refl _ _)) (HP.out.below (HT.out W (Below.refl _ _))))
  have hfew := H.out.lp
  have hnf := H.out.ln
  have hof := H.out.lo
  have EP := Lib.hid (And.intro (fitU_len n1 l p1.length) (fitU_ok n1 l p1.length))
  generalize fitU n1 l p1.length = p at KF1 EP
  have HG : Hid (w.heap.size < W.heap.size) := Lib.hid S3.out.lt
  clear H HP B3 S3
  obtain ⟨z0, z1, z2⟩ := HW.out W (Below.refl _ _)
  go_wp2_with fail
  refine (KF1.out).mono ?_
  rintro e wc ⟨A1, c1, rfl, i1, hb⟩
  have Dc := Lib.hid hb
  have I1 := Lib.hid i1
  have KP := Lib.hid (pcheck_any A B C A1 ca cb cc c1 n1 p1 o1 p wc (HS.out wc Dc.out) I1.out)
  clear i1 hb KF1 z0 z1 z2
  obtain ⟨z0, z1, z2⟩ := HW.out wc Dc.out
  have hpl : p.length ≤ 1000 := by
    have := EP.out.1
    omega
  by_cases hE : placeE n1 p1 o1 p = 0
  case neg =>
    have KU := Lib.hid (fun W' (hb : Below W.heap.size W W') (hi : IntsAt W' A1 c1 p) => used_any A B C A1 ca cb cc c1 n1 p1 o1 p 0 W' (HS.out W' hb) hi)
    have eU : usedF n1 p1 o1 p 0 = fun _ => 0 := by
      funext k
      unfold usedF
      rw [if_neg (fun hc => hE hc.1)]
    have KN := Lib.hid (fun W' (hb : Below W.heap.size W W') (hi : IntsAt W' A1 c1 p) => counts_any A B C A1 ca cb cc c1 n1 p1 o1 p 0 W' (HS.out W' hb) hi)
    have eN : countsF n1 p1 o1 p 0 = [] := by
      unfold countsF ownerB
      rw [decide_eq_false hE, Bool.false_and, if_neg (by decide)]
    rw [eU] at KU
    rw [eN] at KN
    clear eU eN
    generalize placeE n1 p1 o1 p = E at hE KP
    go_wp2_with fail
    refine (KP.out).mono ?_
    rintro e w5 ⟨rfl, hb5⟩
    have D5 := Lib.hid (Dc.out.trans (hb5.mono Dc.out.size))
    have J1 := Lib.hid (I1.out.below hb5)
    clear hb5 KP I1 z0 z1 z2
    obtain ⟨z0, z1, z2⟩ := HW.out w5 D5.out
    go_wp2_with fail
    refine (KU.out _ D5.out J1.out).mono ?_
    rintro e w6 ⟨rfl, hb6⟩
    have D6 := Lib.hid (D5.out.trans (hb6.mono D5.out.size))
    have J2 := Lib.hid (J1.out.below hb6)
    clear hb6 J1 z0 z1 z2
    obtain ⟨z0, z1, z2⟩ := HW.out w6 D6.out
    have hvq := fun w => Qu.eq_row 0 0 0 0 0 w
    go_wp2_with fail
    refine (KN.out _ D6.out J2.out).mono ?_
    rintro e w7 ⟨v, rfl, ho, hb7⟩
    obtain ⟨An, cn, rfl, _⟩ := La.own_slice ho
    have D7 := Lib.hid (HT.out _ (D6.out.trans (hb7.mono D6.out.size)))
    clear ho hb7 hvq
    go_wp2
    go_ret
    exact ⟨rfl, D7.out⟩
  case pos =>
    have GP := Lib.hid hE
    have EL : Hid (p.length = p1.length) := Lib.hid EP.out.1
    rw [hE] at KP
    clear hE
    go_wp2_with fail
    refine (KP.out).mono ?_
    rintro e w5 ⟨rfl, hb5⟩
    have D5 := Lib.hid (Dc.out.trans (hb5.mono Dc.out.size))
    have J1 := Lib.hid (I1.out.below hb5)
    clear hb5 KP I1 z0 z1 z2 Dc
    have B6 : Hid (Below w5.heap.size w5 ((w5.alloc (.cells zer5 33)).alloc (.cells zer5 33))) := Lib.hid (Qu.below2 w5 _ _)
    have G6 : Hid (Qu.RowAt ((w5.alloc (.cells zer5 33)).alloc (.cells zer5 33)) w5.heap.size (fun _ => 0)) := Lib.hid (Blk.alloc (Blk.new w5 _ _) _)
    have N6 : Hid (Qu.RowAt ((w5.alloc (.cells zer5 33)).alloc (.cells zer5 33)) (w5.heap.size + 1) (fun _ => 0)) := Lib.hid (blk2 w5 _ _ _)
    have HD := Lib.hid (fun W' (hb : Below w5.heap.size w5 W') => D5.out.trans (hb.mono D5.out.size))
    have HI := Lib.hid (fun W' (hb : Below w5.heap.size w5 W') => J1.out.below hb)
    clear J1 D5
    go_wp2_with fail
    generalize ((w5.alloc (.cells zer5 33)).alloc (.cells zer5 33)) = W6 at G6 N6 B6 ⊢
    go_loopw [8] (fun i wr => ∃ k : Nat, k ≤ n1.length ∧ i = .int .i64 k ∧ Qu.RowAt wr w5.heap.size (fun j => wrap64 (usedG p1 p j p.length k)) ∧ Qu.RowAt wr (w5.heap.size + 1) (fun _ => 0) ∧ Below w5.heap.size w5 wr) (fun i _ => n1.length - (intOf i).toNat)
    case atStart => exact ⟨0, by omega, rfl, RowAt_congr G6.out (fun j _ => by unfold usedG wrap64; omega), N6.out, B6.out⟩
    case round =>
      clear G6 N6 B6
      obtain ⟨k, hk, rfl, g6, m6, hb⟩ := hrel
      have G6 := Lib.hid g6
      have N6 := Lib.hid m6
      have I6 := Lib.hid (HI.out wr hb)
      have D6 := Lib.hid (HD.out wr hb)
      have B6 := Lib.hid hb
      clear g6 m6 hb
      obtain ⟨z0, z1, z2⟩ := HW.out wr D6.out
      by_cases hlt : k < n1.length
      · have KU := Lib.hid (fun W' (hb : Below W.heap.size W W') (hi : IntsAt W' A1 c1 p) => used_any A B C A1 ca cb cc c1 n1 p1 o1 p (k : Int) W' (HS.out W' hb) hi)
        obtain ⟨f, hf⟩ : ∃ f : Nat → Int, (fun j => wrap64 (usedG p1 p j p.length k)) = f := ⟨_, rfl⟩
        obtain ⟨r, hr⟩ : ∃ r : Nat → Int, usedF n1 p1 o1 p (k : Int) = r := ⟨_, rfl⟩
        rw [hf] at G6
        rw [hr] at KU
        have EN : Hid (∀ j, j < 5 → addR f r 5 j = wrap64 (usedG p1 p j p.length (k + 1))) := Lib.hid (fun j hj => by
          unfold addR
          rw [if_pos hj, ← hf, ← hr]
          unfold usedF
          rw [if_pos ⟨GP.out, by omega, by omega⟩, addW_is]
          show wrap64 (wrap64 _ + wrap64 _) = _
          rw [wrap_two, usedG])
        clear hf hr
        have y0 := G6.out.cell (show 0 < 5 by omega)
        have y1 := G6.out.cell (show 1 < 5 by omega)
        have y2 := G6.out.cell (show 2 < 5 by omega)
        have y3 := G6.out.cell (show 3 < 5 by omega)
        have y4 := G6.out.cell (show 4 < 5 by omega)
        go_upto_region 11 with fail
        go_region_with (first
          | (go_at_call 20; refine (KU.out _ (by first | exact D6.out | exact D6.out.drew) (by first | exact I6.out | exact (show IntsAt wr.drew _ _ _ from I6.out.below (Below.refl _ _).drew))).mono ?_; rintro e w3 ⟨rfl, hb3⟩; have D7 : Hid (Below wr.heap.size wr w3) := Lib.hid (by first | exact hb3 | exact (Below.drew (Below.refl _ _)).trans hb3); clear hb3; have G7 := Lib.hid (G6.out.below D7.out G6.out.lt); have x0 := G7.out.cell (show 0 < 5 by omega); have x1 := G7.out.cell (show 1 < 5 by omega); have x2 := G7.out.cell (show 2 < 5 by omega); have x3 := G7.out.cell (show 3 < 5 by omega); have x4 := G7.out.cell (show 4 < 5 by omega))
          | (go_at_call 41; refine (total_any f r _).mono ?_; rintro e w4 ⟨rfl, hb4⟩; have D8 : Hid (Below wr.heap.size wr w4) := Lib.hid (D7.out.trans (hb4.mono D7.out.size)); clear hb4; have G8 := Lib.hid (G6.out.below D8.out G6.out.lt); have t0 := G8.out.cell (show 0 < 5 by omega); have t1 := G8.out.cell (show 1 < 5 by omega); have t2 := G8.out.cell (show 2 < 5 by omega); have t3 := G8.out.cell (show 3 < 5 by omega); have t4 := G8.out.cell (show 4 < 5 by omega); have fr0 := G8.out.free 0; have fr1 := G8.out.free 1; have fr2 := G8.out.free 2; have fr3 := G8.out.free 3; have fr4 := G8.out.free 4))
        all_goals
          go_wp2_with fail
          go_roundw
          case rel =>
            have N8 := N6.out.below D8.out N6.out.lt
            have B8 := B6.out.trans (D8.out.mono B6.out.size)
            refine ⟨k + 1, by omega, by go_num, RowAt_congr (((((G8.out.set (show 0 < 5 by omega) _).set (show 1 < 5 by omega) _).set (show 2 < 5 by omega) _).set (show 3 < 5 by omega) _).set (show 4 < 5 by omega) _) ?_, (((((N8.other _ _ (by simp)).other _ _ (by simp)).other _ _ (by simp)).other _ _ (by simp)).other _ _ (by simp)), (((((B8.setCell (p := ⟨w5.heap.size, 0, none⟩) (Nat.le_refl _) _).setCell (p := ⟨w5.heap.size, 1, none⟩) (Nat.le_refl _) _).setCell (p := ⟨w5.heap.size, 2, none⟩) (Nat.le_refl _) _).setCell (p := ⟨w5.heap.size, 3, none⟩) (Nat.le_refl _) _).setCell (p := ⟨w5.heap.size, 4, none⟩) (Nat.le_refl _) _)⟩
            intro j hj
            match j, hj with
            | 0, h => exact EN.out 0 h
            | 1, h => exact EN.out 1 h
            | 2, h => exact EN.out 2 h
            | 3, h => exact EN.out 3 h
            | 4, h => exact EN.out 4 h
          case measure => simp [intOf]; omega
      · obtain rfl : k = n1.length := by omega
        have EG : Hid (∀ j, usedG p1 p j p.length n1.length = wantU p1 p j p.length) := Lib.hid (fun j => used_want p1 p j n1.length (fun x hx => by
          have hok := EP.out.2 x hx
          by_cases h0 : 0 ≤ x
          · obtain ⟨n, hn, hn2⟩ := tpB_lt (ok_tp hok h0)
            omega
          · exact .inl (ok_neg hok h0)) p.length)
        clear I6 D6 hlt hk
        go_wp2_with fail
        clear z0 z1 z2
        go_loopw [9] (fun i wr => ∃ k : Nat, k ≤ p.length ∧ i = .int .i64 k ∧ Qu.RowAt wr w5.heap.size (fun j => wrap64 (usedG p1 p j p.length n1.length)) ∧ Qu.RowAt wr (w5.heap.size + 1) (fun j => wrap64 (wantU p1 p j k)) ∧ Below w5.heap.size w5 wr) (fun i _ => p.length - (intOf i).toNat)
        case atStart => exact ⟨0, by omega, rfl, G6.out, RowAt_congr N6.out (fun j _ => by unfold wantU wrap64; omega), B6.out⟩
        case round =>
          clear G6 N6 B6
          obtain ⟨k, hk, rfl, g6, m6, hb⟩ := hrel
          have G6 := Lib.hid g6
          have N6 := Lib.hid m6
          have I6 := Lib.hid (HI.out wr hb)
          have D6 := Lib.hid (HD.out wr hb)
          have B6 := Lib.hid hb
          clear g6 m6 hb
          obtain ⟨z0, z1, z2⟩ := HW.out wr D6.out
          by_cases hlt : k < p.length
          · obtain ⟨x, hx⟩ : ∃ x, p[k]? = some x := ⟨p[k], List.getElem?_eq_getElem hlt⟩
            have hkp : k < p1.length := by
              have := EL.out
              omega
            obtain ⟨y, hy⟩ : ∃ y, p1[k]? = some y := ⟨p1[k], List.getElem?_eq_getElem hkp⟩
            obtain ⟨bx, ox, hAx, hbx, cx⟩ := atI I6.out.cells hx
            subst hAx
            have k0 : (0 : Int) ≤ (k : Int) := by omega
            have k1 : (k : Int) < (p.length : Int) := by omega
            have k2 : (k : Int) < (p1.length : Int) := by omega
            by_cases h0 : 0 ≤ x
            · obtain ⟨b, o, hA, hb0, d0, d1, d2, d3, d4, d5, d6, d7, d8, d9, d10, d11, d12, d13, d14⟩ := atP (HS.out wr D6.out).p.cells hy
              subst hA
              obtain ⟨f, hf⟩ : ∃ f : Nat → Int, (fun j => wrap64 (wantU p1 p j k)) = f := ⟨_, rfl⟩
              rw [hf] at N6
              have EN : Hid (∀ j, j < 5 → addR f y.req 5 j = wrap64 (wantU p1 p j (k + 1))) := Lib.hid (fun j hj => by
                unfold addR
                rw [if_pos hj, ← hf]
                show wrap64 (wrap64 _ + _) = _
                rw [wrap_step, wantU, hx]
                simp only [if_pos h0]
                unfold reqAt
                rw [hy])
              clear hf hx hy d0 d1 d7 d8 d9 d10 d11 d12 d13 d14 hb0
              have y0 := N6.out.cell (show 0 < 5 by omega); have y1 := N6.out.cell (show 1 < 5 by omega); have y2 := N6.out.cell (show 2 < 5 by omega); have y3 := N6.out.cell (show 3 < 5 by omega); have y4 := N6.out.cell (show 4 < 5 by omega)
              go_upto_region 16 with fail

              go_region_with (go_at_call 41; refine (total_any f y.req _).mono ?_; rintro e w4 ⟨rfl, hb4⟩; have D8 : Hid (Below wr.heap.size wr w4) := Lib.hid (by first | exact hb4 | exact (Below.drew (Below.refl _ _)).trans hb4); clear hb4; have N8 := Lib.hid (N6.out.below D8.out N6.out.lt); have t0 := N8.out.cell (show 0 < 5 by omega); have t1 := N8.out.cell (show 1 < 5 by omega); have t2 := N8.out.cell (show 2 < 5 by omega); have t3 := N8.out.cell (show 3 < 5 by omega); have t4 := N8.out.cell (show 4 < 5 by omega); have fr0 := N8.out.free 0; have fr1 := N8.out.free 1; have fr2 := N8.out.free 2; have fr3 := N8.out.free 3; have fr4 := N8.out.free 4)
              all_goals
                go_wp2_with fail
                go_roundw
                case rel =>
                  have G8 := G6.out.below D8.out G6.out.lt
                  have B8 := B6.out.trans (D8.out.mono B6.out.size)
                  refine ⟨k + 1, by omega, by go_num, (((((G8.other _ _ (by simp)).other _ _ (by simp)).other _ _ (by simp)).other _ _ (by simp)).other _ _ (by simp)), RowAt_congr (((((N8.out.set (show 0 < 5 by omega) _).set (show 1 < 5 by omega) _).set (show 2 < 5 by omega) _).set (show 3 < 5 by omega) _).set (show 4 < 5 by omega) _) ?_, (((((B8.setCell (p := ⟨w5.heap.size + 1, 0, none⟩) (Nat.le_succ _) _).setCell (p := ⟨w5.heap.size + 1, 1, none⟩) (Nat.le_succ _) _).setCell (p := ⟨w5.heap.size + 1, 2, none⟩) (Nat.le_succ _) _).setCell (p := ⟨w5.heap.size + 1, 3, none⟩) (Nat.le_succ _) _).setCell (p := ⟨w5.heap.size + 1, 4, none⟩) (Nat.le_succ _) _)⟩
                  intro j hj
                  match j, hj with
                  | 0, h => exact EN.out 0 h
                  | 1, h => exact EN.out 1 h
                  | 2, h => exact EN.out 2 h
                  | 3, h => exact EN.out 3 h
                  | 4, h => exact EN.out 4 h
                case measure => simp [intOf]; omega
            · have EW : Hid (∀ j, wantU p1 p j (k + 1) = wantU p1 p j k) := Lib.hid (fun j => by rw [wantU, hx]; simp only [if_neg h0, Int.add_zero])
              clear hx hy
              go_wp2
              go_roundw
              case rel => exact ⟨k + 1, by omega, by go_num, G6.out, RowAt_congr N6.out (fun j _ => by rw [EW.out j]), B6.out⟩
              case measure => simp [intOf]; omega
          · obtain rfl : k = p.length := by omega
            obtain ⟨f, hf⟩ : ∃ f : Nat → Int, (fun j => wrap64 (wantU p1 p j p.length)) = f := ⟨_, rfl⟩
            have GF : Hid (Qu.RowAt wr w5.heap.size f) := Lib.hid (RowAt_congr G6.out (fun j _ => by rw [← hf, EG.out j]))
            rw [hf] at N6
            clear hf
            have x0 := GF.out.cell (show 0 < 5 by omega)
            have x1 := GF.out.cell (show 1 < 5 by omega)
            have x2 := GF.out.cell (show 2 < 5 by omega)
            have x3 := GF.out.cell (show 3 < 5 by omega)
            have x4 := GF.out.cell (show 4 < 5 by omega)
            have y0 := N6.out.cell (show 0 < 5 by omega)
            have y1 := N6.out.cell (show 1 < 5 by omega)
            have y2 := N6.out.cell (show 2 < 5 by omega)
            have y3 := N6.out.cell (show 3 < 5 by omega)
            have y4 := N6.out.cell (show 4 < 5 by omega)
            have hvq := fun w => Qu.eq_row (f 0) (f 1) (f 2) (f 3) (f 4) w
            go_wp2_with fail
            clear x0 x1 x2 x3 x4 y0 y1 y2 y3 y4 hvq N6 GF G6 EG hlt hk z0 z1 z2 I6 D6
            go_loopw [10] (fun i wr => ∃ k : Nat, k ≤ o1.length ∧ i = .int .i64 k ∧ Below w5.heap.size w5 wr) (fun i _ => o1.length - (intOf i).toNat)
            case atStart => exact ⟨0, by omega, rfl, B6.out⟩
            case round =>
              clear B6
              obtain ⟨k, hk, rfl, hb⟩ := hrel
              have I6 := Lib.hid (HI.out wr hb)
              have D6 := Lib.hid (HD.out wr hb)
              have B6 := Lib.hid hb
              clear hb
              obtain ⟨z0, z1, z2⟩ := HW.out wr D6.out
              by_cases hlt : k < o1.length
              · obtain ⟨x, hx⟩ : ∃ x, o1[k]? = some x := ⟨o1[k], List.getElem?_eq_getElem hlt⟩
                obtain ⟨q1, q2, q3, q4, q5, q6, q7⟩ := sums_of GP.out hfew hx
                have KN := Lib.hid (fun W' (hb : Below W.heap.size W W') (hi : IntsAt W' A1 c1 p) => counts_any A B C A1 ca cb cc c1 n1 p1 o1 p (k : Int) W' (HS.out W' hb) hi)
                have KS := Lib.hid (fun W' (hb : Below W.heap.size W W') (hi : IntsAt W' A1 c1 p) => spread_any A B C A1 ca cb cc c1 n1 p1 o1 p (k : Int) W' (HS.out W' hb) hi)
                have KL := Lib.hid (fun W' (hb : Below W.heap.size W W') (hi : IntsAt W' A1 c1 p) => placed_any A B C A1 ca cb cc c1 n1 p1 o1 p (k : Int) W' (HS.out W' hb) hi)
                have KD := Lib.hid (fun W' (hb : Below W.heap.size W W') => domains_any A B C ca cb cc n1 p1 o1 x.topo W' (HS.out W' hb))
                generalize countsF n1 p1 o1 p (k : Int) = cnt at KN q1 q3 q6
                generalize spreadF n1 p1 o1 p (k : Int) = spr at KS q2 q5 q7
                generalize placedF n1 p1 o1 p (k : Int) = pl at KL q3 q4 q5
                have hdl : spr.length = (domsF n1 p1 o1 x.topo).length := q2
                rw [q1] at KN
                rw [← hdl] at KD
                obtain ⟨d, hd⟩ : ∃ d, spr.length = d := ⟨_, rfl⟩
                rw [hd] at KS KD
                have QC := Lib.hid q1
                have QS := Lib.hid hd
                have QN := Lib.hid (And.intro q3 q6)
                have QM := Lib.hid (And.intro q5 q7)
                clear q1 q2 q3 q5 q6 q7 hdl hd
                have HX := Lib.hid hx
                have hk2 : (k : Int) < (o1.length : Int) := by omega
                have hk0 : (0 : Int) ≤ (k : Int) := by omega
                have D0 : Hid (Below wr.heap.size wr wr) := Lib.hid (Below.refl _ _)
                have D1 : Hid (Below wr.heap.size wr wr.drew) := Lib.hid D0.out.drew
                have HR := Lib.hid (fun W' (hb : Below wr.heap.size wr W') => D6.out.trans (hb.mono D6.out.size))
                have HJ := Lib.hid (fun W' (hb : Below wr.heap.size wr W') => I6.out.below hb)
                have w0 := And.intro z0 (And.intro z1 z2)
                have w1 := HW.out wr.drew D6.out.drew
                clear hx
                go_upto_region 23 with fail
                go_cut [13, 14] (fun v13 v14 wc => ∃ A3 c3 A4 c4, v13 = .slice A3 n1.length c3 ∧ v14 = .slice A4 d c4 ∧ IntsAt wc A3 c3 cnt ∧ IntsAt wc A4 c4 spr ∧ Below wr.heap.size wr wc)
                case first =>
                  go_region_held3 (fun w' => w'.cell? ⟨w.heap.size, 0, none⟩ = some (.slice A n1.length ca) ∧ w'.cell? ⟨w.heap.size, 1, none⟩ = some (.slice B p1.length cb) ∧ w'.cell? ⟨w.heap.size, 2, none⟩ = some (.slice C o1.length cc))
                    (first | (with_reducible exact w1) | (with_reducible exact w0) | (with_reducible exact z3) | (with_reducible exact z4) | go_keep)
                    (first
                      | (go_at_call 23; (with_reducible refine (KN.out _ (by first | exact HR.out _ D1.out | exact D6.out) (by first | exact HJ.out _ D1.out | exact I6.out)).mono ?_); rintro e w3 ⟨v3, rfl, ho3, hb3⟩; have D3 : Hid (Below wr.heap.size wr w3) := Lib.hid (D1.out.trans (hb3.mono (by first | exact D1.out.size | exact D0.out.size))); obtain ⟨A3, c3, rfl, _⟩ := La.own_slice ho3; have I3 : Hid (IntsAt w3 A3 c3 cnt) := Lib.hid (IntsAt.own (by rw [QC.out]; exact ho3)); clear ho3 hb3; have z3 := HW.out w3 (HR.out _ D3.out))
                      | (go_at_call 25; (with_reducible refine (KS.out _ (HR.out _ D3.out) (HJ.out _ D3.out)).mono ?_); rintro e w4 ⟨v4, rfl, ho4, hb4⟩; have D4 : Hid (Below wr.heap.size wr w4) := Lib.hid (D3.out.trans (hb4.mono D3.out.size)); obtain ⟨A4, c4, rfl, _⟩ := La.own_slice ho4; have I4 : Hid (IntsAt w4 A4 c4 spr) := Lib.hid (IntsAt.own (by rw [QS.out]; exact ho4)); have I5 := Lib.hid (I3.out.below hb4); clear ho4 hb4; have z4 := HW.out w4 (HR.out _ D4.out))
                      | skip)
                  all_goals
                    go_wp2_with fail
                    go_meet
                    exact ⟨_, _, _, _, rfl, rfl, I5.out, I4.out, D4.out⟩
                case rest =>
                  obtain ⟨A3, c3, A4, c4, rfl, rfl, i3, i4, hb⟩ := hcut
                  have I3 := Lib.hid i3
                  have I4 := Lib.hid i4
                  have Dc := Lib.hid hb
                  have HM : Hid (pl ≤ 1000 ∧ cnt.sum = pl ∧ spr.sum ≤ pl) := Lib.hid ⟨q4, QN.out.1, QM.out.1⟩
                  have hdm : d ≤ 9223372036854775807 := by
                    have h1 := I4.out.le
                    have h2 := I4.out.most
                    have h3 := QS.out
                    omega
                  clear i3 i4 hb D0 D1 w0 w1 z0 z1 z2 KN KS q4
                  go_wp2_with fail
                  go_loopw [11, 15] (fun s i w2 => ∃ m : Nat, m ≤ n1.length ∧ i = .int .i64 m ∧ s = .int .i64 ((cnt.take m).sum) ∧ Below wc.heap.size wc w2) (fun _ i _ => n1.length - (intOf i).toNat)
                  case atStart => refine ⟨0, by omega, rfl, ?_, ?_⟩ <;> first | exact Below.refl _ _ | trivial | simp
                  case round =>
                    obtain ⟨m, hm, rfl, rfl, hw⟩ := hrel
                    have HWm := Lib.hid hw
                    by_cases hmlt : m < n1.length
                    · obtain ⟨z, hz⟩ : ∃ z, cnt[m]? = some z := ⟨cnt[m]'(by have := QC.out; omega), List.getElem?_eq_getElem _⟩
                      obtain ⟨b3, o3, hA3, hb3, cz⟩ := atI (I3.out.below hw).cells hz
                      subst hA3
                      have m0 : (0 : Int) ≤ (m : Int) := by omega
                      have m1 : (m : Int) < (n1.length : Int) := by omega
                      have hT : (cnt.take (m + 1)).sum = (cnt.take m).sum + z := by
                        obtain ⟨hl, rfl⟩ := List.getElem?_eq_some_iff.1 hz
                        rw [List.take_succ_eq_append_getElem hl, List.sum_append]
                        simp
                      have t1 := take_sum cnt QN.out.2 (m + 1)
                      rw [hT] at t1
                      have HTT := Lib.hid hT
                      obtain ⟨T, hTe⟩ : ∃ T, (cnt.take m).sum = T := ⟨_, rfl⟩
                      rw [hTe] at t1 HTT
                      rw [hTe]
                      have t2 : T + z ≤ 1000 := by have := HM.out; omega
                      clear hTe hT hz hw
                      go_wp2
                      go_roundw
                      case rel => exact ⟨m + 1, by omega, by go_num, by rw [HTT.out], HWm.out⟩
                      case measure => simp [intOf]; omega
                    · obtain rfl : m = n1.length := by omega
                      clear hw
                      have hS : (cnt.take n1.length).sum = pl := by
                        rw [← QC.out, List.take_length]
                        exact HM.out.2.1
                      rw [hS]
                      clear hS hm hmlt
                      go_wp2_with fail
                      go_loopw [12, 16] (fun s i w2 => ∃ m : Nat, m ≤ d ∧ i = .int .i64 m ∧ s = .int .i64 ((spr.take m).sum) ∧ Below wc.heap.size wc w2) (fun _ i _ => d - (intOf i).toNat)
                      case atStart => refine ⟨0, by omega, rfl, ?_, ?_⟩ <;> first | exact HWm.out | trivial | simp
                      case round =>
                        obtain ⟨m, hm, rfl, rfl, hw⟩ := hrel
                        have HWm := Lib.hid hw
                        by_cases hmlt : m < d
                        · obtain ⟨z, hz⟩ : ∃ z, spr[m]? = some z := ⟨spr[m]'(by have := QS.out; omega), List.getElem?_eq_getElem _⟩
                          obtain ⟨b4, o4, hA4, hb4, cz⟩ := atI (I4.out.below hw).cells hz
                          subst hA4
                          have m0 : (0 : Int) ≤ (m : Int) := by omega
                          have m1 : (m : Int) < (d : Int) := by omega
                          have hT : (spr.take (m + 1)).sum = (spr.take m).sum + z := by
                            obtain ⟨hl, rfl⟩ := List.getElem?_eq_some_iff.1 hz
                            rw [List.take_succ_eq_append_getElem hl, List.sum_append]
                            simp
                          have t1 := take_sum spr QM.out.2 (m + 1)
                          rw [hT] at t1
                          have HTT := Lib.hid hT
                          obtain ⟨T, hTe⟩ : ∃ T, (spr.take m).sum = T := ⟨_, rfl⟩
                          rw [hTe] at t1 HTT
                          rw [hTe]
                          have t2 : T + z ≤ 1000 := by have := HM.out; omega
                          clear hTe hT hz hw
                          go_wp2
                          go_roundw
                          case rel => exact ⟨m + 1, by omega, by go_num, by rw [HTT.out], HWm.out⟩
                          case measure => simp [intOf]; omega
                        · obtain rfl : m = d := by omega
                          clear hw
                          have hS : (spr.take m).sum = spr.sum := by rw [← QS.out, List.take_length]
                          rw [hS]
                          have hgt : ¬ pl < spr.sum := by
                            have := HM.out.2.2
                            omega
                          generalize spr.sum = S at hgt HM ⊢
                          clear hS hm hmlt
                          have E0 := Lib.hid (HR.out _ (Dc.out.trans (HWm.out.mono Dc.out.size)))
                          have E1 := Lib.hid E0.out.drew
                          have P0 := Lib.hid (HJ.out _ (Dc.out.trans (HWm.out.mono Dc.out.size)))
                          obtain ⟨bo, oo, hAo, hbo, u0, u1, co, u3, u4⟩ := atO (HS.out _ E0.out).o HX.out
                          subst hAo
                          have FK := Lib.hid (fun W' (hb : Below wr.heap.size wr W') => (show (W'.cell? ⟨w.heap.size, 0, none⟩ = some (.slice A n1.length ca) ∧ W'.cell? ⟨w.heap.size, 1, none⟩ = some (.slice B p1.length cb) ∧ W'.cell? ⟨w.heap.size, 2, none⟩ = some (.slice (some ⟨bo, oo, none⟩) o1.length cc)) ∧ W'.cell? ⟨bo, oo + k * 5 + 2, none⟩ = some (strV x.topo) from ⟨HW.out W' (E0.out.trans (hb.mono E0.out.size)), (hb.cell (p := ⟨bo, oo + k * 5 + 2, none⟩) hbo).trans co⟩))
                          have s0 := FK.out wr (Below.refl _ _)
                          have s1 := FK.out wr.drew (Below.refl _ _).drew
                          clear u0 u1 co u3 u4 hbo
                          go_upto_region 32 with fail
                          go_cut [146] (fun v wd => v = .bool false ∧ Below wr.heap.size wr wd)
                          case first =>
                            go_region_held3 (fun w' => (w'.cell? ⟨w.heap.size, 0, none⟩ = some (.slice A n1.length ca) ∧ w'.cell? ⟨w.heap.size, 1, none⟩ = some (.slice B p1.length cb) ∧ w'.cell? ⟨w.heap.size, 2, none⟩ = some (.slice (some ⟨bo, oo, none⟩) o1.length cc)) ∧ w'.cell? ⟨bo, oo + k * 5 + 2, none⟩ = some (strV x.topo))
                              (first | (with_reducible exact s1) | (with_reducible exact s0) | (with_reducible exact s3) | (with_reducible exact s4) | go_keep)
                              (first
                                | (go_at_call 33; (with_reducible refine (KD.out _ (by first | exact E1.out | exact E0.out)).mono ?_); rintro e w3 ⟨v3, rfl, ho3, hb3⟩; have D3 : Hid (Below wr.heap.size wr w3) := Lib.hid (by first | exact hb3 | exact (Below.drew (Below.refl _ _)).trans hb3); obtain ⟨A5, c5, rfl, _⟩ := La.own_slice ho3; clear ho3 hb3; have s3 := FK.out w3 D3.out)
                                | (go_at_call 27; (with_reducible refine (KL.out _ (E0.out.trans (D3.out.mono E0.out.size)) (P0.out.below D3.out)).mono ?_); rintro e w4 ⟨rfl, hb4⟩; have D4 : Hid (Below wr.heap.size wr w4) := Lib.hid (D3.out.trans (hb4.mono D3.out.size)); clear hb4; have s4 := FK.out w4 D4.out)
                                | skip)
                            all_goals
                              go_wp2_with fail
                              go_meet
                              exact ⟨by simp [hgt], by first | exact D4.out | exact D4.out.drew⟩
                          case rest =>
                            obtain ⟨rfl, hb⟩ := hcut
                            have B9 := Lib.hid (B6.out.trans ((Dc.out.trans ((HWm.out.trans (hb.mono HWm.out.size)).mono Dc.out.size)).mono B6.out.size))
                            clear hb s0 s1
                            go_wp2
                            go_roundw
                            case rel => exact ⟨k + 1, by omega, by go_num, B9.out⟩
                            case measure => simp [intOf]; omega
              · obtain rfl : k = o1.length := by omega
                go_wp2
                go_ret
                exact ⟨rfl, HT.out _ D6.out⟩
end Go.Proofs.YtoankplhahbgkaaGreat
