/- Used, Counts, Spread and Placed answer as the document says: the law's walk. Condition: the arguments lie in memory. -/
import Derived.Test.YtoankplhahbgkaaGreatC10

namespace Go.Proofs.YtoankplhahbgkaaGreat
open Go.RowKit Go.Maps Go.Sort

set_option maxRecDepth 100000 in
set_option maxHeartbeats 2000000 in
theorem spreadR_any (A B C P : Option Addr) (ca cb cc cp : Nat) (ns : List NodeD) (ps : List PodD) (os : List OwnD) (p : List Int) (k : Int) (w : World) (h : SnapAt w A B C ca cb cc ns ps os) (hp : IntsAt w P cp p) :
    Calls Tryz.prog 26 #[snapV A B C ca cb cc ns ps os, .slice P p.length cp, .int .i64 k] w fun e w' => ∃ v, e = .returned v ∧ w'.ownsRow w.heap.size 3 1 v (spreadF ns ps os p k).length (intsC (spreadF ns ps os p k)) ∧ Below w.heap.size w w' := by
  have B0 : Hid (Below w.heap.size w (w.alloc (.cells (snapC A B C ca cb cc ns ps os) 26))) := Lib.hid (below1 w _)
  have S0 : Hid (Blk (w.alloc (.cells (snapC A B C ca cb cc ns ps os) 26)) w.heap.size (snapC A B C ca cb cc ns ps os) 26) := Lib.hid (Blk.new w _ _)
  have KA := Lib.hid (asked7_any A B C P ca cb cc cp ns ps os p k _ (h.below B0.out) (hp.below B0.out))
  cases hR : ownerB ns ps os p k with
  | false =>
    have HC : Hid (spreadF ns ps os p k = []) := Lib.hid (by unfold spreadF; rw [hR]; rfl)
    rw [hR] at KA
    clear hR h hp
    go_enter Tryz.func26, Tryz.ntmps26
    go_wp2_with fail
    refine (KA.out).mono ?_
    rintro e w1 ⟨rfl, hb⟩
    have B1 := Lib.hid (B0.out.trans (hb.mono B0.out.size))
    clear hb KA
    go_wp2
    go_ret
    rw [HC.out]
    exact ⟨_, rfl, World.ownsRow_nil _ _ _ _, B1.out⟩
  | true =>
    obtain ⟨ko, xo, rfl, hxo, hE, _, _, hC⟩ := owned_is hR
    have HC := Lib.hid hC
    have K2 := Lib.hid (fun w' (hb : Below w.heap.size w w') => spreadOf7_any A B C P ca cb cc cp ns ps os p ko xo hxo hE w' (h.below hb) (hp.below hb))
    rw [hR] at KA
    clear hR h hp hE hxo hC
    generalize rowD (spreadD ns xo.topo p (offL p (membersF ps xo.name))) = L at HC K2
    go_enter Tryz.func26, Tryz.ntmps26
    go_wp2_with fail
    refine (KA.out).mono ?_
    rintro e w1 ⟨rfl, hb⟩
    have S1 := Lib.hid (S0.out.below hb S0.out.lt)
    have B1 := Lib.hid (B0.out.trans (hb.mono B0.out.size))
    clear hb KA B0 S0
    have s0 : w1.cell? ⟨w.heap.size, 0, none⟩ = some (.slice A ns.length ca) := Blk.cell S1.out 0
    have s1 : w1.cell? ⟨w.heap.size, 1, none⟩ = some (.slice B ps.length cb) := Blk.cell S1.out 1
    have s2 : w1.cell? ⟨w.heap.size, 2, none⟩ = some (.slice C os.length cc) := Blk.cell S1.out 2
    go_wp2_with fail
    refine (K2.out _ B1.out).mono ?_
    rintro e w2 ⟨v, rfl, ho, hb⟩
    have O2 := Lib.hid ho
    have B2 := Lib.hid (B1.out.trans (hb.mono B1.out.size))
    have HS := Lib.hid B1.out.size
    clear ho hb K2 s0 s1 s2 S1 B1
    go_wp2
    go_ret
    rw [HC.out]
    exact ⟨v, rfl, own_base O2.out HS.out, B2.out⟩


theorem counts_few {ns : List NodeD} {ps : List PodD} {os : List OwnD} {p : List Int} {k : Int} (hln : ns.length ≤ 1000) : (countsF ns ps os p k).length ≤ 1000 := by
  unfold countsF
  split
  · rw [cntL_len]; exact hln
  · simp
theorem spread_few {ns : List NodeD} {ps : List PodD} {os : List OwnD} {p : List Int} {k : Int} (hln : ns.length ≤ 1000) (hlp : ps.length ≤ 1000) : (spreadF ns ps os p k).length ≤ 1000 := by
  cases hR : ownerB ns ps os p k with
  | false =>
    unfold spreadF
    rw [hR]
    simp
  | true =>
    obtain ⟨ko, xo, rfl, hxo, hE, _, _, hC⟩ := owned_is hR
    rw [hC, spread_is ns xo.topo p (offL p (membersF ps xo.name)) (Nat.le_trans (offL_len p _) (Nat.le_trans (membersU_len ps xo.name _) hlp)) (off_in hE xo.name), List.length_map]
    exact Nat.le_trans (domsR_len ns xo.topo ns.length) hln
theorem eqSame_any (A B : Option Addr) (ca cb : Nat) (l : List Int) (w : World) (hl : l.length ≤ 9223372036854775807) (ha : IntsAt w A ca l) (hb : IntsAt w B cb l) :
    Calls Tryz.prog 22 #[.slice A l.length ca, .slice B l.length cb] w fun e w' => e = .returned (.bool true) ∧ Below w.heap.size w w' := by
  have q := eqInts_anyL A B ca cb l l w hl ha hb
  rwa [decide_eq_true (rfl : l = l)] at q

set_option maxRecDepth 100000 in
set_option maxHeartbeats 16000000 in
theorem tells_law (A B C P : Option Addr) (ca cb cc cp : Nat) (ns : List NodeD) (ps : List PodD) (os : List OwnD) (p : List Int) (at_ : Int) (w : World) (h : SnapIn w A B C ca cb cc ns ps os) (hp : NumsIn w P cp p) :
    Calls Tryz.prog 3 #[snapV A B C ca cb cc ns ps os, .slice P p.length cp, .int .i64 at_] w fun e w' => e = .returned (.bool true) ∧ Below w.heap.size w w' := by
  have HP9 := Lib.hid hp
  clear hp
  have B0 : Hid (Below w.heap.size w (w.alloc (.cells (snapC A B C ca cb cc ns ps os) 26))) := Lib.hid (below1 w _)
  have S0 : Hid (Blk (w.alloc (.cells (snapC A B C ca cb cc ns ps os) 26)) w.heap.size (snapC A B C ca cb cc ns ps os) 26) := Lib.hid (Blk.new w _ _)
  have H := Lib.hid (h.take)
  have KW := Lib.hid works_any
  have KC := Lib.hid (cut_any A B C ca cb cc ns ps os _ (h.below B0.out))
  generalize ns.take 12 = n1 at H KC
  generalize ps.take 30 = p1 at H KC
  generalize os.take 12 = o1 at H KC
  clear h
  go_enter Tryz.func3, Tryz.ntmps3
  go_wp2_with fail
  refine (KC.out).mono ?_
  rintro e w2 ⟨rfl, hb2⟩
  have S2 : Hid (Blk w2 w.heap.size (snapC A B C ca cb cc ns ps os) 26) := Lib.hid (S0.out.below hb2 S0.out.lt)
  have B2 : Hid (Below w.heap.size w w2) := Lib.hid (B0.out.trans (hb2.mono B0.out.size))
  clear hb2 S0 B0 KC
  have r0 : w2.cell? ⟨w.heap.size, 0, none⟩ = some (.slice A ns.length ca) := Blk.cell S2.out 0
  have r1 : w2.cell? ⟨w.heap.size, 1, none⟩ = some (.slice B ps.length cb) := Blk.cell S2.out 1
  have r2 : w2.cell? ⟨w.heap.size, 2, none⟩ = some (.slice C os.length cc) := Blk.cell S2.out 2
  have f0 := Blk.free S2.out 0
  have f1 := Blk.free S2.out 1
  have f2 := Blk.free S2.out 2
  have S3 : Hid (Blk (((w2.setCell ⟨w.heap.size, 0, none⟩ (.slice A n1.length ca)).setCell ⟨w.heap.size, 1, none⟩ (.slice B p1.length cb)).setCell ⟨w.heap.size, 2, none⟩ (.slice C o1.length cc)) w.heap.size (snapC A B C ca cb cc n1 p1 o1) 26) := Lib.hid (((S2.out.set 0 _).set 1 _).set 2 _)
  have B3 : Hid (Below w.heap.size w (((w2.setCell ⟨w.heap.size, 0, none⟩ (.slice A n1.length ca)).setCell ⟨w.heap.size, 1, none⟩ (.slice B p1.length cb)).setCell ⟨w.heap.size, 2, none⟩ (.slice C o1.length cc))) := Lib.hid (((B2.out.setCell (p := ⟨w.heap.size, 0, none⟩) (Nat.le_refl _) _).setCell (p := ⟨w.heap.size, 1, none⟩) (Nat.le_refl _) _).setCell (p := ⟨w.heap.size, 2, none⟩) (Nat.le_refl _) _)
  go_upto_region 2 with fail
  clear r0 r1 r2 f0 f1 f2
  generalize (((w2.setCell ⟨w.heap.size, 0, none⟩ (.slice A n1.length ca)).setCell ⟨w.heap.size, 1, none⟩ (.slice B p1.length cb)).setCell ⟨w.heap.size, 2, none⟩ (.slice C o1.length cc)) = W at S3 B3 ⊢
  clear S2 B2
  have HW := Lib.hid (fun W' (hb : Below W.heap.size W W') => (show W'.cell? ⟨w.heap.size, 0, none⟩ = some (.slice A n1.length ca) ∧ W'.cell? ⟨w.heap.size, 1, none⟩ = some (.slice B p1.length cb) ∧ W'.cell? ⟨w.heap.size, 2, none⟩ = some (.slice C o1.length cc) from ⟨Blk.cell (S3.out.below hb S3.out.lt) 0, Blk.cell (S3.out.below hb S3.out.lt) 1, Blk.cell (S3.out.below hb S3.out.lt) 2⟩))
  have HG : Hid (w.heap.size < W.heap.size) := Lib.hid S3.out.lt
  have HT := Lib.hid (fun W' (hb : Below W.heap.size W W') => B3.out.trans (hb.mono B3.out.size))
  have HS := Lib.hid (fun W' (hb : Below W.heap.size W W') => H.out.below (HT.out W' hb))
  have hln := H.out.ln
  have hlp := H.out.lp
  have K1 := Lib.hid (copyInts_any P cp p W (HP9.out.below B3.out))
  have HPW := Lib.hid (HP9.out.below B3.out)
  clear H B3 S3 HP9
  go_wp2_with fail
  refine (K1.out).mono ?_
  rintro e V ⟨v, rfl, ho, hb⟩
  obtain ⟨Q, cq, rfl, _⟩ := La.own_slice ho
  have HfewP := Lib.hid HPW.out.few
  have HQ := Lib.hid (fun W' (hb : Below V.heap.size V W') => (IntsAt.own ho).below hb)
  have HP := Lib.hid (fun W' (hb' : Below V.heap.size V W') => (HPW.out.below hb).ints.below hb')
  have HB0 := Lib.hid hb
  clear ho hb K1 HPW
  have HZ := Lib.hid (fun W' (hb : Below V.heap.size V W') => HW.out W' (HB0.out.trans (hb.mono HB0.out.size)))
  have HTV := Lib.hid (fun W' (hb : Below V.heap.size V W') => HT.out W' (HB0.out.trans (hb.mono HB0.out.size)))
  have HSV := Lib.hid (fun W' (hb : Below V.heap.size V W') => HS.out W' (HB0.out.trans (hb.mono HB0.out.size)))
  clear HW HT HS HB0 HG
  have KC1 := Lib.hid (fun W' (hb : Below V.heap.size V W') => pcheck_any A B C Q ca cb cc cq n1 p1 o1 p W' (HSV.out W' hb) (HQ.out W' hb))
  have KC2 := Lib.hid (fun W' (hb : Below V.heap.size V W') => check7_any A B C P ca cb cc cp n1 p1 o1 p W' (HSV.out W' hb) (HP.out W' hb))
  generalize placeE n1 p1 o1 p = E at KC1 KC2
  have HB : Hid (Below V.heap.size V V.drew) := Lib.hid (Below.refl _ _).drew
  obtain ⟨z0, z1, z2⟩ := HZ.out _ HB.out
  have hEE : (E != E) = false := by simp
  go_upto_region 3 with fail
  go_cut [20] (fun v wc => v = .bool false ∧ Below V.heap.size V wc)
  case first =>
    go_region_held3 (fun w' => w'.cell? ⟨w.heap.size, 0, none⟩ = some (.slice A n1.length ca) ∧ w'.cell? ⟨w.heap.size, 1, none⟩ = some (.slice B p1.length cb) ∧ w'.cell? ⟨w.heap.size, 2, none⟩ = some (.slice C o1.length cc)) (first | exact ⟨z0, z1, z2⟩ | exact ⟨by assumption, by assumption, by assumption⟩)
      (first
        | (go_at_call 18
           refine (KC1.out _ HB.out).mono ?_
           rintro e wA ⟨rfl, hbA⟩
           have HB := Lib.hid (HB.out.trans (hbA.mono HB.out.size))
           obtain ⟨z0, z1, z2⟩ := HZ.out _ HB.out
           clear hbA)
        | (go_at_call 19
           refine (KC2.out _ HB.out).mono ?_
           rintro e wA ⟨rfl, hbA⟩
           have HB := Lib.hid (HB.out.trans (hbA.mono HB.out.size))
           obtain ⟨z0, z1, z2⟩ := HZ.out _ HB.out
           clear hbA))
    all_goals
      go_wp2_with fail
      go_meet
      exact ⟨by first | rfl | trivial, HB.out⟩
  case rest =>
    obtain ⟨rfl, hbc⟩ := hcut
    clear HB z0 z1 z2 KC1 KC2 hEE
    have HBC := Lib.hid hbc
    clear hbc
    go_wp2_with fail
    go_loopw [8] (fun i wr => ∃ k : Nat, k ≤ 9 ∧ i = .int .i64 k ∧ Below V.heap.size V wr) (fun i _ => 9 - (intOf i).toNat)
    case atStart => exact ⟨0, by omega, rfl, HBC.out⟩
    case round =>
      clear HBC
      obtain ⟨k, hk, rfl, hbw⟩ := hrel
      have HB := Lib.hid hbw
      clear hbw
      by_cases hlt : k < 9
      case neg =>
        obtain rfl : k = 9 := by omega
        have KE := Lib.hid (eqSame_any Q P cq cp p wr (by have := HfewP.out; omega) (HQ.out _ HB.out) (HP.out _ HB.out))
        go_wp2_with fail
        refine (KE.out).mono ?_
        rintro e w8 ⟨rfl, hb8⟩
        have HB8 := Lib.hid (HB.out.trans (hb8.mono HB.out.size))
        have KW2 := Lib.hid (KW.out w8)
        clear hb8 KE
        go_wp2_with fail
        refine (KW2.out).mono ?_
        rintro e w9 ⟨rfl, hb9⟩
        have D9 := Lib.hid (HTV.out _ (HB8.out.trans (hb9.mono HB8.out.size)))
        clear hb9
        go_wp2
        go_ret
        exact ⟨rfl, D9.out⟩
      have k0 : (0 : Int) ≤ (k : Int) := by omega
      have k1 : (k : Int) < 9 := by omega
      have k3 : decide (k < 9) = true := decide_eq_true hlt
      go_upto_if 27 with fail
      go_cut [9] (fun v wc => (∃ n : Int, v = .int .i64 n) ∧ wc = wr)
      case first =>
        by_cases hk0 : k = 0
        · subst hk0
          go_wp2_with fail
          go_meet
          exact ⟨⟨_, rfl⟩, rfl⟩
        · have e1 : (0 : Int) < (k : Int) := by omega
          have e2 : decide (0 < k) = true := decide_eq_true (by omega)
          have e3 : 0 < k := by omega
          go_wp2_with fail
          go_meet
          exact ⟨⟨_, rfl⟩, rfl⟩
      case rest =>
        obtain ⟨⟨n, rfl⟩, rfl⟩ := hcut
        have KU1 := Lib.hid (fun W' (hb : Below V.heap.size V W') => used_any A B C Q ca cb cc cq n1 p1 o1 p n W' (HSV.out W' hb) (HQ.out W' hb))
        have KU2 := Lib.hid (fun W' (hb : Below V.heap.size V W') => used7_any A B C P ca cb cc cp n1 p1 o1 p n W' (HSV.out W' hb) (HP.out W' hb))
        have KN1 := Lib.hid (fun W' (hb : Below V.heap.size V W') => counts_any A B C Q ca cb cc cq n1 p1 o1 p n W' (HSV.out W' hb) (HQ.out W' hb))
        have KN2 := Lib.hid (fun W' (hb : Below V.heap.size V W') => countsR_any A B C P ca cb cc cp n1 p1 o1 p n W' (HSV.out W' hb) (HP.out W' hb))
        have KS1 := Lib.hid (fun W' (hb : Below V.heap.size V W') => spread_any A B C Q ca cb cc cq n1 p1 o1 p n W' (HSV.out W' hb) (HQ.out W' hb))
        have KS2 := Lib.hid (fun W' (hb : Below V.heap.size V W') => spreadR_any A B C P ca cb cc cp n1 p1 o1 p n W' (HSV.out W' hb) (HP.out W' hb))
        have KL1 := Lib.hid (fun W' (hb : Below V.heap.size V W') => placed_any A B C Q ca cb cc cq n1 p1 o1 p n W' (HSV.out W' hb) (HQ.out W' hb))
        have KL2 := Lib.hid (fun W' (hb : Below V.heap.size V W') => placed7_any A B C P ca cb cc cp n1 p1 o1 p n W' (HSV.out W' hb) (HP.out W' hb))
        have hNl : (countsF n1 p1 o1 p n).length ≤ 9223372036854775807 := by have := counts_few (ps := p1) (os := o1) (p := p) (k := n) hln; omega
        have hSl : (spreadF n1 p1 o1 p n).length ≤ 9223372036854775807 := by have := spread_few (os := o1) (p := p) (k := n) hln hlp; omega
        generalize usedF n1 p1 o1 p n = U at KU1 KU2
        generalize countsF n1 p1 o1 p n = Lc at KN1 KN2 hNl
        generalize spreadF n1 p1 o1 p n = Ls at KS1 KS2 hSl
        generalize placedF n1 p1 o1 p n = m at KL1 KL2
        have hvg := Qu.vec_guard
        have hvq := fun w => Qu.eq_row (U 0) (U 1) (U 2) (U 3) (U 4) w
        have hmm : (m != m) = false := by simp
        have HB : Hid (Below V.heap.size V wc.drew) := Lib.hid HB.out.drew
        obtain ⟨z0, z1, z2⟩ := HZ.out _ HB.out
        go_upto_region 11 with fail
        go_region_held3 (fun w' => w'.cell? ⟨w.heap.size, 0, none⟩ = some (.slice A n1.length ca) ∧ w'.cell? ⟨w.heap.size, 1, none⟩ = some (.slice B p1.length cb) ∧ w'.cell? ⟨w.heap.size, 2, none⟩ = some (.slice C o1.length cc)) (first | exact ⟨z0, z1, z2⟩ | exact ⟨by assumption, by assumption, by assumption⟩)
          (first
            | (go_at_call 20
               with_reducible refine (KU1.out _ HB.out).mono ?_
               rintro e wA ⟨rfl, hbA⟩
               (try have TA := Lib.hid (TA.out.below hbA))
               (try have TB := Lib.hid (TB.out.below hbA))
               have HB := Lib.hid (HB.out.trans (hbA.mono HB.out.size))
               obtain ⟨z0, z1, z2⟩ := HZ.out _ HB.out
               clear hbA)
            | (go_at_call 21
               with_reducible refine (KU2.out _ HB.out).mono ?_
               rintro e wA ⟨rfl, hbA⟩
               (try have TA := Lib.hid (TA.out.below hbA))
               (try have TB := Lib.hid (TB.out.below hbA))
               have HB := Lib.hid (HB.out.trans (hbA.mono HB.out.size))
               obtain ⟨z0, z1, z2⟩ := HZ.out _ HB.out
               clear hbA)
            | (go_at_call 23
               with_reducible refine (KN1.out _ HB.out).mono ?_
               rintro e wA ⟨vA, rfl, hoA, hbA⟩
               obtain ⟨QTA, cTA, rfl, _⟩ := La.own_slice hoA
               (try have TB := Lib.hid (TB.out.below hbA))
               have TA := Lib.hid (IntsAt.own hoA)
               have HB := Lib.hid (HB.out.trans (hbA.mono HB.out.size))
               obtain ⟨z0, z1, z2⟩ := HZ.out _ HB.out
               clear hoA hbA)
            | (go_at_call 24
               with_reducible refine (KN2.out _ HB.out).mono ?_
               rintro e wA ⟨vA, rfl, hoA, hbA⟩
               obtain ⟨QTB, cTB, rfl, _⟩ := La.own_slice hoA
               (try have TA := Lib.hid (TA.out.below hbA))
               have TB := Lib.hid (IntsAt.own hoA)
               have TE := Lib.hid (eqSame_any _ _ _ _ _ _ hNl TA.out TB.out)
               have HB := Lib.hid (HB.out.trans (hbA.mono HB.out.size))
               obtain ⟨z0, z1, z2⟩ := HZ.out _ HB.out
               clear hoA hbA)
            | (go_at_call 25
               with_reducible refine (KS1.out _ HB.out).mono ?_
               rintro e wA ⟨vA, rfl, hoA, hbA⟩
               obtain ⟨QTA, cTA, rfl, _⟩ := La.own_slice hoA
               (try have TB := Lib.hid (TB.out.below hbA))
               have TA := Lib.hid (IntsAt.own hoA)
               have HB := Lib.hid (HB.out.trans (hbA.mono HB.out.size))
               obtain ⟨z0, z1, z2⟩ := HZ.out _ HB.out
               clear hoA hbA)
            | (go_at_call 26
               with_reducible refine (KS2.out _ HB.out).mono ?_
               rintro e wA ⟨vA, rfl, hoA, hbA⟩
               obtain ⟨QTB, cTB, rfl, _⟩ := La.own_slice hoA
               (try have TA := Lib.hid (TA.out.below hbA))
               have TB := Lib.hid (IntsAt.own hoA)
               have TE := Lib.hid (eqSame_any _ _ _ _ _ _ hSl TA.out TB.out)
               have HB := Lib.hid (HB.out.trans (hbA.mono HB.out.size))
               obtain ⟨z0, z1, z2⟩ := HZ.out _ HB.out
               clear hoA hbA)
            | (go_at_call 27
               with_reducible refine (KL1.out _ HB.out).mono ?_
               rintro e wA ⟨rfl, hbA⟩
               (try have TA := Lib.hid (TA.out.below hbA))
               (try have TB := Lib.hid (TB.out.below hbA))
               have HB := Lib.hid (HB.out.trans (hbA.mono HB.out.size))
               obtain ⟨z0, z1, z2⟩ := HZ.out _ HB.out
               clear hbA)
            | (go_at_call 28
               with_reducible refine (KL2.out _ HB.out).mono ?_
               rintro e wA ⟨rfl, hbA⟩
               (try have TA := Lib.hid (TA.out.below hbA))
               (try have TB := Lib.hid (TB.out.below hbA))
               have HB := Lib.hid (HB.out.trans (hbA.mono HB.out.size))
               obtain ⟨z0, z1, z2⟩ := HZ.out _ HB.out
               clear hbA)
            | (go_at_call 22
               with_reducible refine (TE.out).mono ?_
               rintro e wA ⟨rfl, hbA⟩
               have HB := Lib.hid (HB.out.trans (hbA.mono HB.out.size))
               obtain ⟨z0, z1, z2⟩ := HZ.out _ HB.out
               clear hbA))
        all_goals
          go_wp2_with fail
          go_roundw
          case rel => exact ⟨k + 1, by omega, by go_num, HB.out⟩
          case measure => simp [intOf]; omega
end Go.Proofs.YtoankplhahbgkaaGreat
