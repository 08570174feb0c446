/- Each pod that Pack binds might be bound there when it was; nothing is worse: the law's walk. Condition: the arguments lie in memory. -/
import Derived.Test.YtmmokiaipfalmaaGreatC01

namespace Go.Proofs.YtmmokiaipfalmaaGreat
open Go.RowKit Go.Maps

set_option maxRecDepth 100000 in
set_option maxHeartbeats 16000000 in
theorem fitKeeps_law (A B C : Option Addr) (ca cb cc : Nat) (ns : List NodeD) (ps : List PodD) (os : List OwnD) (P D : Option Addr) (cp cd : Nat) (l pods : List Int) (w : World) (h : SnapIn w A B C ca cb cc ns ps os) (hp : IntsAt w P cp l) (hD : IntsAt w D cd pods) :
    Calls Tryz.prog 7 #[snapV A B C ca cb cc ns ps os, .slice P l.length cp, .slice D pods.length cd] w fun e w' => e = .returned (.bool true) ∧ Below w.heap.size w w' := by
  have HP := Lib.hid hp
  have HD9 : Hid (IntsAt w D cd (pods.take 40)) := Lib.hid (by
    refine ⟨fun j y hj => hD.cells j y ?_, Nat.le_trans (List.length_take_le' _ _) hD.le, hD.most⟩
    unfold intsC at hj ⊢
    rw [List.map_take] at hj
    have hjl := (List.getElem?_eq_some_iff.1 hj).1
    rw [List.getElem?_take] at hj
    split at hj
    · exact hj
    · cases hj)
  have hdc := hD.le
  have hm0 : (0 : Int) ≤ min (pods.length : Int) 40 := by omega
  have hm1 : min (pods.length : Int) 40 ≤ (cd : Int) := by omega
  have hm2 : Hid ((min (pods.length : Int) 40).toNat = (pods.take 40).length) := Lib.hid (by simp; omega)
  clear hp hD
  have B0 : Hid (Below w.heap.size w (w.alloc (.cells (snapC A B C ca cb cc ns ps os) 26))) := Lib.hid (below1 w _)
  have S0 : Hid (Blk (w.alloc (.cells (snapC A B C ca cb cc ns ps os) 26)) w.heap.size (snapC A B C ca cb cc ns ps os) 26) := Lib.hid (Blk.new w _ _)
  have H := Lib.hid (h.take)
  have KW := Lib.hid works14_any
  have HIN := Lib.hid h
  have hn12 : (ns.take 12).length ≤ 12 := List.length_take_le _ _
  have hp30 : (ps.take 30).length ≤ 30 := List.length_take_le _ _
  have ho12 : (os.take 12).length ≤ 12 := List.length_take_le _ _
  have KC := Lib.hid (fun W' (hb : Below w.heap.size w W') => cut14_any A B C ca cb cc ns ps os W' (HIN.out.low hb))
  generalize ns.take 12 = n1 at H KC hn12
  generalize ps.take 30 = p1 at H KC hp30
  generalize os.take 12 = o1 at H KC ho12
  clear h HIN
  generalize pods.take 40 = d1 at HD9 hm2
  go_enter Tryz.func7, Tryz.ntmps7
  go_upto_region 1 with fail
  try change Code.wp _ _ _ _ (w.alloc (.cells (snapC A B C ca cb cc ns ps os) 26))
  generalize (w.alloc (.cells (snapC A B C ca cb cc ns ps os) 26)) = W9 at B0 S0 ⊢
  go_wp2_with fail
  refine (KW.out _).mono ?_
  rintro e W0 ⟨rfl, hbk⟩
  have S0 := Lib.hid (S0.out.below hbk S0.out.lt)
  have B0 := Lib.hid (B0.out.trans (hbk.mono B0.out.size))
  clear hbk
  go_upto_region 3 with fail
  have z0 : W0.drew.cell? ⟨w.heap.size, 0, none⟩ = some (.slice A ns.length ca) := Blk.cell S0.out 0
  have z1 : W0.drew.cell? ⟨w.heap.size, 1, none⟩ = some (.slice B ps.length cb) := Blk.cell S0.out 1
  have z2 : W0.drew.cell? ⟨w.heap.size, 2, none⟩ = some (.slice C os.length cc) := Blk.cell S0.out 2
  have D0 : Hid (Below w.heap.size w W0.drew) := Lib.hid B0.out.drew
  go_cut [2] (fun u wc => u = .slice D d1.length cd ∧ Blk wc w.heap.size (snapC A B C ca cb cc n1 p1 o1) 26 ∧ Below w.heap.size w wc)
  case first =>
    try simp only [List.append]
    refine wp_region_held_drew (S := (fun _ => True)) (by kernel_rfl) trivial (fun hHeld => ?_)
    refine wpAnyH_take (i := 2) (oi := ⟨some 26, .move (.tmp 2), 27, "outright.go:64", #[], none⟩) (v := ?_) rfl (by kernel_rfl) (by kernel_rfl) (by kernel_rfl) (fun _ _ _ h => h) (Or.inl ⟨by rfl, ?_⟩) (by assumption) ?_
    rotate_left 1
    · (intro w hSw; (try dsimp only at hSw); go_simp; try with_reducible rfl)
    try simp only [Act.put, List.setIfInBounds_toArray, List.set_cons_zero, List.set_cons_succ]
    refine wpAnyH_take (i := 3) (oi := ⟨some 27, .move (.tmp 2), 27, "outright.go:64", #[], none⟩) (v := ?_) rfl (by kernel_rfl) (by kernel_rfl) (by kernel_rfl) (fun _ _ _ h => h) (Or.inl ⟨by rfl, ?_⟩) (by assumption) ?_
    rotate_left 1
    · (intro w hSw; (try dsimp only at hSw); go_simp; try with_reducible rfl)
    try simp only [Act.put, List.setIfInBounds_toArray, List.set_cons_zero, List.set_cons_succ]
    refine wpAnyH_take (i := 4) (oi := ⟨some 28, .call { callee := .builtin .len, args := #[.tmp 27], argTypes := #[27] }, 3, "outright.go:64", #[⟨3, .data⟩], none⟩) (v := ?_) rfl (by kernel_rfl) (by kernel_rfl) (by kernel_rfl) (fun _ _ _ h => h) (Or.inl ⟨by rfl, ?_⟩) (by assumption) ?_
    rotate_left 1
    · (intro w hSw; (try dsimp only at hSw); go_simp; try with_reducible rfl)
    try simp only [Act.put, List.setIfInBounds_toArray, List.set_cons_zero, List.set_cons_succ]
    refine wpAnyH_take (i := 5) (oi := ⟨some 29, .call { callee := .builtin .min, args := #[.tmp 28, .const (.int .i64 40)], argTypes := #[3, 3] }, 3, "outright.go:64", #[⟨4, .data⟩], none⟩) (v := ?_) rfl (by kernel_rfl) (by kernel_rfl) (by kernel_rfl) (fun _ _ _ h => h) (Or.inl ⟨by rfl, ?_⟩) (by assumption) ?_
    rotate_left 1
    · (intro w hSw; (try dsimp only at hSw); go_simp; try with_reducible rfl)
    try simp only [Act.put, List.setIfInBounds_toArray, List.set_cons_zero, List.set_cons_succ]
    refine wpAnyH_take (i := 6) (oi := ⟨some 30, .slice 27 (.tmp 26) none (some (.tmp 29)) none, 27, "outright.go:64", #[⟨2, .data⟩, ⟨5, .data⟩], none⟩) (v := ?_) rfl (by kernel_rfl) (by kernel_rfl) (by kernel_rfl) (fun _ _ _ h => h) (Or.inl ⟨by rfl, ?_⟩) (by assumption) ?_
    rotate_left 1
    · (intro w hSw; (try dsimp only at hSw); go_simp; try with_reducible rfl)
    try simp only [Act.put, List.setIfInBounds_toArray, List.set_cons_zero, List.set_cons_succ]
    refine wpAnyH_ready (rs := [0]) (by kernel_rfl) (by simp) ?_
    refine AllReadyH.cons (o := ⟨some 24, .load 26 (.tmp 3), 26, "outright.go:64", #[], none⟩) rfl (fun K hK => ?_) AllReadyH.nil
    go_simp
    refine hK.out _ _ trivial (fun hHeld => ?_)
    clear hK K
    try simp only [Act.put, List.setIfInBounds_toArray, List.set_cons_zero, List.set_cons_succ]
    refine wpAnyH_ready (rs := [1]) (by kernel_rfl) (by simp) ?_
    refine AllReadyH.cons (o := ⟨some 25, .call { callee := .value (.func 16), args := #[.tmp 24], argTypes := #[26] }, 26, "outright.go:64", #[⟨0, .data⟩], none⟩) rfl (fun K hK => ?_) AllReadyH.nil
    go_simp
    go_at_call 16
    with_reducible refine (KC.out _ D0.out).mono ?_
    rintro e w2 ⟨rfl, hb2⟩
    have S2 : Hid (Blk w2 w.heap.size (snapC A B C ca cb cc ns ps os) 26) := Lib.hid (S0.out.drew.below hb2 S0.out.drew.lt)
    have B2 : Hid (Below w.heap.size w w2) := Lib.hid (D0.out.trans (hb2.mono D0.out.size))
    have r0 : w2.cell? ⟨w.heap.size, 0, none⟩ = some (.slice A ns.length ca) := Blk.cell S2.out 0
    have r1 : w2.cell? ⟨w.heap.size, 1, none⟩ = some (.slice B ps.length cb) := Blk.cell S2.out 1
    have r2 : w2.cell? ⟨w.heap.size, 2, none⟩ = some (.slice C os.length cc) := Blk.cell S2.out 2
    have f0 := Blk.free S2.out 0
    have f1 := Blk.free S2.out 1
    have f2 := Blk.free S2.out 2
    clear hb2
    refine hK.out _ _ trivial (fun hHeld => ?_)
    clear hK K
    try simp only [Act.put, List.setIfInBounds_toArray, List.set_cons_zero, List.set_cons_succ]
    refine wpAnyH_ready (rs := [7]) (by kernel_rfl) (by simp) ?_
    refine AllReadyH.cons (o := ⟨none, .store 26 (.tmp 3) (.tmp 25), 0, "outright.go:64", #[⟨1, .data⟩, ⟨1, .chain⟩, ⟨0, .phase⟩, ⟨1, .phase⟩, ⟨2, .textOnly .lateStores⟩, ⟨3, .textOnly .lateStores⟩, ⟨4, .textOnly .lateStoresUnsure⟩, ⟨5, .textOnly .lateStoresUnsure⟩, ⟨6, .textOnly .lateStoresUnsure⟩], none⟩) rfl (fun K hK => ?_) AllReadyH.nil
    go_simp
    refine hK.out _ _ trivial (fun hHeld => ?_)
    clear hK K
    try simp only [Act.put, List.setIfInBounds_toArray, List.set_cons_zero, List.set_cons_succ]
    refine wpAnyH_take (i := 8) (oi := ⟨some 2, .assign (.tmp 30), 27, "outright.go:64", #[⟨6, .data⟩, ⟨7, .chain⟩, ⟨0, .phase⟩, ⟨1, .phase⟩, ⟨2, .phase⟩, ⟨3, .phase⟩, ⟨4, .phase⟩, ⟨5, .phase⟩, ⟨6, .phase⟩, ⟨7, .phase⟩], none⟩) (v := ?_) rfl (by kernel_rfl) (by kernel_rfl) (by kernel_rfl) (fun _ _ _ h => h) (Or.inl ⟨by rfl, ?_⟩) (by assumption) ?_
    rotate_left 1
    · (intro w hSw; (try dsimp only at hSw); go_simp; try with_reducible rfl)
    try simp only [Act.put, List.setIfInBounds_toArray, List.set_cons_zero, List.set_cons_succ]
    refine wpAnyH_done (by kernel_rfl) ?_ _
    have S3 : Hid (Blk (((w2.setCell ⟨w.heap.size, 0, none⟩ (.slice A n1.length ca)).setCell ⟨w.heap.size, 1, none⟩ (.slice B p1.length cb)).setCell ⟨w.heap.size, 2, none⟩ (.slice C o1.length cc)) w.heap.size (snapC A B C ca cb cc n1 p1 o1) 26) := Lib.hid (((S2.out.set 0 _).set 1 _).set 2 _)
    have B3 : Hid (Below w.heap.size w (((w2.setCell ⟨w.heap.size, 0, none⟩ (.slice A n1.length ca)).setCell ⟨w.heap.size, 1, none⟩ (.slice B p1.length cb)).setCell ⟨w.heap.size, 2, none⟩ (.slice C o1.length cc))) := Lib.hid (((B2.out.setCell (p := ⟨w.heap.size, 0, none⟩) (Nat.le_refl _) _).setCell (p := ⟨w.heap.size, 1, none⟩) (Nat.le_refl _) _).setCell (p := ⟨w.heap.size, 2, none⟩) (Nat.le_refl _) _)
    (try go_wp2_with fail)
    (try go_wp2_with fail)
    try rw [hm2.out]
    go_meet
    exact ⟨rfl, S3.out, B3.out⟩
  case' rest => obtain ⟨rfl, s3, b3⟩ := hcut
  obtain ⟨W, hV⟩ : ∃ W, W = wc := ⟨_, rfl⟩
  subst hV
  have S3 := Lib.hid s3
  have B3 := Lib.hid b3
  clear s3 b3 S0 B0 D0 z0 z1 z2 KC hm0 hm1 hm2 hdc
  have HW := Lib.hid (fun W' (hb : Below W.heap.size W W') => (show W'.cell? ⟨w.heap.size, 0, none⟩ = some (.slice A n1.length ca) ∧ W'.cell? ⟨w.heap.size, 1, none⟩ = some (.slice B p1.length cb) ∧ W'.cell? ⟨w.heap.size, 2, none⟩ = some (.slice C o1.length cc) from ⟨Blk.cell (S3.out.below hb S3.out.lt) 0, Blk.cell (S3.out.below hb S3.out.lt) 1, Blk.cell (S3.out.below hb S3.out.lt) 2⟩))
  have HT := Lib.hid (fun W' (hb : Below W.heap.size W W') => B3.out.trans (hb.mono B3.out.size))
  have HS := Lib.hid (fun W' (hb : Below W.heap.size W W') => H.out.below (HT.out W' hb))
  have K1 := Lib.hid (fitted14_own A B C P ca cb cc cp n1 p1 o1 l W (HS.out W (Below.refl _ _)) (HP.out.below (HT.out W (Below.refl _ _))))
  have HDW := Lib.hid (HD9.out.below (HT.out W (Below.refl _ _)))
  generalize fitU n1 l p1.length = p at K1
  clear H HP B3 S3 HD9
  obtain ⟨z0, z1, z2⟩ := HW.out _ (Below.refl _ W)
  go_wp2_with fail
  refine (K1.out).mono ?_
  rintro e V ⟨X, cx, rfl, ix, hxa, hb0⟩
  have HB0 := Lib.hid hb0
  have HXA := Lib.hid hxa
  have HX := Lib.hid (fun W' (hb' : Below V.heap.size V W') => ix.below hb')
  have hql := Nat.le_trans ix.le ix.most
  have HDV := Lib.hid (fun W' (hb' : Below V.heap.size V W') => (HDW.out.below hb0).below hb')
  have HZ := Lib.hid (fun W' (hb : Below V.heap.size V W') => HW.out W' (HB0.out.trans (hb.mono HB0.out.size)))
  have HTV := Lib.hid (fun W' (hb : Below V.heap.size V W') => HT.out W' (HB0.out.trans (hb.mono HB0.out.size)))
  have HSV := Lib.hid (fun W' (hb : Below V.heap.size V W') => HS.out W' (HB0.out.trans (hb.mono HB0.out.size)))
  clear ix hxa hb0 K1 HB0 HW HT HS z0 z1 z2 HDW
  have HB := Lib.hid (Below.refl V.heap.size V)
  by_cases hE : placeE n1 p1 o1 p = 0
  case neg =>
    have kb := Lib.hid (pack_bad A B C X D ca cb cc cx cd n1 p1 o1 p d1 hE V (HSV.out V HB.out).toIn (HX.out V HB.out))
    have k1 := Lib.hid (fun W' (hb : Below V.heap.size V W') => pcheck_any A B C X ca cb cc cx n1 p1 o1 p W' (HSV.out W' hb) (HX.out W' hb))
    generalize placeE n1 p1 o1 p = E at kb k1 hE
    have hE1 : (E == 0) = false := by simpa using hE
    have hE2 : decide (E = 0) = false := decide_eq_false hE
    clear hE
    obtain ⟨z0, z1, z2⟩ := HZ.out _ HB.out
    go_wp2_with fail
    refine (kb.out).mono ?_
    rintro e V1 ⟨rfl, hb⟩
    have HB := Lib.hid (HB.out.trans (hb.mono HB.out.size))
    clear hb z0 z1 z2 kb
    obtain ⟨z0, z1, z2⟩ := HZ.out _ HB.out
    go_wp2_with fail
    refine (k1.out _ HB.out).mono ?_
    rintro e V2 ⟨rfl, hb⟩
    have D := Lib.hid (HTV.out _ (HB.out.trans (hb.mono HB.out.size)))
    clear hb z0 z1 z2 k1
    go_wp2
    go_ret
    exact ⟨rfl, D.out⟩
  have PE := Lib.hid (pack_ends (ns := n1) (ps := p1) (os := o1) (p := p) (pods := d1) hE)
  have KP := Lib.hid (pack_any A B C X D ca cb cc cx cd n1 p1 o1 p d1 hE V (HSV.out V HB.out).toIn HXA.out (HX.out V HB.out) (HDV.out V HB.out))
  have KO := Lib.hid (fun W' (hb : Below V.heap.size V W') => order_any A B C D ca cb cc cd n1 p1 o1 d1 (placeE_chk hE) W' (HSV.out W' hb).toIn (HDV.out W' hb))
  have hlL : ∀ k ∈ orderU n1 p1 d1, k < p.length := fun k hk => by have := (orderU_lt hk).2.1; have := placeE_len hE; omega
  have HLL := Lib.hid hlL
  have HST := Lib.hid (fun (m k : Nat) (hk : (orderU n1 p1 d1)[m]? = some k) => pack_steps hE order_nodup hlL hk)
  have HNL := Lib.hid (fun (m : Nat) => (packF_two n1 p1 o1 p ((orderU n1 p1 d1).take m)).1)
  have HN0 : Hid ((packF n1 p1 o1 p ((orderU n1 p1 d1).take 0)).1 = p) := Lib.hid rfl
  have HNE : Hid ((packF n1 p1 o1 p ((orderU n1 p1 d1).take (orderU n1 p1 d1).length)).1 = (packF n1 p1 o1 p (orderU n1 p1 d1)).1) := Lib.hid (by rw [List.take_length])
  have hL24 : (orderU n1 p1 d1).length ≤ 24 := by rw [(orderU_perm n1 p1 d1).length_eq]; exact amongL_len _ _
  clear hlL
  obtain ⟨L, hL⟩ : ∃ L, orderU n1 p1 d1 = L := ⟨_, rfl⟩
  rw [hL] at PE KP KO HLL HST HNL HNE HN0 hL24
  clear hL
  obtain ⟨N, hN⟩ : ∃ N : Nat → List Int, ∀ m, (packF n1 p1 o1 p (L.take m)).1 = N m := ⟨fun m => (packF n1 p1 o1 p (L.take m)).1, fun m => rfl⟩
  simp only [hN] at HST HNL HNE HN0
  clear hN
  generalize (packF n1 p1 o1 p L).2.mergeSort (fun x y => decide (x ≤ y)) = Wt at PE KP
  generalize (packF n1 p1 o1 p L).1 = q at PE KP HST HNE
  have HEE := Lib.hid hE
  clear hE HXA
  obtain ⟨z0, z1, z2⟩ := HZ.out _ HB.out
  go_wp2_with fail
  refine (KP.out).mono ?_
  rintro e V1 ⟨Xq, cq, Yq, yq, rfl, ho, hi, hb⟩
  have HB1 := Lib.hid (HB.out.trans (hb.mono HB.out.size))
  have HQ := Lib.hid (fun W' (hb' : Below V1.heap.size V1 W') => (show IntsAt V1 Xq cq q from IntsAt.own (base := V.heap.size) (by rw [PE.out.l]; exact ho)).below hb')
  have HY := Lib.hid (fun W' (hb' : Below V1.heap.size V1 W') => hi.below hb')
  have KWo := Lib.hid (worse_no A B C X Xq ca cb cc cx cq p.length n1 p1 o1 p q rfl PE.out.l HEE.out PE.out.e PE.out.w V1 (HSV.out _ HB1.out) (HX.out _ HB1.out) (HQ.out _ (Below.refl _ _)))
  clear ho hi hb KP z0 z1 z2 HB
  obtain ⟨z0, z1, z2⟩ := HZ.out _ HB1.out
  go_wp2_with fail
  refine (KWo.out).mono ?_
  rintro e V2 ⟨Gw, cw, rfl, hb⟩
  have HB2 := Lib.hid (HB1.out.trans (hb.mono HB1.out.size))
  have HQ2 := Lib.hid (fun W' (hb' : Below V2.heap.size V2 W') => HQ.out W' (hb.trans (hb'.mono hb.size)))
  have HY2 := Lib.hid (fun W' (hb' : Below V2.heap.size V2 W') => HY.out W' (hb.trans (hb'.mono hb.size)))
  clear hb KWo z0 z1 z2 HQ HY HB1
  go_upto_region 11 with fail
  go_wp2_with fail
  go_loopw [13] (fun i wr => ∃ k : Nat, k ≤ p.length ∧ i = .int .i64 k ∧ Below V2.heap.size V2 wr) (fun i _ => p.length - (intOf i).toNat)
  case atStart => exact ⟨0, by omega, rfl, Below.refl _ _⟩
  case round =>
    obtain ⟨k, hk, rfl, hbw⟩ := hrel
    have HB := Lib.hid hbw
    have HBw := Lib.hid (HB2.out.trans (hbw.mono HB2.out.size))
    clear hbw
    by_cases hlt : k < p.length
    case neg =>
      obtain rfl : k = p.length := by omega
      clear hlt hk
      have KO1 := Lib.hid (KO.out _ HBw.out)
      obtain ⟨w7, hw7⟩ : ∃ w7, w7 = wr := ⟨_, rfl⟩
      subst hw7
      obtain ⟨z0, z1, z2⟩ := HZ.out _ HBw.out
      go_wp2_with fail
      refine (KO1.out).mono ?_
      rintro e V3 ⟨Xo, co, rfl, io, _, hb⟩
      have HB3 := Lib.hid (HBw.out.trans (hb.mono HBw.out.size))
      have HB23 := Lib.hid (HB.out.trans (hb.mono HB.out.size))
      have HO := Lib.hid (fun W' (hb' : Below V3.heap.size V3 W') => io.below hb')
      have HQ3 := Lib.hid (fun W' (hb' : Below V3.heap.size V3 W') => HQ2.out W' (HB23.out.trans (hb'.mono HB23.out.size)))
      clear hb io KO1 z0 z1 z2 HB23 HB HBw HY2 KO
      go_wp2_with fail
      go_loopw [16, 14] (fun i na wr => ∃ (m : Nat) (Q : Option Addr) (c : Nat), m ≤ L.length ∧ i = .int .i64 m ∧ na = .slice Q p.length c ∧ IntsAt wr Q c (N m) ∧ Below V3.heap.size V3 wr) (fun i _ _ => L.length - (intOf i).toNat)
      case atStart => exact ⟨0, X, cx, by omega, rfl, rfl, by rw [HN0.out]; exact HX.out _ HB3.out, Below.refl _ _⟩
      case round =>
        obtain ⟨m, Q, cq2, hm, rfl, rfl, iq, hbw⟩ := hrel
        have HBm := Lib.hid hbw
        have HBw := Lib.hid (HB3.out.trans (hbw.mono HB3.out.size))
        have IQ := Lib.hid iq
        clear hbw iq
        by_cases hml : m < L.length
        case neg =>
          obtain rfl : m = L.length := by omega
          have KE := Lib.hid (eq_len Q Xq cq2 cq p.length (N L.length) q wr (HNL.out _) HNE.out hql IQ.out (HQ3.out _ HBm.out))
          go_wp2_with fail
          refine (KE.out).mono ?_
          rintro e w9 ⟨rfl, hb⟩
          have D := Lib.hid (HTV.out _ (HBw.out.trans (hb.mono HBw.out.size)))
          clear hb KE
          go_wp2
          go_ret
          exact ⟨rfl, D.out⟩
        have m0 : (0 : Int) ≤ (m : Int) := by omega
        have m1 : (m : Int) < (L.length : Int) := by omega
        obtain ⟨k, hk⟩ : ∃ k, L[m]? = some k := ⟨L[m], List.getElem?_eq_getElem hml⟩
        have hkp := HLL.out k (List.mem_of_getElem? hk)
        obtain ⟨v, z, ⟨hv, hv2, hcase⟩, hz⟩ := HST.out m k hk
        obtain ⟨ob, oo, hOa, hol, c0⟩ := atI (HO.out _ HBm.out).cells (k := m) (x := (k : Int)) (by rw [List.getElem?_map, hk]; rfl)
        subst hOa
        obtain ⟨nb, no, hNa, hnl, c1⟩ := atI IQ.out.cells hv
        subst hNa
        obtain ⟨qb, qo, hQa, hqb, c2⟩ := atI (HQ3.out _ HBm.out).cells hz
        subst hQa
        have k0 : (0 : Int) ≤ (k : Int) := by omega
        have k1 : (k : Int) < (p.length : Int) := by omega
        have k2 : decide ((k : Int) < 0) = false := decide_eq_false (by omega)
        have k3 : decide ((p.length : Int) ≤ (k : Int)) = false := decide_eq_false (by omega)
        have HC2 := Lib.hid (fun W' (hb : Below wr.heap.size wr W') => (hb.cell (p := ⟨qb, qo + k, none⟩) hqb).trans c2)
        have HNm := Lib.hid (HNL.out m)
        have HNm1 := Lib.hid (HNL.out (m + 1))
        clear hk hv hv2 hz hol hnl hqb
        rcases hcase with ⟨hv0, hnx⟩ | ⟨rfl, rfl, hw, hnx⟩ | ⟨rfl, hz0, hwc, hst, hnx⟩
        · have HNX := Lib.hid hnx
          have v1 : decide (0 ≤ v) = true := decide_eq_true hv0
          clear hnx
          go_wp2_with fail
          go_roundw
          case rel => exact ⟨m + 1, some ⟨nb, no, none⟩, cq2, by omega, by go_num, rfl, by rw [HNX.out]; exact IQ.out, HBm.out⟩
          case measure => simp [intOf] <;> omega
        · have HNX := Lib.hid hnx
          have KY := Lib.hid (ways_len A B C (some ⟨nb, no, none⟩) ca cb cc cq2 p.length n1 p1 o1 (N m) [] (k : Int) HNm.out hw wr (HSV.out _ HBw.out) IQ.out)
          clear hnx hw
          obtain ⟨z0, z1, z2⟩ := HZ.out _ HBw.out
          go_wp2_with fail
          refine (KY.out).mono ?_
          rintro e V4 ⟨Y4, y4, rfl, _, hb⟩
          have HB4 := Lib.hid (HBm.out.trans (hb.mono HBm.out.size))
          have IQ4 := Lib.hid (IQ.out.below hb)
          have c3 := HC2.out _ hb
          clear hb KY z0 z1 z2 c0 c1 c2
          go_wp2_with fail
          go_roundw
          case rel => exact ⟨m + 1, some ⟨nb, no, none⟩, cq2, by omega, by go_num, rfl, by rw [HNX.out]; exact IQ4.out, HB4.out⟩
          case measure => simp [intOf] <;> omega
        · have HNX := Lib.hid hnx
          obtain ⟨Wl, hWl⟩ : ∃ Wl, waysU n1 p1 o1 (N m) (k : Int) n1.length = Wl := ⟨_, rfl⟩
          rw [hWl] at hwc
          have KY := Lib.hid (ways_len A B C (some ⟨nb, no, none⟩) ca cb cc cq2 p.length n1 p1 o1 (N m) Wl (k : Int) HNm.out hWl wr (HSV.out _ HBw.out) IQ.out)
          have HWC := Lib.hid hwc
          have hz1 : decide (z < 0) = false := decide_eq_false (by omega)
          have hq2 : ((N m).set k z).length = p.length := by rw [List.length_set]; exact HNm.out
          have KS := Lib.hid (fun W' (hb : Below wr.heap.size wr W') => step_len A B C (some ⟨nb, no, none⟩) ca cb cc cq2 p.length n1 p1 o1 (N m) ((N m).set k z) (k : Int) z HNm.out hq2 hst W' (HSV.out W' (HBw.out.trans (hb.mono HBw.out.size))) (IQ.out.below hb))
          rw [← hnx] at KS
          clear hnx hWl hwc hq2 hst HNX
          obtain ⟨z0, z1, z2⟩ := HZ.out _ HBw.out
          go_wp2_with fail
          refine (KY.out).mono ?_
          rintro e V4 ⟨Y4, y4, rfl, iw, hb⟩
          have HB4 := Lib.hid (HBm.out.trans (hb.mono HBm.out.size))
          have HBw4 := Lib.hid (HBw.out.trans (hb.mono HBw.out.size))
          have KS4 := Lib.hid (fun W' (hb' : Below V4.heap.size V4 W') => KS.out W' (hb.trans (hb'.mono hb.size)))
          have IW := Lib.hid (fun W' (hb' : Below V4.heap.size V4 W') => iw.below hb')
          have HC4 := Lib.hid (fun W' (hb' : Below V4.heap.size V4 W') => HC2.out W' (hb.trans (hb'.mono hb.size)))
          have c3 := HC2.out _ hb
          clear hb iw KY KS z0 z1 z2 c0 c1 c2 HC2
          go_upto_region 29 with fail
          have HCb := Lib.hid (fun W' (hb : Below V4.heap.size V4 W') => And.intro (HZ.out W' (HBw4.out.trans (hb.mono HBw4.out.size))) (HC4.out W' hb))
          have HB8 : Hid (Below V4.heap.size V4 V4.drew) := Lib.hid ((Below.refl _ V4).drew)
          have HZ9 : Hid (Below V4.heap.size V4 (V4.alloc (.cells (clC z4) 62)).drew) := Lib.hid ((below1 V4 _).drew)
          have QZ : Hid (Blk (V4.alloc (.cells (clC z4) 62)).drew V4.heap.size (clC z4) 62) := Lib.hid (Blk.drew (Blk.new V4 _ _))
          have S0 := HCb.out _ (Below.refl _ V4)
          have S1 := HCb.out _ HB8.out
          have S2 := HCb.out _ HZ9.out
          clear c3
          go_cut [19, 21] (fun u v3 wc => ∃ Q c, u = .slice Q p.length c ∧ v3 = .int .i64 0 ∧ IntsAt wc Q c (N (m + 1)) ∧ Below V4.heap.size V4 wc)
          case first =>
            go_region_held3 (fun w' => (w'.cell? ⟨w.heap.size, 0, none⟩ = some (.slice A n1.length ca) ∧ w'.cell? ⟨w.heap.size, 1, none⟩ = some (.slice B p1.length cb) ∧ w'.cell? ⟨w.heap.size, 2, none⟩ = some (.slice C o1.length cc)) ∧ w'.cell? ⟨qb, qo + k, none⟩ = some (.int .i64 z))
              (first | (with_reducible exact S1) | (with_reducible exact S0) | (with_reducible exact S2) | (with_reducible exact S4) | (with_reducible exact S5) | go_keep)
              (first
                | (go_at_call 37
                   with_reducible refine (KS4.out _ HB8.out).mono ?_
                   rintro e wB ⟨Q5, cq5, rfl, ho5, hbB⟩
                   have HF0 := Lib.hid (HB8.out.trans (hbB.mono HB8.out.size))
                   have HF := Lib.hid (HF0.out.alloc HF0.out.size (.cells (clC z4) 62))
                   have IF := Lib.hid ((show IntsAt wB Q5 cq5 (N (m + 1)) from IntsAt.own (base := V4.drew.heap.size) (by rw [HNm1.out]; exact ho5)).below (below1 wB (.cells (clC z4) 62)))
                   have S4 := HCb.out _ HF0.out
                   have S5 := HCb.out _ HF.out
                   clear ho5 hbB)
                | (go_at_call 37
                   refine (KS4.out _ HZ9.out).mono ?_
                   rintro e wB ⟨Q5, cq5, rfl, ho5, hbB⟩
                   have HF0 := Lib.hid (HZ9.out.trans (hbB.mono HZ9.out.size))
                   have QF0 := Lib.hid (QZ.out.below hbB QZ.out.lt)
                   have HF := Lib.hid (below4 HF0.out (Nat.le_refl _) z4)
                   have IF := Lib.hid (show IntsAt (set4 wB V4.heap.size z4) Q5 cq5 (N (m + 1)) from IntsAt.own (base := (V4.alloc (.cells (clC z4) 62)).drew.heap.size) (by rw [HNm1.out]; exact own4 ho5 QF0.out z4))
                   obtain ⟨⟨q0, q1, q2, q3⟩, g0, g1, g2, g3⟩ := cells_of4 QF0.out
                   have S4 := HCb.out _ HF0.out
                   have S5 := HCb.out _ HF.out
                   clear ho5 hbB))
            all_goals
              (try go_wp2_with fail)
              go_meet
              exact ⟨_, _, rfl, rfl, IF.out, HF.out⟩
          case' rest => obtain ⟨Q6, c6, rfl, rfl, i6, hb6⟩ := hcut
          have I6 := Lib.hid i6
          have c3 := HC4.out _ hb6
          have HB6 := Lib.hid (HB4.out.trans (hb6.mono HB4.out.size))
          have KI := Lib.hid (in_val Y4 y4 Wl.length Wl z true wc rfl HWC.out (IW.out _ hb6))
          clear hb6 i6 HB8 HZ9 QZ S0 S1 S2 KS4 HCb HC4
          go_wp2_with fail
          refine (KI.out).mono ?_
          rintro e w9 ⟨rfl, rfl⟩
          go_wp2_with fail
          go_roundw
          case rel => exact ⟨m + 1, Q6, c6, by omega, by go_num, rfl, I6.out, HB6.out⟩
          case measure => simp [intOf] <;> omega
    have k0 : (0 : Int) ≤ (k : Int) := by omega
    have k1 : (k : Int) < (p.length : Int) := by omega
    obtain ⟨x, hx⟩ : ∃ x, p[k]? = some x := ⟨p[k], List.getElem?_eq_getElem hlt⟩
    obtain ⟨y, hy⟩ : ∃ y, q[k]? = some y := ⟨q[k]'(by have := PE.out.l; omega), List.getElem?_eq_getElem _⟩
    obtain ⟨hyx, hwt⟩ := PE.out.s k x y hx hy
    obtain ⟨xb, xo, hXa, hxl, c0⟩ := atI (HX.out _ HBw.out).cells hx
    subst hXa
    obtain ⟨yb, yo, hYa, hyl, c1⟩ := atI (HQ2.out _ HB.out).cells hy
    subst hYa
    have HYX := Lib.hid hyx
    have HWT := Lib.hid hwt
    have KI := Lib.hid (fun (c : Bool) (hc : d1.contains (k : Int) = c) n => in_val D cd d1.length d1 (k : Int) c (wr.drewN n) rfl hc (HDV.out _ (belowN HBw.out n)))
    have KJ := Lib.hid (fun (c : Bool) (hc : Wt.contains (k : Int) = c) n => in_val Yq yq Wt.length Wt (k : Int) c (wr.drewN n) rfl hc (HY2.out _ (belowN HB.out n)))
    clear hyx hwt hx hy hxl hyl
    obtain ⟨c, hc⟩ : ∃ c, d1.contains (k : Int) = c := ⟨_, rfl⟩
    rw [hc] at HYX HWT
    have KI1 := Lib.hid (KI.out c hc)
    have KJ1 := Lib.hid (KJ.out _ HWT.out)
    clear hc KI KJ HWT
    go_upto_region 14 with fail
    go_cut [118] (fun u wc => u = .bool false ∧ Below V2.heap.size V2 wc)
    case first =>
      by_cases hxy : y = x
      · subst hxy
        by_cases hy0 : y < 0
        · have a1 : decide (y < 0) = true := decide_eq_true hy0
          rw [a1] at KJ1
          cases c
          · go_quiet ((go_at_call 25; first | with_reducible exact Calls.quiet_of_same (KJ1.out _) | with_reducible exact Calls.quiet_of_same (KI1.out _)))
            go_wp2
            go_meet
            exact ⟨rfl, belowN HB.out _⟩
          · go_quiet ((go_at_call 25; first | with_reducible exact Calls.quiet_of_same (KJ1.out _) | with_reducible exact Calls.quiet_of_same (KI1.out _)))
            go_wp2
            go_meet
            exact ⟨rfl, belowN HB.out _⟩
        · have a1 : decide (y < 0) = false := decide_eq_false hy0
          rw [a1, Bool.and_false] at KJ1
          cases c
          · go_quiet ((go_at_call 25; first | with_reducible exact Calls.quiet_of_same (KJ1.out _) | with_reducible exact Calls.quiet_of_same (KI1.out _)))
            go_wp2
            go_meet
            exact ⟨rfl, belowN HB.out _⟩
          · go_quiet ((go_at_call 25; first | with_reducible exact Calls.quiet_of_same (KJ1.out _) | with_reducible exact Calls.quiet_of_same (KI1.out _)))
            go_wp2
            go_meet
            exact ⟨rfl, belowN HB.out _⟩
      · obtain ⟨hx1, hc1⟩ : x = -1 ∧ c = true := by
          rcases HYX.out with h | h
          · exact absurd h hxy
          · exact h
        subst hx1 hc1
        have b1 : (y == -1) = false := by rw [beq_eq_false_iff_ne]; exact hxy
        have b2 : decide (y = -1) = false := decide_eq_false hxy
        by_cases hy0 : y < 0
        · have a1 : decide (y < 0) = true := decide_eq_true hy0
          rw [a1] at KJ1
          go_quiet ((go_at_call 25; first | with_reducible exact Calls.quiet_of_same (KJ1.out _) | with_reducible exact Calls.quiet_of_same (KI1.out _)))
          go_wp2
          go_meet
          exact ⟨rfl, belowN HB.out _⟩
        · have a1 : decide (y < 0) = false := decide_eq_false hy0
          rw [a1, Bool.and_false] at KJ1
          go_quiet ((go_at_call 25; first | with_reducible exact Calls.quiet_of_same (KJ1.out _) | with_reducible exact Calls.quiet_of_same (KI1.out _)))
          go_wp2
          go_meet
          exact ⟨rfl, belowN HB.out _⟩
    case' rest => obtain ⟨rfl, hbc⟩ := hcut
    have HBc := Lib.hid hbc
    clear hbc KI1 KJ1 HYX c0 c1
    go_wp2_with fail
    go_roundw
    case rel => exact ⟨k + 1, by omega, by go_num, HBc.out⟩
    case measure => simp [intOf] <;> omega
end Go.Proofs.YtmmokiaipfalmaaGreat
