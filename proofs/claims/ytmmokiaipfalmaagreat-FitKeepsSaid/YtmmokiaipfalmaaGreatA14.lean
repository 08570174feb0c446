/- Best leaves least: the law's walk. Condition: the arguments lie in memory. -/
import Derived.Test.YtmmokiaipfalmaaGreatA13

namespace Go.Proofs.YtmmokiaipfalmaaGreat
open Go.RowKit Go.Maps

set_option maxRecDepth 100000 in
set_option maxHeartbeats 16000000 in
theorem fitBest_law (A B C : Option Addr) (ca cb cc : Nat) (ns : List NodeD) (ps : List PodD) (os : List OwnD) (P : Option Addr) (cp : Nat) (l : List Int) (w : World) (h : SnapIn w A B C ca cb cc ns ps os) (hp : IntsAt w P cp l) :
    Calls Tryz.prog 3 #[snapV A B C ca cb cc ns ps os, .slice P l.length cp] w fun e w' => e = .returned (.bool true) ∧ Below w.heap.size w w' := by
  have HP := Lib.hid hp
  clear hp
  have B0 : Hid (Below w.heap.size w (w.alloc (.cells (snapC A B C ca cb cc ns ps os) 26))) := Lib.hid (below1 w _)
  have S0 : Hid (Blk (w.alloc (.cells (snapC A B C ca cb cc ns ps os) 26)) w.heap.size (snapC A B C ca cb cc ns ps os) 26) := Lib.hid (Blk.new w _ _)
  have H := Lib.hid (h.take)
  have KW := Lib.hid works14_any
  have HIN := Lib.hid h
  have hn12 : (ns.take 12).length ≤ 12 := List.length_take_le _ _
  have hp30 : (ps.take 30).length ≤ 30 := List.length_take_le _ _
  have ho12 : (os.take 12).length ≤ 12 := List.length_take_le _ _
  have KC := Lib.hid (fun W' (hb : Below w.heap.size w W') => cut14_any A B C ca cb cc ns ps os W' (HIN.out.low hb))
  generalize ns.take 12 = n1 at H KC hn12
  generalize ps.take 30 = p1 at H KC hp30
  generalize os.take 12 = o1 at H KC ho12
  clear h HIN
  go_enter Tryz.func3, Tryz.ntmps3
  go_wp2_with fail
  refine (KC.out _ B0.out).mono ?_
  rintro e w2 ⟨rfl, hb2⟩
  have S2 : Hid (Blk w2 w.heap.size (snapC A B C ca cb cc ns ps os) 26) := Lib.hid (S0.out.below hb2 S0.out.lt)
  have B2 : Hid (Below w.heap.size w w2) := Lib.hid (B0.out.trans (hb2.mono B0.out.size))
  clear hb2 S0 B0 KC
  have r0 : w2.cell? ⟨w.heap.size, 0, none⟩ = some (.slice A ns.length ca) := Blk.cell S2.out 0
  have r1 : w2.cell? ⟨w.heap.size, 1, none⟩ = some (.slice B ps.length cb) := Blk.cell S2.out 1
  have r2 : w2.cell? ⟨w.heap.size, 2, none⟩ = some (.slice C os.length cc) := Blk.cell S2.out 2
  have f0 := Blk.free S2.out 0
  have f1 := Blk.free S2.out 1
  have f2 := Blk.free S2.out 2
  have S3 : Hid (Blk (((w2.setCell ⟨w.heap.size, 0, none⟩ (.slice A n1.length ca)).setCell ⟨w.heap.size, 1, none⟩ (.slice B p1.length cb)).setCell ⟨w.heap.size, 2, none⟩ (.slice C o1.length cc)) w.heap.size (snapC A B C ca cb cc n1 p1 o1) 26) := Lib.hid (((S2.out.set 0 _).set 1 _).set 2 _)
  have B3 : Hid (Below w.heap.size w (((w2.setCell ⟨w.heap.size, 0, none⟩ (.slice A n1.length ca)).setCell ⟨w.heap.size, 1, none⟩ (.slice B p1.length cb)).setCell ⟨w.heap.size, 2, none⟩ (.slice C o1.length cc))) := Lib.hid (((B2.out.setCell (p := ⟨w.heap.size, 0, none⟩) (Nat.le_refl _) _).setCell (p := ⟨w.heap.size, 1, none⟩) (Nat.le_refl _) _).setCell (p := ⟨w.heap.size, 2, none⟩) (Nat.le_refl _) _)
  go_upto_region 2 with fail
  clear r0 r1 r2 f0 f1 f2
  generalize (((w2.setCell ⟨w.heap.size, 0, none⟩ (.slice A n1.length ca)).setCell ⟨w.heap.size, 1, none⟩ (.slice B p1.length cb)).setCell ⟨w.heap.size, 2, none⟩ (.slice C o1.length cc)) = W at S3 B3 ⊢
  clear S2 B2
  have HW := Lib.hid (fun W' (hb : Below W.heap.size W W') => (show W'.cell? ⟨w.heap.size, 0, none⟩ = some (.slice A n1.length ca) ∧ W'.cell? ⟨w.heap.size, 1, none⟩ = some (.slice B p1.length cb) ∧ W'.cell? ⟨w.heap.size, 2, none⟩ = some (.slice C o1.length cc) from ⟨Blk.cell (S3.out.below hb S3.out.lt) 0, Blk.cell (S3.out.below hb S3.out.lt) 1, Blk.cell (S3.out.below hb S3.out.lt) 2⟩))
  have HG : Hid (w.heap.size < W.heap.size) := Lib.hid S3.out.lt
  have HT := Lib.hid (fun W' (hb : Below W.heap.size W W') => B3.out.trans (hb.mono B3.out.size))
  have HS := Lib.hid (fun W' (hb : Below W.heap.size W W') => H.out.below (HT.out W' hb))
  have hln := H.out.ln
  have hlp := H.out.lp
  have hlo := H.out.lo
  have K1 := Lib.hid (fitted14_ints A B C P ca cb cc cp n1 p1 o1 l W (HS.out W (Below.refl _ _)) (HP.out.below (HT.out W (Below.refl _ _))))
  generalize fitU n1 l p1.length = p at K1
  clear H HP B3 S3
  obtain ⟨z0, z1, z2⟩ := HW.out _ (Below.refl _ W)
  go_wp2_with fail
  refine (K1.out).mono ?_
  rintro e V ⟨X, cx, rfl, ix, hb0⟩
  have HB0 := Lib.hid hb0
  have HX := Lib.hid (fun W' (hb' : Below V.heap.size V W') => ix.below hb')
  have hql := Nat.le_trans ix.le ix.most
  have HZ := Lib.hid (fun W' (hb : Below V.heap.size V W') => HW.out W' (HB0.out.trans (hb.mono HB0.out.size)))
  have HTV := Lib.hid (fun W' (hb : Below V.heap.size V W') => HT.out W' (HB0.out.trans (hb.mono HB0.out.size)))
  have HSV := Lib.hid (fun W' (hb : Below V.heap.size V W') => HS.out W' (HB0.out.trans (hb.mono HB0.out.size)))
  clear ix hb0 K1 HB0 HW HT HS z0 z1 z2 HG
  have k1 := Lib.hid (fun W' (hb : Below V.heap.size V W') => pcheck_any A B C X ca cb cc cx n1 p1 o1 p W' (HSV.out W' hb) (HX.out W' hb))
  have HB := Lib.hid (Below.refl V.heap.size V)
  obtain ⟨z0, z1, z2⟩ := HZ.out _ HB.out
  go_wp2_with fail
  refine (k1.out _ HB.out).mono ?_
  rintro e V1 ⟨rfl, hb⟩
  have HB := Lib.hid (HB.out.trans (hb.mono HB.out.size))
  clear hb z0 z1 z2 k1
  generalize placeE n1 p1 o1 p = E
  by_cases hE : E = 0
  case neg =>
    have hE1 : (E == 0) = false := by simpa using hE
    have hE2 : decide (E = 0) = false := decide_eq_false hE
    go_wp2_with fail
    refine (KW.out _).mono ?_
    rintro e w9 ⟨rfl, hb⟩
    have D := Lib.hid (HTV.out _ (HB.out.trans (hb.mono HB.out.size)))
    clear hb
    go_wp2
    go_ret
    exact ⟨rfl, D.out⟩
  subst hE
  go_wp2_with fail
  go_loopw [6] (fun i wr => ∃ k : Nat, k ≤ p.length ∧ i = .int .i64 k ∧ Below V.heap.size V wr) (fun i _ => p.length - (intOf i).toNat)
  case atStart => exact ⟨0, by omega, rfl, HB.out⟩
  case round =>
    clear HB
    obtain ⟨k, hk, rfl, hbw⟩ := hrel
    have HB := Lib.hid hbw
    clear hbw
    by_cases hlt : k < p.length
    case neg =>
      obtain rfl : k = p.length := by omega
      go_wp2_with fail
      refine (KW.out _).mono ?_
      rintro e w9 ⟨rfl, hb⟩
      have D := Lib.hid (HTV.out _ (HB.out.trans (hb.mono HB.out.size)))
      clear hb
      go_wp2
      go_ret
      exact ⟨rfl, D.out⟩
    have k0 : (0 : Int) ≤ (k : Int) := by omega
    have k1 : (k : Int) < (p.length : Int) := by omega
    have KR := Lib.hid (fun W' (hb : Below V.heap.size V W') => rankU_any A B C X ca cb cc cx n1 p1 o1 p (k : Int) W' (HSV.out W' hb) (HX.out W' hb))
    have KY := Lib.hid (fun W' (hb : Below V.heap.size V W') => waysR_any A B C X ca cb cc cx n1 p1 o1 p (k : Int) W' (HSV.out W' hb) (HX.out W' hb))
    have KB := Lib.hid (fun W' (hb : Below V.heap.size V W') => bestU_any A B C X ca cb cc cx n1 p1 o1 p (k : Int) W' (HSV.out W' hb) (HX.out W' hb))
    have HM := Lib.hid (fun (x : Int) (h : x ∈ rankU n1 p1 o1 p (k : Int)) => And.intro (rank_in h) (And.intro (rank_left h) (fun W' (hb : Below V.heap.size V W') => bindI_any A B C X ca cb cc cx n1 p1 o1 p (k : Int) x h W' (HSV.out W' hb) (HX.out W' hb))))
    have HST := Lib.hid (fun (m : Nat) (x y : Int) (h1 : (rankU n1 p1 o1 p (k : Int))[m]? = some x) (h2 : (rankU n1 p1 o1 p (k : Int))[m + 1]? = some y) => rank_step h1 h2)
    have HLN := Lib.hid (rank_len (ns := n1) (ps := p1) (os := o1) (p := p) (pd := (k : Int)))
    generalize waysU n1 p1 o1 p (k : Int) n1.length = Wl at KY HM HLN
    generalize rankU n1 p1 o1 p (k : Int) = R at KR KY KB HM HST HLN
    generalize hLA : leftA n1 p1 o1 p (k : Int) = LA at HM HST
    clear hLA
    go_upto_region 8 with fail
    obtain ⟨w7, hw7⟩ : ∃ w7, w7 = wr := ⟨_, rfl⟩
    subst hw7
    have D0 : Hid (Below V.heap.size V w7) := HB
    have D1 : Hid (Below V.heap.size V w7.drew) := Lib.hid HB.out.drew
    have D8 : Hid (Below w7.heap.size w7 w7.drew) := Lib.hid ((Below.refl _ w7).drew)
    have z0 := HZ.out w7 D0.out
    have z1 := HZ.out w7.drew D1.out
    go_cut [7, 8] (fun v7 v8 wc => ∃ A1 c1 A2 c2, v7 = .slice A1 R.length c1 ∧ v8 = .slice A2 R.length c2 ∧ IntsAt wc A1 c1 R ∧ IntsAt wc A2 c2 Wl ∧ Below w7.heap.size w7 wc)
    case first =>
      go_region_held3 (fun w' => w'.cell? ⟨w.heap.size, 0, none⟩ = some (.slice A n1.length ca) ∧ w'.cell? ⟨w.heap.size, 1, none⟩ = some (.slice B p1.length cb) ∧ w'.cell? ⟨w.heap.size, 2, none⟩ = some (.slice C o1.length cc))
        (first | (with_reducible exact z1) | (with_reducible exact z0) | (with_reducible exact z3) | (with_reducible exact z4) | go_keep)
        (first
          | (go_at_call 20; (with_reducible refine (KR.out _ (by first | exact D1.out | exact D0.out)).mono ?_); rintro e w3 ⟨A1, c1, rfl, i1, hb3⟩; have D3 : Hid (Below V.heap.size V w3) := Lib.hid (D1.out.trans (hb3.mono (by first | exact D1.out.size | exact D0.out.size))); have E3 : Hid (Below w7.heap.size w7 w3) := Lib.hid (D8.out.trans (hb3.mono D8.out.size)); have I1 := Lib.hid i1; clear i1 hb3; have z3 := HZ.out w3 D3.out)
          | (go_at_call 21; (with_reducible refine (KY.out _ D3.out).mono ?_); rintro e w4 ⟨A2, c2, rfl, i2, hb4⟩; have D4 : Hid (Below V.heap.size V w4) := Lib.hid (D3.out.trans (hb4.mono D3.out.size)); have E4 : Hid (Below w7.heap.size w7 w4) := Lib.hid (E3.out.trans (hb4.mono E3.out.size)); have I3 := Lib.hid (I1.out.below hb4); have I4 := Lib.hid i2; clear i2 hb4; have z4 := HZ.out w4 D4.out)
          | skip)
      all_goals
        go_wp2_with fail
        go_meet
        exact ⟨_, _, _, _, rfl, rfl, I3.out, I4.out, E4.out⟩
    case' rest => obtain ⟨Y1, y1, Y2, y2, rfl, rfl, i1, i2, hb⟩ := hcut
    have HBc := Lib.hid (HB.out.trans (hb.mono HB.out.size))
    clear D0 D1 D8 z0 z1 KR KY
    obtain ⟨z0, z1, z2⟩ := HZ.out _ HBc.out
    have I1 := Lib.hid i1
    have I2 := Lib.hid i2
    clear i1 i2 hb
    go_wp2_with fail
    refine (KB.out _ HBc.out).mono ?_
    rintro e V2 ⟨rfl, hb⟩
    have HB2 := Lib.hid (HBc.out.trans (hb.mono HBc.out.size))
    have IR := Lib.hid (fun W' (hb' : Below V2.heap.size V2 W') => (I1.out.below hb).below hb')
    have IW := Lib.hid (fun W' (hb' : Below V2.heap.size V2 W') => (I2.out.below hb).below hb')
    have hrl := Nat.le_trans I1.out.le I1.out.most
    clear hb KB z0 z1 z2 I1 I2 HBc HB
    obtain ⟨hd, hhd⟩ : ∃ hd, R.headD 0 = hd := ⟨_, rfl⟩
    obtain ⟨ib, hib⟩ : ∃ ib, (!R.isEmpty) = ib := ⟨_, rfl⟩
    rw [hhd, hib]
    have HHD : Hid ((ib = false ∧ R.length = 0) ∨ (ib = true ∧ 0 < R.length ∧ R[0]? = some hd)) := Lib.hid (by
      rw [← hhd, ← hib]
      cases R with
      | nil => exact Or.inl ⟨rfl, rfl⟩
      | cons y t => exact Or.inr ⟨rfl, by rw [List.length_cons]; omega, rfl⟩)
    clear hhd hib
    go_upto_region 10 with fail
    go_cut [68] (fun u wc => u = .bool false ∧ V2 = wc)
    case first =>
      clear HM HST HLN
      rcases HHD.out with ⟨rfl, hl⟩ | ⟨rfl, hl, hy⟩
      · have h2 : decide ((0 : Int) < (R.length : Int)) = false := decide_eq_false (by omega)
        have h3 : decide (0 < R.length) = false := decide_eq_false (by omega)
        clear HHD hl
        go_wp2_with fail
        go_meet
        exact ⟨rfl, rfl⟩
      · obtain ⟨b, of, hA, hbl, c0⟩ := atI (IR.out _ (Below.refl _ _)).cells hy
        subst hA
        have c1 : V2.cell? ⟨b, of, none⟩ = some (.int .i64 hd) := by rw [Nat.add_zero] at c0; exact c0
        have h1 : (0 : Int) < (R.length : Int) := by omega
        have h2 : decide ((0 : Int) < (R.length : Int)) = true := decide_eq_true h1
        have h3 : decide (0 < R.length) = true := decide_eq_true hl
        clear c0 IR IW HHD hy hl
        go_wp2_with fail
        go_meet
        exact ⟨rfl, rfl⟩
    case' rest => obtain ⟨rfl, rfl⟩ := hcut
    clear HHD
    go_wp2_with fail
    go_loopw [12, 11] (fun i la wr => ∃ m : Nat, m ≤ R.length ∧ i = .int .i64 m ∧ la = .int .i64 (lastL LA R m) ∧ Below V2.heap.size V2 wr) (fun i _ _ => R.length - (intOf i).toNat)
    case atStart => exact ⟨0, by omega, rfl, rfl, Below.refl _ _⟩
    case round =>
      obtain ⟨m, hm, rfl, rfl, hbw⟩ := hrel
      have HBm := Lib.hid hbw
      clear hbw
      by_cases hml : m < R.length
      case neg =>
        obtain rfl : m = R.length := by omega
        have HBo := Lib.hid (HB2.out.trans (HBm.out.mono HB2.out.size))
        go_wp2_with fail
        go_roundw
        case rel => exact ⟨k + 1, by omega, by go_num, HBo.out⟩
        case measure => simp [intOf] <;> omega
      have m0 : (0 : Int) ≤ (m : Int) := by omega
      have m1 : (m : Int) < (R.length : Int) := by omega
      obtain ⟨x, hx⟩ : ∃ x, R[m]? = some x := ⟨R[m], List.getElem?_eq_getElem hml⟩
      obtain ⟨hin, ⟨hle, hnn⟩, KA⟩ := HM.out x (List.mem_of_getElem? hx)
      have KA := Lib.hid KA
      obtain ⟨yb, yo, hYa, hyl, d0⟩ := atI (IR.out _ HBm.out).cells hx
      subst hYa
      have HXc := Lib.hid (fun W' (hb : Below wr.heap.size wr W') => (hb.cell (p := ⟨yb, yo + m, none⟩) hyl).trans d0)
      have HLS := Lib.hid (lastL_succ (K := LA) hx)
      have HBw := Lib.hid (HB2.out.trans (HBm.out.mono HB2.out.size))
      have KL := Lib.hid (fun Q cq W' (hb : Below V.heap.size V W') (iq : IntsAt W' Q cq (applyF n1 p1 o1 p 2 (k : Int) x).1) => Left_any A B C Q ca cb cc cq n1 p1 o1 (applyF n1 p1 o1 p 2 (k : Int) x).1 x W' (HSV.out W' hb).toIn iq)
      rw [hle] at KL
      have KI := Lib.hid (fun W' (hb : Below V2.heap.size V2 W') => in14_len Y2 y2 R.length Wl x W' HLN.out hin (IW.out W' hb))
      have HPR : Hid (∀ j, m = j + 1 → ∃ z, R[j]? = some z ∧ lastL LA R m = LA z.toNat ∧ (LA z.toNat < LA x.toNat ∨ (LA z.toNat = LA x.toNat ∧ z < x)) ∧ (∀ W', Below V2.heap.size V2 W' → W'.cell? ⟨yb, yo + j, none⟩ = some (.int .i64 z))) := Lib.hid (fun j hj => by
        subst hj
        have hjl : j < R.length := by omega
        have hz : R[j]? = some R[j] := List.getElem?_eq_getElem hjl
        refine ⟨R[j], hz, lastL_succ hz, HST.out j _ _ hz hx, fun W' hb => ?_⟩
        obtain ⟨b9, o9, hA9, _, c9⟩ := atI (IR.out _ hb).cells hz
        cases hA9
        exact c9)
      have HM0 : Hid (m = 0 → lastL LA R m = -1) := Lib.hid (fun h => by subst h; rfl)
      have HCb := Lib.hid (fun W' (hb : Below wr.heap.size wr W') => And.intro (HZ.out W' (HBw.out.trans (hb.mono HBw.out.size))) (HXc.out W' hb))
      clear d0 hx hyl hle hin HXc
      generalize (applyF n1 p1 o1 p 2 (k : Int) x).1 = q at KA KL
      generalize hlz : LA x.toNat = Lx at HPR KL HLS hnn
      clear hlz
      generalize lastL LA R m = L0 at HPR HM0 ⊢
      go_upto_region 16 with fail
      obtain ⟨w7, hw7⟩ : ∃ w7, w7 = wr := ⟨_, rfl⟩
      subst hw7
      have HB8 : Hid (Below w7.heap.size w7 w7.drew) := Lib.hid ((Below.refl _ w7).drew)
      have S0 := HCb.out _ (Below.refl _ w7)
      have S1 := HCb.out _ HB8.out
      have D1 : Hid (Below V.heap.size V w7.drew) := Lib.hid HBw.out.drew
      go_cut [13, 14] (fun u v wc => ∃ Q cq, u = .slice Q q.length cq ∧ v = .int .i64 0 ∧ IntsAt wc Q cq q ∧ Below w7.heap.size w7 wc)
      case first =>
        go_region_held3 (fun w' => (w'.cell? ⟨w.heap.size, 0, none⟩ = some (.slice A n1.length ca) ∧ w'.cell? ⟨w.heap.size, 1, none⟩ = some (.slice B p1.length cb) ∧ w'.cell? ⟨w.heap.size, 2, none⟩ = some (.slice C o1.length cc)) ∧ w'.cell? ⟨yb, yo + m, none⟩ = some (.int .i64 x))
          (first | (with_reducible exact S1) | (with_reducible exact S0) | (with_reducible exact S3) | go_keep)
          (first
            | (go_at_call 23; (with_reducible refine (KA.out _ D1.out).mono ?_); rintro e w3 ⟨Q, cq, rfl, i1, hb3⟩; have E3 : Hid (Below w7.heap.size w7 w3) := Lib.hid (HB8.out.trans (hb3.mono HB8.out.size)); have I1 := Lib.hid i1; clear i1 hb3; have S3 := HCb.out w3 E3.out)
            | skip)
        all_goals
          go_wp2_with fail
          go_meet
          exact ⟨_, _, rfl, rfl, I1.out, E3.out⟩
      case' rest => obtain ⟨Q, cq, rfl, rfl, iq, hb5⟩ := hcut
      have HQ := Lib.hid (fun W' (hb : Below wc.heap.size wc W') => iq.below hb)
      have HB5 := Lib.hid (HBm.out.trans (hb5.mono HBm.out.size))
      have HBw5 := Lib.hid (HBw.out.trans (hb5.mono HBw.out.size))
      have HCb5 := Lib.hid (fun W' (hb : Below wc.heap.size wc W') => HCb.out W' (hb5.trans (hb.mono hb5.size)))
      clear hb5 iq KA HB8 S0 S1 D1 HCb HBw HBm
      go_upto_region 17 with fail
      obtain ⟨w8, hw8⟩ : ∃ w8, w8 = wc := ⟨_, rfl⟩
      subst hw8
      have HB8 : Hid (Below w8.heap.size w8 w8.drew) := Lib.hid ((Below.refl _ w8).drew)
      have S0 := HCb5.out _ (Below.refl _ w8)
      have S1 := HCb5.out _ HB8.out
      have D1 : Hid (Below V.heap.size V w8.drew) := Lib.hid HBw5.out.drew
      have KL1 := Lib.hid (KL.out Q cq _ D1.out (HQ.out _ HB8.out))
      go_cut [15] (fun u wc => u = .int .i64 Lx ∧ Below w8.heap.size w8 wc)
      case first =>
        go_region_held3 (fun w' => (w'.cell? ⟨w.heap.size, 0, none⟩ = some (.slice A n1.length ca) ∧ w'.cell? ⟨w.heap.size, 1, none⟩ = some (.slice B p1.length cb) ∧ w'.cell? ⟨w.heap.size, 2, none⟩ = some (.slice C o1.length cc)) ∧ w'.cell? ⟨yb, yo + m, none⟩ = some (.int .i64 x))
          (first | (with_reducible exact S1) | (with_reducible exact S0) | (with_reducible exact S3) | go_keep)
          (first
            | (go_at_call 24; (with_reducible refine (KL1.out).mono ?_); rintro e w3 ⟨rfl, hb3⟩; have E3 : Hid (Below w8.heap.size w8 w3) := Lib.hid (HB8.out.trans (hb3.mono HB8.out.size)); clear hb3; have S3 := HCb5.out w3 E3.out)
            | skip)
        all_goals
          go_wp2_with fail
          go_meet
          exact ⟨rfl, E3.out⟩
      case' rest => obtain ⟨rfl, hb6⟩ := hcut
      have HB6 := Lib.hid (HB5.out.trans (hb6.mono HB5.out.size))
      have c0 := (HCb5.out _ hb6).2
      have KI1 := Lib.hid (fun n => KI.out (wc.drewN n) (belowN HB6.out n))
      clear hb6 KL KL1 HB8 S0 S1 D1 HCb5 HBw5 HB5 HQ KI
      by_cases hm0 : m = 0
      · have hL0 := HM0.out hm0
        have a1 : decide (Lx < L0) = false := decide_eq_false (by omega)
        have a2 : (Lx == L0) = false := by rw [beq_eq_false_iff_ne]; omega
        have a3 : decide (Lx = L0) = false := decide_eq_false (by omega)
        clear HPR HM0 hm0 hL0
        go_wp2_with fail
        go_quiet ((go_at_call 25; exact Calls.quiet_of_same (KI1.out _)))
        go_wp2
        go_roundw
        case rel => exact ⟨m + 1, by omega, by go_num, by rw [HLS.out], belowN HB6.out _⟩
        case measure => simp [intOf] <;> omega
      · obtain ⟨j, hj⟩ : ∃ j, m = j + 1 := ⟨m - 1, by omega⟩
        obtain ⟨z, hz, hL0, hlt2, hc⟩ := HPR.out j hj
        have c1 := hc _ HB6.out
        have j0 : (0 : Int) ≤ (j : Int) := by omega
        have j1 : (j : Int) < (R.length : Int) := by omega
        have j2 : ((m : Int) - 1) = (j : Int) := by omega
        have HJ := Lib.hid hj
        rw [← hL0] at hlt2
        have a1 : decide (Lx < L0) = false := decide_eq_false (by omega)
        clear HPR HM0 hc hz hm0 hj hL0
        by_cases he : Lx = L0
        · have hzx : z < x := by omega
          have a2 : (Lx == L0) = true := by rw [beq_iff_eq]; exact he
          have a3 : decide (Lx = L0) = true := decide_eq_true he
          have a4 : decide (x < z) = false := decide_eq_false (by omega)
          clear he hlt2
          go_wp2_with fail
          go_quiet ((go_at_call 25; exact Calls.quiet_of_same (KI1.out _)))
          go_wp2
          go_roundw
          case rel => exact ⟨m + 1, by omega, by go_num, by rw [HLS.out], belowN HB6.out _⟩
          case measure => simp [intOf] <;> omega
        · have a2 : (Lx == L0) = false := by rw [beq_eq_false_iff_ne]; exact he
          have a3 : decide (Lx = L0) = false := decide_eq_false he
          clear he hlt2
          go_wp2_with fail
          go_quiet ((go_at_call 25; exact Calls.quiet_of_same (KI1.out _)))
          go_wp2
          go_roundw
          case rel => exact ⟨m + 1, by omega, by go_num, by rw [HLS.out], belowN HB6.out _⟩
          case measure => simp [intOf] <;> omega
end Go.Proofs.YtmmokiaipfalmaaGreat
