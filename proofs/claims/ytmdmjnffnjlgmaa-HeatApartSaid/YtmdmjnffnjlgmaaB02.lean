/- No node is low and high; what is low, high or idle is so; each pod stands on just one node: the law's walk. Condition: the cluster lies in memory; a number for each of its pods does, too. No node is low and high; what is low, high or idle is so; each pod stands on just one node: the law's walk. Condition: the cluster lies in memory; a number for each of its pods does, too. A cluster as an argument, opened: how many bytes its pods take; four numbers in a row. No conditions but the form's own. -/
import Derived.Test.YtmdmjnffnjlgmaaB01
import Derived.Handy
import Derived.StillTailTactics
import Derived.SizedLaws

namespace Go.Proofs.Ytmdmjnffnjlgmaa
open Go.RowKit

set_option maxRecDepth 100000 in
set_option maxHeartbeats 16000000 in
theorem heatApart_yes (A B C : Option Addr) (ca cb cc : Nat) (ns : List NodeD) (ps : List PodD) (os : List OwnD) (l0 l1 l2 l3 : Int) (w : World) (h : SnapIn w A B C ca cb cc ns ps os) (hm : ps.length * 8 ≤ 140737488355328) (h0 : placeE ns ps os (placesP ns ps) = 0) :
    Calls Try.prog 3 #[snapV A B C ca cb cc ns ps os, .agg #[.int .i64 l0, .int .i64 l1, .int .i64 l2, .int .i64 l3]] w fun e w' => e = .returned (.bool true) ∧ Below w.heap.size w w' := by
  have H := Lib.hid h
  have HM := Lib.hid hm
  have KW := Lib.hid works12_any
  have KP0 := Lib.hid (fun W' (hb : Below w.heap.size w W') => placement_in A B C ca cb cc ns ps os W' (h.low hb) hm)
  have HL := Lib.hid (placesP_len ns ps)
  rw [placesP_len] at KP0
  have HE0 := Lib.hid h0
  clear h0
  generalize placesP ns ps = p at KP0 HL HE0
  obtain ⟨L0, hL0⟩ : ∃ x, min (l0 % 1001) (l1 % 1001) = x := ⟨_, rfl⟩
  obtain ⟨L1, hL1⟩ : ∃ x, min (l2 % 1001) (l3 % 1001) = x := ⟨_, rfl⟩
  obtain ⟨H0, hH0⟩ : ∃ x, max (l0 % 1001) (l1 % 1001) = x := ⟨_, rfl⟩
  obtain ⟨H1, hH1⟩ : ∃ x, max (l2 % 1001) (l3 % 1001) = x := ⟨_, rfl⟩
  have KF : Hid (∀ W, Calls Try.prog 7 #[.agg #[.int .i64 l0, .int .i64 l1, .int .i64 l2, .int .i64 l3]] W fun e w' => e = .returned (.agg #[.int .i64 L0, .int .i64 L1, .int .i64 H0, .int .i64 H1, .int .i64 0, .slice none 0 0, .int .i64 0, .int .i64 0, .bool false]) ∧ Below W.heap.size W w') := Lib.hid (fun W => by rw [← hL0, ← hL1, ← hH0, ← hH1]; exact fair_any l0 l1 l2 l3 W)
  have HG : Hid (checkG (polA L0 L1 H0 H1) = 0 ∧ 0 ≤ H0 ∧ 0 ≤ H1 ∧ L0 ≤ H0 ∧ L1 ≤ H1) := Lib.hid (by
    have h0 := fair_okH (a := l0 % 1001) (b := l1 % 1001) (c := l2 % 1001) (d := l3 % 1001) (by omega) (by omega) (by omega) (by omega)
    unfold fairG at h0
    rw [hL0, hL1, hH0, hH1] at h0
    exact ⟨h0, by omega, by omega, by omega, by omega⟩)
  have B0 : Hid (Below w.heap.size w ((w.alloc (.cells (snapC A B C ca cb cc ns ps os) 26)).alloc (.cells #[.int .i64 l0, .int .i64 l1, .int .i64 l2, .int .i64 l3] 27))) := Lib.hid ((below1 w _).alloc (by simp) _)
  have S0 : Hid (Blk ((w.alloc (.cells (snapC A B C ca cb cc ns ps os) 26)).alloc (.cells #[.int .i64 l0, .int .i64 l1, .int .i64 l2, .int .i64 l3] 27)) w.heap.size (snapC A B C ca cb cc ns ps os) 26) := Lib.hid (Blk.alloc (Blk.new w _ _) _)
  have T0 : Hid (Blk ((w.alloc (.cells (snapC A B C ca cb cc ns ps os) 26)).alloc (.cells #[.int .i64 l0, .int .i64 l1, .int .i64 l2, .int .i64 l3] 27)) (w.heap.size + 1) #[.int .i64 l0, .int .i64 l1, .int .i64 l2, .int .i64 l3] 27) := Lib.hid (blk2 w _ _ _)
  clear h hm hL0 hL1 hH0 hH1
  go_enter Try.func3, Try.ntmps3
  go_upto_region 1 with fail
  try change Code.wp _ _ _ _ ((w.alloc (.cells (snapC A B C ca cb cc ns ps os) 26)).alloc (.cells #[.int .i64 l0, .int .i64 l1, .int .i64 l2, .int .i64 l3] 27))
  generalize ((w.alloc (.cells (snapC A B C ca cb cc ns ps os) 26)).alloc (.cells #[.int .i64 l0, .int .i64 l1, .int .i64 l2, .int .i64 l3] 27)) = W0 at B0 S0 T0 ⊢
  go_wp2_with fail
  refine (KW.out _).mono ?_
  rintro e W1 ⟨rfl, hb⟩
  have S1 := Lib.hid (S0.out.below hb S0.out.lt)
  have T1 := Lib.hid (T0.out.below hb T0.out.lt)
  have B1 := Lib.hid (B0.out.trans (hb.mono B0.out.size))
  clear hb S0 T0 B0
  have HC1 : Hid (∀ W', Below W1.heap.size W1 W' → (W'.cell? ⟨w.heap.size, 0, none⟩ = some (.slice A ns.length ca) ∧ W'.cell? ⟨w.heap.size, 1, none⟩ = some (.slice B ps.length cb) ∧ W'.cell? ⟨w.heap.size, 2, none⟩ = some (.slice C os.length cc)) ∧ W'.cell? ⟨w.heap.size + 1, 0, none⟩ = some (.int .i64 l0) ∧ W'.cell? ⟨w.heap.size + 1, 1, none⟩ = some (.int .i64 l1) ∧ W'.cell? ⟨w.heap.size + 1, 2, none⟩ = some (.int .i64 l2) ∧ W'.cell? ⟨w.heap.size + 1, 3, none⟩ = some (.int .i64 l3)) := Lib.hid (fun W' hb => by
    have h1 := S1.out.below hb S1.out.lt
    have h2 := T1.out.below hb T1.out.lt
    exact ⟨⟨Blk.cell h1 0, Blk.cell h1 1, Blk.cell h1 2⟩, Blk.cell h2 0, Blk.cell h2 1, Blk.cell h2 2, Blk.cell h2 3⟩)
  have hNW : Hid (w.heap.size + 1 < W1.heap.size) := Lib.hid T1.out.lt
  have KP1 : Hid (∀ W', Below W1.heap.size W1 W' → Calls Try.prog 6 #[snapV A B C ca cb cc ns ps os] W' fun e w' => ∃ X cx, e = .returned (.slice X ps.length cx) ∧ w'.ownsRow w.heap.size 3 1 (.slice X ps.length cx) ps.length (intsC p) ∧ Below W'.heap.size W' w') := Lib.hid (fun W' hb => by
    have hw := B1.out.trans (hb.mono B1.out.size)
    refine (KP0.out W' hw).mono ?_
    rintro e w' ⟨X, cx, rfl, ho, hb⟩
    exact ⟨X, cx, rfl, own_moreH ho hw.size, hb⟩)
  clear KP0
  go_upto_region 3 with fail
  have DZ : Hid (Blk (W1.alloc (.cells #[.int .i64 0, .int .i64 0, .int .i64 0, .int .i64 0, .int .i64 0, .slice none 0 0, .int .i64 0, .int .i64 0, .bool false] 34)) W1.heap.size #[.int .i64 0, .int .i64 0, .int .i64 0, .int .i64 0, .int .i64 0, .slice none 0 0, .int .i64 0, .int .i64 0, .bool false] 34) := Lib.hid (Blk.new W1 _ _)
  go_cut [5, 6] (fun u v wc => ∃ X cx g, u = .slice X ps.length cx ∧ v = .pointer (some ⟨g, 0, none⟩) ∧ wc.ownsRow w.heap.size 3 1 (.slice X ps.length cx) ps.length (intsC p) ∧ Blk wc g #[.int .i64 L0, .int .i64 L1, .int .i64 H0, .int .i64 H1, .int .i64 0, .slice none 0 0, .int .i64 0, .int .i64 0, .bool false] 34 ∧ Below W1.heap.size W1 wc)
  case first =>
    refine r3_any KP1 KF HC1 ?_
    intros X cx g wc _ _ _ _ h1 h2 h3
    (try dsimp only)
    (try go_wp2_with fail)
    go_meet
    exact ⟨_, _, _, rfl, rfl, h1, h2, h3⟩
  case rest =>
    obtain ⟨X, cx, g, rfl, rfl, ho, hgb, hbc⟩ := hcut
    have O2 := Lib.hid ho
    have G2 := Lib.hid hgb
    have B2 : Hid (Below w.heap.size w wc) := Lib.hid (B1.out.trans (hbc.mono B1.out.size))
    have S2 := Lib.hid (S1.out.below hbc S1.out.lt)
    clear ho hgb hbc DZ KF KP1 HC1 T1 S1 B1 hNW
    generalize wc = W2 at O2 G2 B2 S2 ⊢
    have HI2 : Hid (IntsAt W2 X cx p) := Lib.hid (IntsAt.own (by rw [HL.out]; exact O2.out))
    have NS2 : Hid (∀ W', Below W2.heap.size W2 W' → SnapIn W' A B C ca cb cc ns ps os) := Lib.hid (fun W' hb => H.out.low (B2.out.trans (hb.mono B2.out.size)))
    have HC2 : Hid (∀ W', Below W2.heap.size W2 W' → W'.cell? ⟨w.heap.size, 0, none⟩ = some (.slice A ns.length ca) ∧ W'.cell? ⟨w.heap.size, 1, none⟩ = some (.slice B ps.length cb) ∧ W'.cell? ⟨w.heap.size, 2, none⟩ = some (.slice C os.length cc) ∧ W'.cell? ⟨g, 0, none⟩ = some (.int .i64 L0) ∧ W'.cell? ⟨g, 1, none⟩ = some (.int .i64 L1) ∧ W'.cell? ⟨g, 2, none⟩ = some (.int .i64 H0) ∧ W'.cell? ⟨g, 3, none⟩ = some (.int .i64 H1) ∧ W'.cell? ⟨g, 4, none⟩ = some (.int .i64 0) ∧ W'.cell? ⟨g, 5, none⟩ = some (.slice none 0 0) ∧ W'.cell? ⟨g, 6, none⟩ = some (.int .i64 0) ∧ W'.cell? ⟨g, 7, none⟩ = some (.int .i64 0) ∧ W'.cell? ⟨g, 8, none⟩ = some (.bool false)) := Lib.hid (fun W' hb => by
      have h1 := S2.out.below hb S2.out.lt
      have h2 := G2.out.below hb G2.out.lt
      exact ⟨Blk.cell h1 0, Blk.cell h1 1, Blk.cell h1 2, Blk.cell h2 0, Blk.cell h2 1, Blk.cell h2 2, Blk.cell h2 3, Blk.cell h2 4, Blk.cell h2 5, Blk.cell h2 6, Blk.cell h2 7, Blk.cell h2 8⟩)
    have KC : Hid (∀ W', Below W2.heap.size W2 W' → Calls Try.prog 8 #[snapV A B C ca cb cc ns ps os, .slice X ps.length cx] W' fun e w' => e = .returned (.int .i64 (placeE ns ps os p)) ∧ Below W'.heap.size W' w') := Lib.hid (fun W' hb => by
      have k := pcheck_in A B C X ca cb cc cx ns ps os p W' (NS2.out W' hb) (HI2.out.below hb)
      rw [HL.out] at k
      exact k)
    have KLO : Hid (∀ W', Below W2.heap.size W2 W' → Calls Try.prog 9 #[snapV A B C ca cb cc ns ps os, .slice X ps.length cx, .agg #[.int .i64 L0, .int .i64 L1, .int .i64 H0, .int .i64 H1, .int .i64 0, .slice none 0 0, .int .i64 0, .int .i64 0, .bool false]] W' fun e w' => ∃ v, e = .returned v ∧ w'.ownsRow w.heap.size 3 1 v (lowF ns ps os p (polA L0 L1 H0 H1)).length (intsC (lowF ns ps os p (polA L0 L1 H0 H1))) ∧ Below W'.heap.size W' w') := Lib.hid (fun W' hb => by
      have k := hLow_in A B C X none ca cb cc cx 0 ns ps os p (polA L0 L1 H0 H1) W' (NS2.out W' hb) (HI2.out.below hb) (NamesAt.nilH _)
      rw [HL.out] at k
      exact k.mono fun e w' ⟨v, he, ho, hb'⟩ => ⟨v, he, own_moreH ho (Nat.le_trans B2.out.size hb.size), hb'⟩)
    have KHI : Hid (∀ W', Below W2.heap.size W2 W' → Calls Try.prog 10 #[snapV A B C ca cb cc ns ps os, .slice X ps.length cx, .agg #[.int .i64 L0, .int .i64 L1, .int .i64 H0, .int .i64 H1, .int .i64 0, .slice none 0 0, .int .i64 0, .int .i64 0, .bool false]] W' fun e w' => ∃ v, e = .returned v ∧ w'.ownsRow w.heap.size 3 1 v (highF ns ps os p (polA L0 L1 H0 H1)).length (intsC (highF ns ps os p (polA L0 L1 H0 H1))) ∧ Below W'.heap.size W' w') := Lib.hid (fun W' hb => by
      have k := hHigh_in A B C X none ca cb cc cx 0 ns ps os p (polA L0 L1 H0 H1) W' (NS2.out W' hb) (HI2.out.below hb) (NamesAt.nilH _)
      rw [HL.out] at k
      exact k.mono fun e w' ⟨v, he, ho, hb'⟩ => ⟨v, he, own_moreH ho (Nat.le_trans B2.out.size hb.size), hb'⟩)
    have KID : Hid (∀ W', Below W2.heap.size W2 W' → Calls Try.prog 11 #[snapV A B C ca cb cc ns ps os, .slice X ps.length cx] W' fun e w' => ∃ v, e = .returned v ∧ w'.ownsRow w.heap.size 3 1 v (idleF ns ps os p).length (intsC (idleF ns ps os p)) ∧ Below W'.heap.size W' w') := Lib.hid (fun W' hb => by
      have k := hIdle_in A B C X ca cb cc cx ns ps os p W' (NS2.out W' hb) (HI2.out.below hb)
      rw [HL.out] at k
      exact k.mono fun e w' ⟨v, he, ho, hb'⟩ => ⟨v, he, own_moreH ho (Nat.le_trans B2.out.size hb.size), hb'⟩)
    have FN : Hid (placeE ns ps os p ≠ 0 → lowF ns ps os p (polA L0 L1 H0 H1) = [] ∧ highF ns ps os p (polA L0 L1 H0 H1) = [] ∧ idleF ns ps os p = []) := Lib.hid (fun hE => by
      unfold lowF highF idleF pickF
      rw [if_neg hE, if_neg hE, if_neg hE]
      exact ⟨by split <;> rfl, by split <;> rfl, rfl⟩)
    have FY : Hid (placeE ns ps os p = 0 → ∀ m : Nat, m < ns.length → (lowF ns ps os p (polA L0 L1 H0 H1)).contains (m : Int) = (liveB ns m && lowB ns ps p (polA L0 L1 H0 H1) m) ∧ (highF ns ps os p (polA L0 L1 H0 H1)).contains (m : Int) = (liveB ns m && highB ns ps p (polA L0 L1 H0 H1) m) ∧ (idleF ns ps os p).contains (m : Int) = (liveB ns m && idleB p m)) := Lib.hid (fun hE m hm => by
      unfold lowF highF idleF pickF
      rw [if_pos hE, if_pos hE, if_pos hE, if_pos HG.out.1, if_pos HG.out.1]
      exact ⟨has_thatH ns _ m ns.length hm, has_thatH ns _ m ns.length hm, has_thatH ns _ m ns.length hm⟩)
    generalize lowF ns ps os p (polA L0 L1 H0 H1) = LO at KLO FN FY
    generalize highF ns ps os p (polA L0 L1 H0 H1) = HI at KHI FN FY
    generalize idleF ns ps os p = ID at KID FN FY
    obtain ⟨E, hEE⟩ : ∃ E, placeE ns ps os p = E := ⟨_, rfl⟩
    have HEE := Lib.hid hEE
    rw [hEE] at KC FN FY
    clear hEE
    go_upto_region 4 with fail
    obtain ⟨z0, z1, z2, e0, e1, e2, e3, e4, e5, e6, e7, e8⟩ := HC2.out W2 (Below.refl _ _)
    go_wp2_with fail
    refine (KC.out W2 (Below.refl _ _)).mono ?_
    rintro e W3 ⟨rfl, hb⟩
    have B3 := Lib.hid hb
    have b3 := hb
    have b3s := hb.size
    clear hb KC z0 z1 z2 e0 e1 e2 e3 e4 e5 e6 e7 e8
    obtain ⟨z0, z1, z2, e0, e1, e2, e3, e4, e5, e6, e7, e8⟩ := HC2.out W3 B3.out
    by_cases hE : E = 0
    case neg => exact absurd (HEE.out.symm.trans HE0.out) hE
    subst hE
    have hEr : Hid (∀ m : Nat, m < ns.length → LO.contains (m : Int) = (liveB ns m && lowB ns ps p (polA L0 L1 H0 H1) m) ∧ HI.contains (m : Int) = (liveB ns m && highB ns ps p (polA L0 L1 H0 H1) m) ∧ ID.contains (m : Int) = (liveB ns m && idleB p m)) := Lib.hid (FY.out rfl)
    clear FN FY
    go_upto_region 6 with fail
    go_cut [7, 8, 9] (fun u v z wc => ∃ XL cL XH cH XI cI, u = .slice XL LO.length cL ∧ v = .slice XH HI.length cH ∧ z = .slice XI ID.length cI ∧ wc.ownsRow w.heap.size 3 1 (.slice XL LO.length cL) LO.length (intsC LO) ∧ wc.ownsRow w.heap.size 3 1 (.slice XH HI.length cH) HI.length (intsC HI) ∧ wc.ownsRow w.heap.size 3 1 (.slice XI ID.length cI) ID.length (intsC ID) ∧ Below W2.heap.size W2 wc)
    case first =>
      refine r6_any B3 KLO KHI KID HC2 ?_
      intros XL cL XH cH XI cI wc _ _ _ _ _ _ _ _ _ _ _ h1 h2 h3 h4
      (try dsimp only)
      (try go_wp2_with fail)
      go_meet
      exact ⟨_, _, _, _, _, _, rfl, rfl, rfl, h1, h2, h3, h4⟩
    case rest =>
      obtain ⟨XL, cL, XH, cH, XI, cI, rfl, rfl, rfl, hOL, hOH, hOI, hbc⟩ := hcut
      have B4 := Lib.hid hbc
      have IL : Hid (IntsAt wc XL cL LO) := Lib.hid (IntsAt.own hOL)
      have IH : Hid (IntsAt wc XH cH HI) := Lib.hid (IntsAt.own hOH)
      have II : Hid (IntsAt wc XI cI ID) := Lib.hid (IntsAt.own hOI)
      clear hOL hOH hOI hbc KLO KHI KID z0 z1 z2 e0 e1 e2 e3 e4 e5 e6 e7 e8 B3 b3 b3s
      generalize wc = W4 at B4 IL IH II ⊢
      have BW : Hid (Below w.heap.size w W4) := Lib.hid (B2.out.trans (B4.out.mono B2.out.size))
      have HX4 : Hid (IntsAt W4 X cx p) := Lib.hid (HI2.out.below B4.out)
      have NS4 : Hid (∀ W', Below W4.heap.size W4 W' → SnapIn W' A B C ca cb cc ns ps os) := Lib.hid (fun W' hb => NS2.out W' (B4.out.trans (hb.mono B4.out.size)))
      have HC4 : Hid (∀ W', Below W4.heap.size W4 W' → W'.cell? ⟨w.heap.size, 0, none⟩ = some (.slice A ns.length ca) ∧ W'.cell? ⟨w.heap.size, 1, none⟩ = some (.slice B ps.length cb) ∧ W'.cell? ⟨w.heap.size, 2, none⟩ = some (.slice C os.length cc) ∧ W'.cell? ⟨g, 0, none⟩ = some (.int .i64 L0) ∧ W'.cell? ⟨g, 1, none⟩ = some (.int .i64 L1) ∧ W'.cell? ⟨g, 2, none⟩ = some (.int .i64 H0) ∧ W'.cell? ⟨g, 3, none⟩ = some (.int .i64 H1) ∧ W'.cell? ⟨g, 4, none⟩ = some (.int .i64 0) ∧ W'.cell? ⟨g, 5, none⟩ = some (.slice none 0 0) ∧ W'.cell? ⟨g, 6, none⟩ = some (.int .i64 0) ∧ W'.cell? ⟨g, 7, none⟩ = some (.int .i64 0) ∧ W'.cell? ⟨g, 8, none⟩ = some (.bool false)) := Lib.hid (fun W' hb => HC2.out W' (B4.out.trans (hb.mono B4.out.size)))
      have KIL : Hid (∀ (m : Nat) W', Below W4.heap.size W4 W' → Calls Try.prog 14 #[.slice XL LO.length cL, .int .i64 (m : Int)] W' fun e w' => e = .returned (.bool (LO.contains (m : Int))) ∧ w' = W') := Lib.hid (fun m W' hb => inH_any XL cL LO m W' (IL.out.below hb))
      have KIH : Hid (∀ (m : Nat) W', Below W4.heap.size W4 W' → Calls Try.prog 14 #[.slice XH HI.length cH, .int .i64 (m : Int)] W' fun e w' => e = .returned (.bool (HI.contains (m : Int))) ∧ w' = W') := Lib.hid (fun m W' hb => inH_any XH cH HI m W' (IH.out.below hb))
      have KII : Hid (∀ (m : Nat) W', Below W4.heap.size W4 W' → Calls Try.prog 14 #[.slice XI ID.length cI, .int .i64 (m : Int)] W' fun e w' => e = .returned (.bool (ID.contains (m : Int))) ∧ w' = W') := Lib.hid (fun m W' hb => inH_any XI cI ID m W' (II.out.below hb))
      have KSh : Hid (∀ (m : Nat) W', Below W4.heap.size W4 W' → Calls Try.prog 12 #[snapV A B C ca cb cc ns ps os, .slice X ps.length cx, .int .i64 (m : Int)] W' fun e w' => e = .returned (.agg #[.int .i64 (shareF ns ps os p (m : Int) 0), .int .i64 (shareF ns ps os p (m : Int) 1)]) ∧ Below W'.heap.size W' w') := Lib.hid (fun m W' hb => by
        have k := hShare_in A B C X ca cb cc cx ns ps os p (m : Int) W' (NS4.out W' hb) (HX4.out.below hb)
        rw [HL.out] at k
        exact k)
      have KPd : Hid (∀ (m : Nat) W', m < ns.length → Below W4.heap.size W4 W' → Calls Try.prog 13 #[snapV A B C ca cb cc ns ps os, .slice X ps.length cx, .int .i64 (m : Int)] W' fun e w' => ∃ v, e = .returned v ∧ w'.ownsRow w.heap.size 3 1 v (onU p (m : Int) p.length).length (intsC ((onU p (m : Int) p.length).map (fun k : Nat => (k : Int)))) ∧ Below W'.heap.size W' w') := Lib.hid (fun m W' hm hb => by
        have k := hPods_in A B C X ca cb cc cx ns ps os p (m : Int) W' (NS4.out W' hb) (HX4.out.below hb)
        have hk : nodeK ns ps os p (m : Int) = true := by unfold nodeK; exact decide_eq_true ⟨HEE.out, by omega, by omega⟩
        unfold podsF at k
        rw [if_pos hk, List.length_map] at k
        generalize onU p (m : Int) p.length = U at k ⊢
        rw [HL.out] at k
        exact k.mono fun e w' ⟨v, he, ho, hb'⟩ => ⟨v, he, own_moreH ho (Nat.le_trans BW.out.size hb.size), hb'⟩)
      have hfw := placeE_few HEE.out
      have hf1 : ns.length ≤ 8 := hfw.1
      have hf2 : ps.length ≤ 24 := hfw.2.1
      have HF := Lib.hid (And.intro hf1 hf2)
      clear IL IH II HI2 NS2 HC2 S2 G2 O2 hfw hf1 hf2
      obtain ⟨z0, z1, z2, e0, e1, e2, e3, e4, e5, e6, e7, e8⟩ := HC4.out W4 (Below.refl _ _)
      go_wp2_with fail
      clear z0 z1 z2 e0 e1 e2 e3 e4 e5 e6 e7 e8
      go_loopw [10, 11] (fun many i wr => ∃ m : Nat, m ≤ ns.length ∧ i = .int .i64 m ∧ many = .int .i64 (manyK p p.length m) ∧ Below W4.heap.size W4 wr) (fun _ i _ => ns.length - (RowKit.intOf i).toNat)
      case atStart => exact ⟨0, by omega, rfl, rfl, Below.refl _ _⟩
      case round =>
        obtain ⟨m, hml, rfl, rfl, hb⟩ := hrel
        have HB := Lib.hid hb
        clear hb
        obtain ⟨z0, z1, z2, e0, e1, e2, e3, e4, e5, e6, e7, e8⟩ := HC4.out wr HB.out
        by_cases hlt : m < ns.length
        · obtain ⟨x, hx⟩ : ∃ x, ns[m]? = some x := ⟨_, List.getElem?_eq_getElem hlt⟩
          have m0 : (0 : Int) ≤ (m : Int) := by omega
          have m1 : (m : Int) < (ns.length : Int) := by omega
          have hk : nodeK ns ps os p (m : Int) = true := by unfold nodeK; exact decide_eq_true ⟨HEE.out, by omega, by omega⟩
          have q0 := shareF_yes hk 0
          have q1 := shareF_yes hk 1
          obtain ⟨r1, r2, r3⟩ := hEr.out m hlt
          have hlv : liveB ns m = !x.lost := by unfold liveB; rw [hx]
          unfold lowB at r1
          unfold highB at r2
          unfold idleB at r3
          rw [← q0, ← q1, hlv] at r1 r2
          rw [hlv] at r3
          have KS1 := Lib.hid (fun W' (hb : Below wr.heap.size wr W') => KSh.out m W' (HB.out.trans (hb.mono HB.out.size)))
          have KP1 := Lib.hid (fun W' (hb : Below wr.heap.size wr W') => KPd.out m W' hlt (HB.out.trans (hb.mono HB.out.size)))
          have KL1 := Lib.hid (fun W' (hb : Below wr.heap.size wr W') => KIL.out m W' (HB.out.trans (hb.mono HB.out.size)))
          have KH1 := Lib.hid (fun W' (hb : Below wr.heap.size wr W') => KIH.out m W' (HB.out.trans (hb.mono HB.out.size)))
          have KI1 := Lib.hid (fun W' (hb : Below wr.heap.size wr W') => KII.out m W' (HB.out.trans (hb.mono HB.out.size)))
          have hUz := on_hasH p (m : Int)
          have hUl := onU_len p (m : Int) p.length
          have hUa := fun i y => on_atH p (m : Int) i y
          have hUn := fun i y z => on_nextH p (m : Int) i y z
          have hMs : manyK p p.length (m + 1) = manyK p p.length m + ((onU p (m : Int) p.length).length : Int) := rfl
          have hMb := manyK_bound p p.length m
          clear q0 q1
          generalize shareF ns ps os p (m : Int) 0 = x0 at KS1 r1 r2
          generalize shareF ns ps os p (m : Int) 1 = x1 at KS1 r1 r2
          generalize onU p (m : Int) p.length = U at KP1 hUz hUl hUa hUn hMs
          generalize p.contains (m : Int) = has at r1 r3 hUz
          generalize LO.contains (m : Int) = bl at KL1 r1
          generalize HI.contains (m : Int) = bh at KH1 r2
          generalize ID.contains (m : Int) = bi at KI1 r3
          have hMb2 : 0 ≤ manyK p p.length m ∧ manyK p p.length m ≤ 192 := by
            have h1 := HF.out.1
            have h2 := HF.out.2
            have h3 := HL.out
            refine ⟨hMb.1, Int.le_trans hMb.2 ?_⟩
            have h4 : p.length * m ≤ 24 * 8 := Nat.mul_le_mul (by omega) (by omega)
            exact_mod_cast h4
          generalize manyK p p.length m = M at hMs hMb2 ⊢
          rw [HL.out] at hUl
          have R1 := Lib.hid r1
          have R2 := Lib.hid r2
          have R3 := Lib.hid r3
          have HUZ := Lib.hid hUz
          have HUL := Lib.hid hUl
          have HUA := Lib.hid hUa
          have HUN := Lib.hid hUn
          have HMS := Lib.hid hMs
          have HMB := Lib.hid hMb2
          have HX := Lib.hid hx
          have HCs : Hid (∀ W', Below wr.heap.size wr W' → W'.cell? ⟨w.heap.size, 0, none⟩ = some (.slice A ns.length ca) ∧ W'.cell? ⟨w.heap.size, 1, none⟩ = some (.slice B ps.length cb) ∧ W'.cell? ⟨w.heap.size, 2, none⟩ = some (.slice C os.length cc)) := Lib.hid (fun W' hb => by
            obtain ⟨z0, z1, z2, e0, e1, e2, e3, e4, e5, e6, e7, e8⟩ := HC4.out W' (HB.out.trans (hb.mono HB.out.size))
            exact ⟨z0, z1, z2⟩)
          clear hlv hMb hUz hUl hUa hUn hMs hMb2 hx r1 r2 r3 hk e0 e1 e2 e3 e4 e5 e6 e7 e8
          have DZ : Hid (Blk (wr.alloc (.cells #[.int .i64 0, .int .i64 0] 31)) wr.heap.size #[.int .i64 0, .int .i64 0] 31) := Lib.hid (Blk.new wr _ _)
          go_upto_region 11 with fail
          go_cut [12, 13] (fun u v wc => ∃ gx XP cP, u = .pointer (some ⟨gx, 0, none⟩) ∧ v = .slice XP U.length cP ∧ Blk wc gx #[.int .i64 x0, .int .i64 x1] 31 ∧ wc.ownsRow w.heap.size 3 1 (.slice XP U.length cP) U.length (intsC (U.map (fun k : Nat => (k : Int)))) ∧ Below wr.heap.size wr wc)
          case first =>
            refine r11_any KS1 KP1 HCs ?_
            intros gx XP cP wc _ _ _ _ _ _ _ _ hx1 hx2 hx3
            (try dsimp only)
            (try go_wp2_with fail)
            go_meet
            exact ⟨_, _, _, rfl, rfl, hx1, hx2, hx3⟩
          case rest =>
            obtain ⟨gx, XP, cP, rfl, rfl, hgx, hop, hbc⟩ := hcut
            have GX := Lib.hid hgx
            have IP : Hid (IntsAt wc XP cP (U.map (fun k : Nat => (k : Int)))) := Lib.hid (IntsAt.own (by rw [List.length_map]; exact hop))
            have HBa : Hid (Below W4.heap.size W4 wc) := Lib.hid (HB.out.trans (hbc.mono HB.out.size))
            have HRa : Hid (Below wr.heap.size wr wc) := Lib.hid hbc
            clear hgx hop hbc DZ KS1 KP1 HCs z0 z1 z2
            generalize wc = Wa at GX IP HBa HRa ⊢
            go_wp2_with fail
            go_loopw [14] (fun i wk => ∃ j : Nat, j ≤ U.length ∧ i = .int .i64 j ∧ Below Wa.heap.size Wa wk) (fun i _ => U.length - (RowKit.intOf i).toNat)
            case atStart => exact ⟨0, by omega, rfl, Below.refl _ _⟩
            case round =>
              rename World => wk
              obtain ⟨j, hjl, rfl, hbk⟩ := hrel
              have HBk := Lib.hid hbk
              have HWk : Hid (Below W4.heap.size W4 wk) := Lib.hid (HBa.out.trans (hbk.mono HBa.out.size))
              have HRk : Hid (Below wr.heap.size wr wk) := Lib.hid (HRa.out.trans (hbk.mono HRa.out.size))
              clear hbk
              by_cases hj : j < U.length
              · obtain ⟨y, hy⟩ : ∃ y, U[j]? = some y := ⟨_, List.getElem?_eq_getElem hj⟩
                obtain ⟨hyl, hyp⟩ := HUA.out j y hy
                have hjU : U.length ≤ 24 := Nat.le_trans HUL.out HF.out.2
                have hyl2 : y < ps.length := by rw [← HL.out]; exact hyl
                have hym : (U.map (fun k : Nat => (k : Int)))[j]? = some (y : Int) := by rw [List.getElem?_map, hy]; rfl
                obtain ⟨bq, oq, hA1, _, hcq⟩ := atI (IP.out.below HBk.out).cells hym
                obtain ⟨bp, op, hA2, _, hcp⟩ := atI (HX4.out.below HWk.out).cells hyp
                have hY := Lib.hid hy
                have HA1 := Lib.hid hA1
                have HA2 := Lib.hid hA2
                have y0 : (0 : Int) ≤ (y : Int) := by omega
                have y1 : (y : Int) < (ps.length : Int) := by omega
                have j0 : (0 : Int) ≤ (j : Int) := by omega
                have j1 : (j : Int) < (U.length : Int) := by omega
                have hmm : ((m : Int) != (m : Int)) = false := by simp
                clear hy hyl hyp hym hyl2
                subst hA1
                subst hA2
                by_cases hjz : j = 0
                · subst hjz
                  have hcq : wk.cell? ⟨bq, oq, none⟩ = some (.int .i64 (y : Int)) := hcq
                  go_upto_region 15 with fail
                  go_quiet (fail)
                  go_wp2_with fail
                  go_roundw
                  case rel => exact ⟨1, by omega, by go_num, belowN HBk.out _⟩
                  case measure => simp [RowKit.intOf]; omega
                · obtain ⟨i, hi⟩ : ∃ i, j = i + 1 := ⟨j - 1, by omega⟩
                  obtain ⟨z, hz⟩ : ∃ z, U[i]? = some z := ⟨_, List.getElem?_eq_getElem (by omega)⟩
                  have hzy : z < y := HUN.out i z y hz (by rw [← hi]; exact hY.out)
                  have hzm : (U.map (fun k : Nat => (k : Int)))[i]? = some (z : Int) := by rw [List.getElem?_map, hz]; rfl
                  obtain ⟨bq', oq', hA1, _, hcz⟩ := atI (IP.out.below HBk.out).cells hzm
                  cases hA1
                  have i0 : (0 : Int) ≤ (i : Int) := by omega
                  have i1 : (i : Int) < (U.length : Int) := by omega
                  have hij : (j : Int) - 1 = (i : Int) := by omega
                  have hj2 : (0 : Int) < (j : Int) := by omega
                  have hj3 : decide ((0 : Int) < (j : Int)) = true := decide_eq_true hj2
                  have hj4 : 0 < j := by omega
                  have hj5 : decide (0 < j) = true := decide_eq_true hj4
                  have hj6 : (j == 0) = false := by simpa using hjz
                  have hj7 : decide (j = 0) = false := decide_eq_false hjz
                  have hz1 : ¬ (y : Int) ≤ (z : Int) := by omega
                  have hz2 : decide ((y : Int) ≤ (z : Int)) = false := decide_eq_false hz1
                  clear hz hzm hi
                  go_upto_region 15 with fail
                  go_quiet (fail)
                  go_wp2_with fail
                  go_roundw
                  case rel => exact ⟨j + 1, by omega, by go_num, belowN HBk.out _⟩
                  case measure => simp [RowKit.intOf]; omega
              · obtain rfl : j = U.length := by omega
                obtain ⟨z0, z1, z2, e0, e1, e2, e3, e4, e5, e6, e7, e8⟩ := HC4.out wk HWk.out
                obtain ⟨nb, no, hNA, _, d0, d1, d2, d3, d4, d5, d6, d7, d8, d9⟩ := atN (NS4.out wk HWk.out).n.1 HX.out
                subst hNA
                clear d0 d1 d2 d3 d4 d5 d6 d7 d8
                have g0 : wk.cell? ⟨gx, 0, none⟩ = some (.int .i64 x0) := Blk.cell (GX.out.below HBk.out GX.out.lt) 0
                have g1 : wk.cell? ⟨gx, 1, none⟩ = some (.int .i64 x1) := Blk.cell (GX.out.below HBk.out GX.out.lt) 1
                have KLw := Lib.hid (KL1.out wk HRk.out)
                have KHw := Lib.hid (KH1.out wk HRk.out)
                have KIw := Lib.hid (KI1.out wk HRk.out)
                obtain ⟨lo, hlo⟩ : ∃ b, x.lost = b := ⟨_, rfl⟩
                rw [hlo] at d9
                have R1' : Hid (bl = (!lo && (has && decide (x0 < L0) && decide (x1 < L1)))) := Lib.hid (by rw [← hlo]; exact R1.out)
                have R2' : Hid (bh = (!lo && (decide (H0 ≠ 0 ∧ H0 < x0) || decide (H1 ≠ 0 ∧ H1 < x1)))) := Lib.hid (by rw [← hlo]; exact R2.out)
                have R3' : Hid (bi = (!lo && !has)) := Lib.hid (by rw [← hlo]; exact R3.out)
                have hjU : U.length ≤ 24 := Nat.le_trans HUL.out HF.out.2
                have hM0 := HMB.out.1
                have hM1 := HMB.out.2
                clear hlo HMB
                go_upto_region 19 with fail
                generalize M + (U.length : Int) = M2 at HMS ⊢
                go_cut [161] (fun v wd => v = .bool false ∧ wd = wk)
                case first =>
                  have hgq : Hid (0 ≤ H0 ∧ 0 ≤ H1 ∧ L0 ≤ H0 ∧ L1 ≤ H1) := Lib.hid HG.out.2
                  refine r19_any KLw KHw KIw R1' R2' R3' HUZ hgq g0 g1 e0 e1 hjU ?_
                  intros
                  (try dsimp only)
                  (try go_wp2_with fail)
                  go_meet
                  exact ⟨by first | rfl | trivial, by first | rfl | trivial⟩
                case rest =>
                  obtain ⟨rfl, hwd⟩ := hcut
                  have hwd2 := hwd.symm
                  clear hwd
                  subst hwd2
                  obtain ⟨h1, q1⟩ : ∃ b, decide (H0 ≠ 0 ∧ H0 < x0) = b := ⟨_, rfl⟩
                  obtain ⟨h2, q2⟩ : ∃ b, decide (H1 ≠ 0 ∧ H1 < x1) = b := ⟨_, rfl⟩
                  have R2'' : Hid (bh = (!lo && (h1 || h2))) := Lib.hid (by rw [← q1, ← q2]; exact R2'.out)
                  have Q1 := Lib.hid q1
                  have Q2 := Lib.hid q2
                  clear q1 q2 d9 g0 g1 KLw KIw KHw z0 z1 z2 e0 e1 e2 e3 e4 e5 e6 e7 e8
                  go_wp2_with fail
                  go_loopw [16, 17] (fun ht i wz => ∃ k : Nat, k ≤ 2 ∧ i = .int .i64 k ∧ (k = 0 → ht = .bool false) ∧ (k = 1 → ht = .bool h1) ∧ (k = 2 → ht = .bool (h1 || h2)) ∧ Below wk.heap.size wk wz) (fun _ i _ => 2 - (RowKit.intOf i).toNat)
                  case atStart => exact ⟨0, by omega, rfl, fun _ => rfl, fun h => (by omega), fun h => (by omega), Below.refl _ _⟩
                  case round =>
                    rename World => wz
                    obtain ⟨k, hk2, rfl, hk0, hk1, hk3, hbz⟩ := hrel
                    have HBz := Lib.hid hbz
                    have HWz : Hid (Below W4.heap.size W4 wz) := Lib.hid (HWk.out.trans (hbz.mono HWk.out.size))
                    have HRz : Hid (Below wr.heap.size wr wz) := Lib.hid (HRk.out.trans (hbz.mono HRk.out.size))
                    clear hbz
                    obtain ⟨z0, z1, z2, e0, e1, e2, e3, e4, e5, e6, e7, e8⟩ := HC4.out wz HWz.out
                    have GXz := Lib.hid (GX.out.below (HBk.out.trans (HBz.out.mono HBk.out.size)) GX.out.lt)
                    have g0 : wz.cell? ⟨gx, 0, none⟩ = some (.int .i64 x0) := Blk.cell GXz.out 0
                    have g1 : wz.cell? ⟨gx, 1, none⟩ = some (.int .i64 x1) := Blk.cell GXz.out 1
                    have hH0 := HG.out.2.1
                    have hH1 := HG.out.2.2.1
                    rcases k with _ | _ | _ | k
                    · obtain rfl := hk0 rfl
                      clear hk0 hk1 hk3
                      by_cases c0 : 0 < H0
                      · by_cases c1 : H0 < x0
                        · obtain rfl : h1 = true := by rw [← Q1.out]; exact decide_eq_true ⟨by omega, c1⟩
                          go_upto_region 25 with fail
                          go_quiet (fail)
                          go_wp2_with fail
                          go_roundw
                          case rel => exact ⟨1, by omega, by go_num, fun h => (by omega), fun h => (by first | rfl | omega), fun h => (by first | rfl | omega), belowN HBz.out _⟩
                          case measure => simp [RowKit.intOf]
                        · obtain rfl : h1 = false := by rw [← Q1.out]; exact decide_eq_false (fun h => c1 h.2)
                          go_upto_region 25 with fail
                          go_quiet (fail)
                          go_wp2_with fail
                          go_roundw
                          case rel => exact ⟨1, by omega, by go_num, fun h => (by omega), fun h => (by first | rfl | omega), fun h => (by first | rfl | omega), belowN HBz.out _⟩
                          case measure => simp [RowKit.intOf]
                      · obtain rfl : h1 = false := by rw [← Q1.out]; exact decide_eq_false (fun h => c0 (by omega))
                        go_upto_region 25 with fail
                        go_quiet (fail)
                        go_wp2_with fail
                        go_roundw
                        case rel => exact ⟨1, by omega, by go_num, fun h => (by omega), fun h => (by first | rfl | omega), fun h => (by first | rfl | omega), belowN HBz.out _⟩
                        case measure => simp [RowKit.intOf]
                    · obtain rfl := hk1 rfl
                      clear hk0 hk1 hk3
                      cases h1 with
                      | true =>
                        go_upto_region 25 with fail
                        go_quiet (fail)
                        go_wp2_with fail
                        go_roundw
                        case rel => exact ⟨2, by omega, by go_num, fun h => (by omega), fun h => (by first | rfl | omega), fun h => (by first | rfl | omega), belowN HBz.out _⟩
                        case measure => simp [RowKit.intOf]
                      | false =>
                        by_cases c0 : 0 < H1
                        · by_cases c1 : H1 < x1
                          · obtain rfl : h2 = true := by rw [← Q2.out]; exact decide_eq_true ⟨by omega, c1⟩
                            go_upto_region 25 with fail
                            go_quiet (fail)
                            go_wp2_with fail
                            go_roundw
                            case rel => exact ⟨2, by omega, by go_num, fun h => (by omega), fun h => (by first | rfl | omega), fun h => (by first | rfl | omega), belowN HBz.out _⟩
                            case measure => simp [RowKit.intOf]
                          · obtain rfl : h2 = false := by rw [← Q2.out]; exact decide_eq_false (fun h => c1 h.2)
                            go_upto_region 25 with fail
                            go_quiet (fail)
                            go_wp2_with fail
                            go_roundw
                            case rel => exact ⟨2, by omega, by go_num, fun h => (by omega), fun h => (by first | rfl | omega), fun h => (by first | rfl | omega), belowN HBz.out _⟩
                            case measure => simp [RowKit.intOf]
                        · obtain rfl : h2 = false := by rw [← Q2.out]; exact decide_eq_false (fun h => c0 (by omega))
                          go_upto_region 25 with fail
                          go_quiet (fail)
                          go_wp2_with fail
                          go_roundw
                          case rel => exact ⟨2, by omega, by go_num, fun h => (by omega), fun h => (by first | rfl | omega), fun h => (by first | rfl | omega), belowN HBz.out _⟩
                          case measure => simp [RowKit.intOf]
                    · obtain rfl := hk3 rfl
                      clear hk0 hk1 hk3
                      obtain ⟨hi, hhi⟩ : ∃ b, (h1 || h2) = b := ⟨_, rfl⟩
                      have KHz := Lib.hid (KH1.out wz HRz.out)
                      have r2 := R2''.out
                      have R9 : Hid (bh = (!lo && hi)) := Lib.hid (by rw [← hhi]; exact R2''.out)
                      rw [hhi] at ⊢
                      clear hhi r2
                      have hf1 := HF.out.1
                      go_upto_region 26 with fail
                      go_cut [191] (fun v wd => v = .bool false ∧ wd = wz)
                      case first =>
                        refine r26_any KHz R9 ?_
                        intros
                        (try dsimp only)
                        (try go_wp2_with fail)
                        go_meet
                        exact ⟨by first | rfl | trivial, by first | rfl | trivial⟩
                      case rest =>
                        obtain ⟨rfl, hwd⟩ := hcut
                        have hwd2 := hwd.symm
                        clear hwd
                        subst hwd2
                        go_wp2_with fail
                        go_roundw
                        case rel => exact ⟨m + 1, by omega, by go_num, by rw [HMS.out], HWz.out⟩
                        case measure => simp [RowKit.intOf]; omega
                    · omega
        · obtain rfl : m = ns.length := by omega
          clear hEr KSh KPd KIL KIH KII
          go_wp2_with fail
          clear z0 z1 z2 e0 e1 e2 e3 e4 e5 e6 e7 e8
          go_loopw [10, 18] (fun many i wz => ∃ k : Nat, k ≤ ps.length ∧ i = .int .i64 k ∧ many = .int .i64 (manyK p p.length ns.length - cntH p k) ∧ Below W4.heap.size W4 wz) (fun _ i _ => ps.length - (RowKit.intOf i).toNat)
          case atStart => exact ⟨0, by omega, rfl, by simp [cntH], HB.out⟩
          case round =>
            rename World => wz
            obtain ⟨k, hk, rfl, rfl, hbz⟩ := hrel
            have HBz := Lib.hid hbz
            clear hbz
            have hf2 := HF.out.2
            have hT : Hid (manyK p p.length ns.length = cntH p p.length) := Lib.hid (many_cntH p ns.length (fun x hx h0 => by
              have h1 := (placeE_zero HEE.out).2.2 x hx
              have h2 := ok_tp h1 h0
              unfold tpB at h2
              have h3 : x.toNat < ns.length := by
                cases hq : ns[x.toNat]? with
                | none => rw [hq] at h2; simp at h2
                | some y => exact (List.getElem?_eq_some_iff.1 hq).1
              omega) p.length (Nat.le_refl _))
            have hcb := cntH_bound p k
            have hmb : 0 ≤ manyK p p.length ns.length ∧ manyK p p.length ns.length ≤ 24 := by
              have := cntH_bound p p.length
              have := HL.out
              rw [hT.out]
              omega
            by_cases hlt : k < ps.length
            · obtain ⟨x, hx⟩ : ∃ x, p[k]? = some x := ⟨_, List.getElem?_eq_getElem (by rw [HL.out]; exact hlt)⟩
              obtain ⟨bp, op, hA2, _, hcp⟩ := atI (HX4.out.below HBz.out).cells hx
              subst hA2
              have k0 : (0 : Int) ≤ (k : Int) := by omega
              have k1 : (k : Int) < (ps.length : Int) := by omega
              have hc : cntH p (k + 1) = cntH p k + (if 0 ≤ x then 1 else 0) := by rw [cntH, hx]
              have HCN := Lib.hid hc
              generalize manyK p p.length ns.length = M at hmb hT ⊢
              generalize cntH p k = c at hcb HCN ⊢
              clear hc hx
              have HMB := Lib.hid hmb
              have HCB := Lib.hid hcb
              by_cases hx0 : 0 ≤ x
              · go_wp2_with fail
                go_roundw
                case rel => exact ⟨k + 1, by omega, by go_num, by rw [HCN.out, if_pos hx0]; go_num, HBz.out⟩
                case measure => simp [RowKit.intOf]; omega
              · go_wp2_with fail
                go_roundw
                case rel => exact ⟨k + 1, by omega, by go_num, by rw [HCN.out, if_neg hx0]; simp, HBz.out⟩
                case measure => simp [RowKit.intOf]; omega
            · obtain rfl : k = ps.length := by omega
              have hz : manyK p p.length ns.length - cntH p ps.length = 0 := by rw [hT.out, HL.out]; omega
              rw [hz]
              have D : Hid (Below w.heap.size w wz) := Lib.hid (BW.out.trans (HBz.out.mono BW.out.size))
              clear hz hcb hmb
              go_wp2_with fail
              go_ret
              exact ⟨rfl, D.out⟩
end Go.Proofs.Ytmdmjnffnjlgmaa

namespace Go.Proofs.Ytmdmjnffnjlgmaa
open Go.RowKit

set_option maxRecDepth 100000 in
set_option maxHeartbeats 16000000 in
theorem heatApart_no (A B C : Option Addr) (ca cb cc : Nat) (ns : List NodeD) (ps : List PodD) (os : List OwnD) (l0 l1 l2 l3 : Int) (w : World) (h : SnapIn w A B C ca cb cc ns ps os) (hm : ps.length * 8 ≤ 140737488355328) (h0 : placeE ns ps os (placesP ns ps) ≠ 0) :
    Calls Try.prog 3 #[snapV A B C ca cb cc ns ps os, .agg #[.int .i64 l0, .int .i64 l1, .int .i64 l2, .int .i64 l3]] w fun e w' => e = .returned (.bool true) ∧ Below w.heap.size w w' := by
  have H := Lib.hid h
  have HM := Lib.hid hm
  have KW := Lib.hid works12_any
  have KP0 := Lib.hid (fun W' (hb : Below w.heap.size w W') => placement_in A B C ca cb cc ns ps os W' (h.low hb) hm)
  have HL := Lib.hid (placesP_len ns ps)
  rw [placesP_len] at KP0
  have HE0 := Lib.hid h0
  clear h0
  generalize placesP ns ps = p at KP0 HL HE0
  obtain ⟨L0, hL0⟩ : ∃ x, min (l0 % 1001) (l1 % 1001) = x := ⟨_, rfl⟩
  obtain ⟨L1, hL1⟩ : ∃ x, min (l2 % 1001) (l3 % 1001) = x := ⟨_, rfl⟩
  obtain ⟨H0, hH0⟩ : ∃ x, max (l0 % 1001) (l1 % 1001) = x := ⟨_, rfl⟩
  obtain ⟨H1, hH1⟩ : ∃ x, max (l2 % 1001) (l3 % 1001) = x := ⟨_, rfl⟩
  have KF : Hid (∀ W, Calls Try.prog 7 #[.agg #[.int .i64 l0, .int .i64 l1, .int .i64 l2, .int .i64 l3]] W fun e w' => e = .returned (.agg #[.int .i64 L0, .int .i64 L1, .int .i64 H0, .int .i64 H1, .int .i64 0, .slice none 0 0, .int .i64 0, .int .i64 0, .bool false]) ∧ Below W.heap.size W w') := Lib.hid (fun W => by rw [← hL0, ← hL1, ← hH0, ← hH1]; exact fair_any l0 l1 l2 l3 W)
  have HG : Hid (checkG (polA L0 L1 H0 H1) = 0 ∧ 0 ≤ H0 ∧ 0 ≤ H1 ∧ L0 ≤ H0 ∧ L1 ≤ H1) := Lib.hid (by
    have h0 := fair_okH (a := l0 % 1001) (b := l1 % 1001) (c := l2 % 1001) (d := l3 % 1001) (by omega) (by omega) (by omega) (by omega)
    unfold fairG at h0
    rw [hL0, hL1, hH0, hH1] at h0
    exact ⟨h0, by omega, by omega, by omega, by omega⟩)
  have B0 : Hid (Below w.heap.size w ((w.alloc (.cells (snapC A B C ca cb cc ns ps os) 26)).alloc (.cells #[.int .i64 l0, .int .i64 l1, .int .i64 l2, .int .i64 l3] 27))) := Lib.hid ((below1 w _).alloc (by simp) _)
  have S0 : Hid (Blk ((w.alloc (.cells (snapC A B C ca cb cc ns ps os) 26)).alloc (.cells #[.int .i64 l0, .int .i64 l1, .int .i64 l2, .int .i64 l3] 27)) w.heap.size (snapC A B C ca cb cc ns ps os) 26) := Lib.hid (Blk.alloc (Blk.new w _ _) _)
  have T0 : Hid (Blk ((w.alloc (.cells (snapC A B C ca cb cc ns ps os) 26)).alloc (.cells #[.int .i64 l0, .int .i64 l1, .int .i64 l2, .int .i64 l3] 27)) (w.heap.size + 1) #[.int .i64 l0, .int .i64 l1, .int .i64 l2, .int .i64 l3] 27) := Lib.hid (blk2 w _ _ _)
  clear h hm hL0 hL1 hH0 hH1
  go_enter Try.func3, Try.ntmps3
  go_upto_region 1 with fail
  try change Code.wp _ _ _ _ ((w.alloc (.cells (snapC A B C ca cb cc ns ps os) 26)).alloc (.cells #[.int .i64 l0, .int .i64 l1, .int .i64 l2, .int .i64 l3] 27))
  generalize ((w.alloc (.cells (snapC A B C ca cb cc ns ps os) 26)).alloc (.cells #[.int .i64 l0, .int .i64 l1, .int .i64 l2, .int .i64 l3] 27)) = W0 at B0 S0 T0 ⊢
  go_wp2_with fail
  refine (KW.out _).mono ?_
  rintro e W1 ⟨rfl, hb⟩
  have S1 := Lib.hid (S0.out.below hb S0.out.lt)
  have T1 := Lib.hid (T0.out.below hb T0.out.lt)
  have B1 := Lib.hid (B0.out.trans (hb.mono B0.out.size))
  clear hb S0 T0 B0
  have HC1 : Hid (∀ W', Below W1.heap.size W1 W' → (W'.cell? ⟨w.heap.size, 0, none⟩ = some (.slice A ns.length ca) ∧ W'.cell? ⟨w.heap.size, 1, none⟩ = some (.slice B ps.length cb) ∧ W'.cell? ⟨w.heap.size, 2, none⟩ = some (.slice C os.length cc)) ∧ W'.cell? ⟨w.heap.size + 1, 0, none⟩ = some (.int .i64 l0) ∧ W'.cell? ⟨w.heap.size + 1, 1, none⟩ = some (.int .i64 l1) ∧ W'.cell? ⟨w.heap.size + 1, 2, none⟩ = some (.int .i64 l2) ∧ W'.cell? ⟨w.heap.size + 1, 3, none⟩ = some (.int .i64 l3)) := Lib.hid (fun W' hb => by
    have h1 := S1.out.below hb S1.out.lt
    have h2 := T1.out.below hb T1.out.lt
    exact ⟨⟨Blk.cell h1 0, Blk.cell h1 1, Blk.cell h1 2⟩, Blk.cell h2 0, Blk.cell h2 1, Blk.cell h2 2, Blk.cell h2 3⟩)
  have hNW : Hid (w.heap.size + 1 < W1.heap.size) := Lib.hid T1.out.lt
  have KP1 : Hid (∀ W', Below W1.heap.size W1 W' → Calls Try.prog 6 #[snapV A B C ca cb cc ns ps os] W' fun e w' => ∃ X cx, e = .returned (.slice X ps.length cx) ∧ w'.ownsRow w.heap.size 3 1 (.slice X ps.length cx) ps.length (intsC p) ∧ Below W'.heap.size W' w') := Lib.hid (fun W' hb => by
    have hw := B1.out.trans (hb.mono B1.out.size)
    refine (KP0.out W' hw).mono ?_
    rintro e w' ⟨X, cx, rfl, ho, hb⟩
    exact ⟨X, cx, rfl, own_moreH ho hw.size, hb⟩)
  clear KP0
  go_upto_region 3 with fail
  have DZ : Hid (Blk (W1.alloc (.cells #[.int .i64 0, .int .i64 0, .int .i64 0, .int .i64 0, .int .i64 0, .slice none 0 0, .int .i64 0, .int .i64 0, .bool false] 34)) W1.heap.size #[.int .i64 0, .int .i64 0, .int .i64 0, .int .i64 0, .int .i64 0, .slice none 0 0, .int .i64 0, .int .i64 0, .bool false] 34) := Lib.hid (Blk.new W1 _ _)
  go_cut [5, 6] (fun u v wc => ∃ X cx g, u = .slice X ps.length cx ∧ v = .pointer (some ⟨g, 0, none⟩) ∧ wc.ownsRow w.heap.size 3 1 (.slice X ps.length cx) ps.length (intsC p) ∧ Blk wc g #[.int .i64 L0, .int .i64 L1, .int .i64 H0, .int .i64 H1, .int .i64 0, .slice none 0 0, .int .i64 0, .int .i64 0, .bool false] 34 ∧ Below W1.heap.size W1 wc)
  case first =>
    refine r3_any KP1 KF HC1 ?_
    intros X cx g wc _ _ _ _ h1 h2 h3
    (try dsimp only)
    (try go_wp2_with fail)
    go_meet
    exact ⟨_, _, _, rfl, rfl, h1, h2, h3⟩
  case rest =>
    obtain ⟨X, cx, g, rfl, rfl, ho, hgb, hbc⟩ := hcut
    have O2 := Lib.hid ho
    have G2 := Lib.hid hgb
    have B2 : Hid (Below w.heap.size w wc) := Lib.hid (B1.out.trans (hbc.mono B1.out.size))
    have S2 := Lib.hid (S1.out.below hbc S1.out.lt)
    clear ho hgb hbc DZ KF KP1 HC1 T1 S1 B1 hNW
    generalize wc = W2 at O2 G2 B2 S2 ⊢
    have HI2 : Hid (IntsAt W2 X cx p) := Lib.hid (IntsAt.own (by rw [HL.out]; exact O2.out))
    have NS2 : Hid (∀ W', Below W2.heap.size W2 W' → SnapIn W' A B C ca cb cc ns ps os) := Lib.hid (fun W' hb => H.out.low (B2.out.trans (hb.mono B2.out.size)))
    have HC2 : Hid (∀ W', Below W2.heap.size W2 W' → W'.cell? ⟨w.heap.size, 0, none⟩ = some (.slice A ns.length ca) ∧ W'.cell? ⟨w.heap.size, 1, none⟩ = some (.slice B ps.length cb) ∧ W'.cell? ⟨w.heap.size, 2, none⟩ = some (.slice C os.length cc) ∧ W'.cell? ⟨g, 0, none⟩ = some (.int .i64 L0) ∧ W'.cell? ⟨g, 1, none⟩ = some (.int .i64 L1) ∧ W'.cell? ⟨g, 2, none⟩ = some (.int .i64 H0) ∧ W'.cell? ⟨g, 3, none⟩ = some (.int .i64 H1) ∧ W'.cell? ⟨g, 4, none⟩ = some (.int .i64 0) ∧ W'.cell? ⟨g, 5, none⟩ = some (.slice none 0 0) ∧ W'.cell? ⟨g, 6, none⟩ = some (.int .i64 0) ∧ W'.cell? ⟨g, 7, none⟩ = some (.int .i64 0) ∧ W'.cell? ⟨g, 8, none⟩ = some (.bool false)) := Lib.hid (fun W' hb => by
      have h1 := S2.out.below hb S2.out.lt
      have h2 := G2.out.below hb G2.out.lt
      exact ⟨Blk.cell h1 0, Blk.cell h1 1, Blk.cell h1 2, Blk.cell h2 0, Blk.cell h2 1, Blk.cell h2 2, Blk.cell h2 3, Blk.cell h2 4, Blk.cell h2 5, Blk.cell h2 6, Blk.cell h2 7, Blk.cell h2 8⟩)
    have KC : Hid (∀ W', Below W2.heap.size W2 W' → Calls Try.prog 8 #[snapV A B C ca cb cc ns ps os, .slice X ps.length cx] W' fun e w' => e = .returned (.int .i64 (placeE ns ps os p)) ∧ Below W'.heap.size W' w') := Lib.hid (fun W' hb => by
      have k := pcheck_in A B C X ca cb cc cx ns ps os p W' (NS2.out W' hb) (HI2.out.below hb)
      rw [HL.out] at k
      exact k)
    have KLO : Hid (∀ W', Below W2.heap.size W2 W' → Calls Try.prog 9 #[snapV A B C ca cb cc ns ps os, .slice X ps.length cx, .agg #[.int .i64 L0, .int .i64 L1, .int .i64 H0, .int .i64 H1, .int .i64 0, .slice none 0 0, .int .i64 0, .int .i64 0, .bool false]] W' fun e w' => ∃ v, e = .returned v ∧ w'.ownsRow w.heap.size 3 1 v (lowF ns ps os p (polA L0 L1 H0 H1)).length (intsC (lowF ns ps os p (polA L0 L1 H0 H1))) ∧ Below W'.heap.size W' w') := Lib.hid (fun W' hb => by
      have k := hLow_in A B C X none ca cb cc cx 0 ns ps os p (polA L0 L1 H0 H1) W' (NS2.out W' hb) (HI2.out.below hb) (NamesAt.nilH _)
      rw [HL.out] at k
      exact k.mono fun e w' ⟨v, he, ho, hb'⟩ => ⟨v, he, own_moreH ho (Nat.le_trans B2.out.size hb.size), hb'⟩)
    have KHI : Hid (∀ W', Below W2.heap.size W2 W' → Calls Try.prog 10 #[snapV A B C ca cb cc ns ps os, .slice X ps.length cx, .agg #[.int .i64 L0, .int .i64 L1, .int .i64 H0, .int .i64 H1, .int .i64 0, .slice none 0 0, .int .i64 0, .int .i64 0, .bool false]] W' fun e w' => ∃ v, e = .returned v ∧ w'.ownsRow w.heap.size 3 1 v (highF ns ps os p (polA L0 L1 H0 H1)).length (intsC (highF ns ps os p (polA L0 L1 H0 H1))) ∧ Below W'.heap.size W' w') := Lib.hid (fun W' hb => by
      have k := hHigh_in A B C X none ca cb cc cx 0 ns ps os p (polA L0 L1 H0 H1) W' (NS2.out W' hb) (HI2.out.below hb) (NamesAt.nilH _)
      rw [HL.out] at k
      exact k.mono fun e w' ⟨v, he, ho, hb'⟩ => ⟨v, he, own_moreH ho (Nat.le_trans B2.out.size hb.size), hb'⟩)
    have KID : Hid (∀ W', Below W2.heap.size W2 W' → Calls Try.prog 11 #[snapV A B C ca cb cc ns ps os, .slice X ps.length cx] W' fun e w' => ∃ v, e = .returned v ∧ w'.ownsRow w.heap.size 3 1 v (idleF ns ps os p).length (intsC (idleF ns ps os p)) ∧ Below W'.heap.size W' w') := Lib.hid (fun W' hb => by
      have k := hIdle_in A B C X ca cb cc cx ns ps os p W' (NS2.out W' hb) (HI2.out.below hb)
      rw [HL.out] at k
      exact k.mono fun e w' ⟨v, he, ho, hb'⟩ => ⟨v, he, own_moreH ho (Nat.le_trans B2.out.size hb.size), hb'⟩)
    have FN : Hid (placeE ns ps os p ≠ 0 → lowF ns ps os p (polA L0 L1 H0 H1) = [] ∧ highF ns ps os p (polA L0 L1 H0 H1) = [] ∧ idleF ns ps os p = []) := Lib.hid (fun hE => by
      unfold lowF highF idleF pickF
      rw [if_neg hE, if_neg hE, if_neg hE]
      exact ⟨by split <;> rfl, by split <;> rfl, rfl⟩)
    have FY : Hid (placeE ns ps os p = 0 → ∀ m : Nat, m < ns.length → (lowF ns ps os p (polA L0 L1 H0 H1)).contains (m : Int) = (liveB ns m && lowB ns ps p (polA L0 L1 H0 H1) m) ∧ (highF ns ps os p (polA L0 L1 H0 H1)).contains (m : Int) = (liveB ns m && highB ns ps p (polA L0 L1 H0 H1) m) ∧ (idleF ns ps os p).contains (m : Int) = (liveB ns m && idleB p m)) := Lib.hid (fun hE m hm => by
      unfold lowF highF idleF pickF
      rw [if_pos hE, if_pos hE, if_pos hE, if_pos HG.out.1, if_pos HG.out.1]
      exact ⟨has_thatH ns _ m ns.length hm, has_thatH ns _ m ns.length hm, has_thatH ns _ m ns.length hm⟩)
    generalize lowF ns ps os p (polA L0 L1 H0 H1) = LO at KLO FN FY
    generalize highF ns ps os p (polA L0 L1 H0 H1) = HI at KHI FN FY
    generalize idleF ns ps os p = ID at KID FN FY
    obtain ⟨E, hEE⟩ : ∃ E, placeE ns ps os p = E := ⟨_, rfl⟩
    have HEE := Lib.hid hEE
    rw [hEE] at KC FN FY
    clear hEE
    go_upto_region 4 with fail
    obtain ⟨z0, z1, z2, e0, e1, e2, e3, e4, e5, e6, e7, e8⟩ := HC2.out W2 (Below.refl _ _)
    go_wp2_with fail
    refine (KC.out W2 (Below.refl _ _)).mono ?_
    rintro e W3 ⟨rfl, hb⟩
    have B3 := Lib.hid hb
    have b3 := hb
    have b3s := hb.size
    clear hb KC z0 z1 z2 e0 e1 e2 e3 e4 e5 e6 e7 e8
    obtain ⟨z0, z1, z2, e0, e1, e2, e3, e4, e5, e6, e7, e8⟩ := HC2.out W3 B3.out
    by_cases hE : E = 0
    case neg =>
      have hE1 : (E == 0) = false := by simpa using hE
      have hE2 : decide (E = 0) = false := decide_eq_false hE
      obtain ⟨rfl, rfl, rfl⟩ := FN.out hE
      have hw := B2.out
      have hw2 := B2.out.size
      go_upto_region 5 with fail
      go_region_held3 (fun w' => w'.cell? ⟨w.heap.size, 0, none⟩ = some (.slice A ns.length ca) ∧ w'.cell? ⟨w.heap.size, 1, none⟩ = some (.slice B ps.length cb) ∧ w'.cell? ⟨w.heap.size, 2, none⟩ = some (.slice C os.length cc) ∧ w'.cell? ⟨g, 0, none⟩ = some (.int .i64 L0) ∧ w'.cell? ⟨g, 1, none⟩ = some (.int .i64 L1) ∧ w'.cell? ⟨g, 2, none⟩ = some (.int .i64 H0) ∧ w'.cell? ⟨g, 3, none⟩ = some (.int .i64 H1) ∧ w'.cell? ⟨g, 4, none⟩ = some (.int .i64 0) ∧ w'.cell? ⟨g, 5, none⟩ = some (.slice none 0 0) ∧ w'.cell? ⟨g, 6, none⟩ = some (.int .i64 0) ∧ w'.cell? ⟨g, 7, none⟩ = some (.int .i64 0) ∧ w'.cell? ⟨g, 8, none⟩ = some (.bool false))
        ((refine HC2.out _ ?_; go_grown))
        (first
          | (go_at_call 9
             with_reducible refine Calls.mono (KLO.out _ ?_) ?_
             · go_grown
             rintro e wl ⟨vl, rfl, ho, hb⟩
             obtain ⟨XL, cL, rfl, _⟩ := La.own_slice ho
             have HA : Hid (Below W2.heap.size W2 wl) := Lib.hid (by
               refine below_tA ?_ hb
               go_grown)
             have gA := HA.out
             have gAs := HA.out.size
             have gW : Below w.heap.size w wl := B2.out.trans (HA.out.mono B2.out.size)
             simp only [List.length_nil]
             clear hb ho)
          | (go_at_call 10
             with_reducible refine Calls.mono (KHI.out _ ?_) ?_
             · go_grown
             rintro e wh ⟨vh, rfl, ho, hb⟩
             obtain ⟨XH, cH, rfl, _⟩ := La.own_slice ho
             have HB : Hid (Below W2.heap.size W2 wh) := Lib.hid (by
               refine below_tA ?_ hb
               go_grown)
             have gB := HB.out
             have gBs := HB.out.size
             have gV : Below w.heap.size w wh := B2.out.trans (HB.out.mono B2.out.size)
             simp only [List.length_nil]
             clear hb ho)
          | (go_at_call 11
             with_reducible refine Calls.mono (KID.out _ ?_) ?_
             · go_grown
             rintro e wi ⟨vi, rfl, ho, hb⟩
             obtain ⟨XI, cI, rfl, _⟩ := La.own_slice ho
             have HD : Hid (Below W2.heap.size W2 wi) := Lib.hid (by
               refine below_tA ?_ hb
               go_grown)
             have gD := HD.out
             have gDs := HD.out.size
             have gU : Below w.heap.size w wi := B2.out.trans (HD.out.mono B2.out.size)
             simp only [List.length_nil]
             clear hb ho)
          | skip)
      all_goals
        (try go_wp2_with fail)
        (try go_ret)
        exact ⟨rfl, by first | assumption | go_grown⟩
    exact absurd (HEE.out.trans hE) HE0.out
end Go.Proofs.Ytmdmjnffnjlgmaa

namespace Go.Proofs.Ytmdmjnffnjlgmaa
open Go.ChangeShapes Go.WideShapes Go.ChangeAt Go.RowKit Go.Deep

theorem kcFour : Try.prog.cellsOf 27 = 4 := by kernel_rfl
set_option maxRecDepth 100000 in
theorem open_fourH {H : Type} {enc : TypeId × Value → H} {W : World} {r : Reach} {b0 : Nat} {held : Bool} {v : Value} {d : DataW H} {p : List MemPlace}
    (hv : Value.okWide Try.prog W r b0 27 v) (h : DataW.Trod enc Try.prog W 0 (fun _ => true) held 27 v d p) :
    ∃ a b c e : Int, v = .agg #[.int .i64 a, .int .i64 b, .int .i64 c, .int .i64 e] := by
  simp only [Value.okWide, Try.underlying27] at hv
  obtain ⟨cs, rfl, _, _⟩ := hv
  obtain ⟨fuel, hf0⟩ := h
  obtain ⟨xs, m, _, _, hl, hxl, hf⟩ := DataW.trod_array Try.underlying27 hf0
  rw [kcFour] at hl
  obtain ⟨c0, c1, c2, c3, rfl⟩ : ∃ c0 c1 c2 c3, cs = #[c0, c1, c2, c3] := by
    obtain ⟨l⟩ := cs
    match l, hl with
    | [c0, c1, c2, c3], _ => exact ⟨c0, c1, c2, c3, rfl⟩
  match xs, hxl with
  | [y0, y1, y2, y3], _ =>
    have h0 := hf 0 (by omega)
    have h1 := hf 1 (by omega)
    have h2 := hf 2 (by omega)
    have h3 := hf 3 (by omega)
    rw [kcInt] at h0 h1 h2 h3
    obtain ⟨i0, e0⟩ := int_one (enc := enc) (W := W) (held := held) (n := m) (c := c0) (x := y0) h0
    obtain ⟨i1, e1⟩ := int_one (enc := enc) (W := W) (held := held) (n := m) (c := c1) (x := y1) h1
    obtain ⟨i2, e2⟩ := int_one (enc := enc) (W := W) (held := held) (n := m) (c := c2) (x := y2) h2
    obtain ⟨i3, e3⟩ := int_one (enc := enc) (W := W) (held := held) (n := m) (c := c3) (x := y3) h3
    exact ⟨i0, i1, i2, i3, by rw [e0, e1, e2, e3]⟩
end Go.Proofs.Ytmdmjnffnjlgmaa
