/- Of a safe placement, and a policy without drain, high and empty, none is to go; where some clause of a pod is broken that is looked for, that one is: the law's walk. Condition: the arguments lie in memory. -/
import Derived.Test.YticgcimcebdjlaaGreatB02
import Derived.Handy

namespace Go.Proofs.YticgcimcebdjlaaGreat
open Go.RowKit Go.Maps

/-- Sixty-four yes or no lie in block b. -/
structure BoolsAt (w : World) (b : Nat) (F : Nat → Bool) : Prop where
  lt : b < w.heap.size
  c : ∀ i, i < 64 → w.cell? ⟨b, i, none⟩ = some (.bool (F i)) ∧ w.frozen? ⟨b, i, none⟩ = false
theorem BoolsAt.below {w w' : World} {b : Nat} {F : Nat → Bool} (h : BoolsAt w b F) (hb : Below w.heap.size w w') : BoolsAt w' b F :=
  ⟨Nat.lt_of_lt_of_le h.lt hb.size, fun i hi => ⟨(hb.cell (p := ⟨b, i, none⟩) h.lt).trans (h.c i hi).1, (hb.frozen (p := ⟨b, i, none⟩) h.lt).trans (h.c i hi).2⟩⟩
theorem BoolsAt.new (w : World) (t : TypeId) : BoolsAt (w.alloc (.cells (Array.replicate 64 (.bool false)) t)) w.heap.size (fun _ => false) := by
  have hB := Blk.new w (Array.replicate 64 (.bool false)) t
  refine ⟨hB.lt, fun i hi => ⟨?_, Blk.free hB i⟩⟩
  rw [Blk.cell hB i]
  simp [hi]
theorem BoolsAt.set {w : World} {b k : Nat} {F : Nat → Bool} (h : BoolsAt w b F) (hk : k < 64) (v : Bool) : BoolsAt (w.setCell ⟨b, k, none⟩ (.bool v)) b (fun i => if i = k then v else F i) := by
  refine ⟨by simpa using h.lt, fun i hi => ⟨?_, by rw [World.frozen?_setCell]; exact (h.c i hi).2⟩⟩
  by_cases hik : i = k
  · subst hik
    rw [if_pos rfl]
    exact World.cell?_setCell_same _ _ _ (h.c i hi).1
  · rw [if_neg hik, World.cell?_setCell_other _ _ _ _ (by intro e; cases e; exact hik rfl)]
    exact (h.c i hi).1
set_option maxRecDepth 100000 in
set_option maxHeartbeats 16000000 in
theorem detectSafe_law (A B C : Option Addr) (ca cb cc : Nat) (ns : List NodeD) (ps : List PodD) (os : List OwnD) (a0 : Int) (w : World) (h : SnapIn w A B C ca cb cc ns ps os) (hm : ps.length * 8 ≤ 140737488355328) :
    Calls Tryz.prog 4 #[snapV A B C ca cb cc ns ps os, .int .i64 a0] w fun e w' => e = .returned (.bool true) ∧ Below w.heap.size w w' := by
  have B0 : Hid (Below w.heap.size w (w.alloc (.cells (snapC A B C ca cb cc ns ps os) 26))) := Lib.hid (below1 w _)
  have S0 : Hid (Blk (w.alloc (.cells (snapC A B C ca cb cc ns ps os) 26)) w.heap.size (snapC A B C ca cb cc ns ps os) 26) := Lib.hid (Blk.new w _ _)
  have H := Lib.hid h
  have KW := Lib.hid works13_any
  have KP := Lib.hid (fun W' (hb : Below w.heap.size w W') => placement_in A B C ca cb cc ns ps os W' (h.low hb) hm)
  clear h hm
  go_enter Tryz.func4, Tryz.ntmps4
  go_upto_region 1 with fail
  try change Code.wp _ _ _ _ (w.alloc (.cells (snapC A B C ca cb cc ns ps os) 26))
  generalize (w.alloc (.cells (snapC A B C ca cb cc ns ps os) 26)) = W0 at B0 S0 ⊢
  have HT0 := Lib.hid (fun W' (hb : Below W0.heap.size W0 W') => B0.out.trans (hb.mono B0.out.size))
  have HC0 : Hid (∀ W', Below W0.heap.size W0 W' → W'.cell? ⟨w.heap.size, 0, none⟩ = some (.slice A ns.length ca) ∧ W'.cell? ⟨w.heap.size, 1, none⟩ = some (.slice B ps.length cb) ∧ W'.cell? ⟨w.heap.size, 2, none⟩ = some (.slice C os.length cc)) := Lib.hid (fun W' hb => by
    have h1 := S0.out.below hb S0.out.lt
    exact ⟨Blk.cell h1 0, Blk.cell h1 1, Blk.cell h1 2⟩)
  have KP1 := Lib.hid (KP.out _ B0.out)
  clear S0 B0 KP
  obtain ⟨z0, z1, z2⟩ := HC0.out _ (Below.refl _ _)
  go_wp2_with fail
  refine (KP1.out).mono ?_
  rintro e W1 ⟨X, cx, rfl, ho, hb⟩
  have HB1 := Lib.hid hb
  have IX := Lib.hid (IntsAt.own ho)
  clear ho hb KP1 z0 z1 z2
  obtain ⟨p, hp⟩ : ∃ p, placesP ns ps = p := ⟨_, rfl⟩
  rw [hp] at IX ⊢
  clear hp
  have KE := Lib.hid (pcheck_in A B C X ca cb cc cx ns ps os p W1 (H.out.low (HT0.out _ HB1.out)) IX.out)
  obtain ⟨E, hE⟩ : ∃ E, placeE ns ps os p = E := ⟨_, rfl⟩
  rw [hE] at KE
  have HE := Lib.hid hE
  clear hE
  obtain ⟨z0, z1, z2⟩ := HC0.out _ HB1.out
  go_wp2_with fail
  refine (KE.out).mono ?_
  rintro e W2 ⟨rfl, hb⟩
  have HB2 := Lib.hid (HB1.out.trans (hb.mono HB1.out.size))
  have IX2 := Lib.hid (IX.out.below hb)
  clear hb KE z0 z1 z2 IX HB1
  by_cases h0 : E = 0
  case neg =>
    have hne : (E != 0) = true := by simpa using h0
    have hnd : decide (E = 0) = false := decide_eq_false h0
    clear h0
    go_wp2_with fail
    refine (KW.out _).mono ?_
    rintro e W3 ⟨rfl, hb⟩
    have D := Lib.hid (HT0.out _ (HB2.out.trans (hb.mono HB2.out.size)))
    clear hb
    go_wp2
    go_ret
    exact ⟨rfl, D.out⟩
  subst h0
  have hfw := placeE_few HE.out
  have hpl : p.length ≤ 24 := by rw [placeE_len HE.out]; exact hfw.2.1
  have hL8 : (all8 ns ps os p).length ≤ 12000 := by
    have h1 := all8_len ns ps os p
    have h2 := hfw.1
    have h3 := hfw.2.2
    omega
  have em0 := Int.emod_nonneg a0 (show (16 : Int) ≠ 0 by omega)
  have em1 := Int.emod_lt_of_pos a0 (show (0 : Int) < 16 by omega)
  have BR := Lib.hid (fun W => Qu.bring_any a0 16 W (by omega) (by omega))
  have BK := Lib.hid (fun a W => Qu.bring_any a 64 W (by omega) (by omega))
  obtain ⟨x, hx⟩ : ∃ x, a0 % 16 = x := ⟨_, rfl⟩
  rw [hx] at BR em0 em1
  have HT := Lib.hid (fun (k : Nat) (hk : k < p.length) => on_told (x := x) HE.out em0 em1 hk)
  have HSN : Hid (safeB ns ps os p = true → (decide (checkG (onG x) = 0 ∧ placeE ns ps os p = 0) && decide (wrongF ns ps os p (onG x) (crP ns ps os p) = [])) = true) := Lib.hid (fun hs => by
    rw [decide_eq_true ⟨onG_may em0 em1, HE.out⟩, decide_eq_true (safe_none HE.out em0 em1 hs)]
    rfl)
  have HON := Lib.hid (on_bits x em0 em1)
  have HGD := Lib.hid (fun c hc => (all8_good ns ps os p c hc).2)
  clear hx
  -- Bring, and the policy
  go_wp2_with fail
  refine (BR.out _).mono ?_
  rintro e W2' ⟨rfl, rfl⟩
  have Q1 : Hid (Blk (W2.alloc (.cells #[.int .i64 0, .int .i64 0, .int .i64 0, .int .i64 0, .int .i64 x, .slice none 0 0, .int .i64 0, .int .i64 0, .bool false] 30)) W2.heap.size #[.int .i64 0, .int .i64 0, .int .i64 0, .int .i64 0, .int .i64 x, .slice none 0 0, .int .i64 0, .int .i64 0, .bool false] 30) := Lib.hid (Blk.new W2 _ _)
  have D1 : Hid (Below W2.heap.size W2 (W2.alloc (.cells #[.int .i64 0, .int .i64 0, .int .i64 0, .int .i64 0, .int .i64 x, .slice none 0 0, .int .i64 0, .int .i64 0, .bool false] 30))) := Lib.hid (below1 W2 _)
  go_upto_region 5 with fail
  try change Code.wp _ _ _ _ (W2.alloc (.cells #[.int .i64 0, .int .i64 0, .int .i64 0, .int .i64 0, .int .i64 x, .slice none 0 0, .int .i64 0, .int .i64 0, .bool false] 30))
  generalize (W2.alloc (.cells #[.int .i64 0, .int .i64 0, .int .i64 0, .int .i64 0, .int .i64 x, .slice none 0 0, .int .i64 0, .int .i64 0, .bool false] 30)) = W3 at Q1 D1 ⊢
  generalize W2.heap.size = Gb at Q1 ⊢
  have HB3 : Hid (Below W0.heap.size W0 W3) := Lib.hid (HB2.out.trans (D1.out.mono HB2.out.size))
  have IX3 := Lib.hid (IX2.out.below D1.out)
  clear D1 BR HB2 IX2
  have HC3 : Hid (∀ W', Below W3.heap.size W3 W' → W'.cell? ⟨w.heap.size, 0, none⟩ = some (.slice A ns.length ca) ∧ W'.cell? ⟨w.heap.size, 1, none⟩ = some (.slice B ps.length cb) ∧ W'.cell? ⟨w.heap.size, 2, none⟩ = some (.slice C os.length cc)) := Lib.hid (fun W' hb => HC0.out _ (HB3.out.trans (hb.mono HB3.out.size)))
  have HG3 : Hid (∀ W', Below W3.heap.size W3 W' → W'.cell? ⟨Gb, 0, none⟩ = some (.int .i64 0) ∧ W'.cell? ⟨Gb, 1, none⟩ = some (.int .i64 0) ∧ W'.cell? ⟨Gb, 2, none⟩ = some (.int .i64 0) ∧ W'.cell? ⟨Gb, 3, none⟩ = some (.int .i64 0) ∧ W'.cell? ⟨Gb, 4, none⟩ = some (.int .i64 x) ∧ W'.cell? ⟨Gb, 5, none⟩ = some (.slice none 0 0) ∧ W'.cell? ⟨Gb, 6, none⟩ = some (.int .i64 0) ∧ W'.cell? ⟨Gb, 7, none⟩ = some (.int .i64 0) ∧ W'.cell? ⟨Gb, 8, none⟩ = some (.bool false)) := Lib.hid (fun W' hb => by
    have h1 := Q1.out.below hb Q1.out.lt
    exact ⟨Blk.cell h1 0, Blk.cell h1 1, Blk.cell h1 2, Blk.cell h1 3, Blk.cell h1 4, Blk.cell h1 5, Blk.cell h1 6, Blk.cell h1 7, Blk.cell h1 8⟩)
  have HT3 : Hid (∀ W', Below W3.heap.size W3 W' → Below w.heap.size w W') := Lib.hid (fun W' hb => HT0.out _ (HB3.out.trans (hb.mono HB3.out.size)))
  have HS3 : Hid (∀ W', Below W3.heap.size W3 W' → SnapAt W' A B C ca cb cc ns ps os) := Lib.hid (fun W' hb => (H.out.low (HT3.out _ hb)).at hfw)
  have HX3 : Hid (∀ W', Below W3.heap.size W3 W' → IntsAt W' X cx p) := Lib.hid (fun W' hb => IX3.out.below hb)
  clear Q1 HT0 HC0 HB3 IX3 hfw
  have KS := Lib.hid (safe_at A B C X ca cb cc cx ns ps os p W3 (HS3.out _ (Below.refl _ _)) (HX3.out _ (Below.refl _ _)))
  rw [HE.out] at KS
  obtain ⟨sb, hsb⟩ : ∃ sb, safeB ns ps os p = sb := ⟨_, rfl⟩
  rw [hsb] at HSN KS
  clear hsb
  obtain ⟨z0, z1, z2⟩ := HC3.out _ (Below.refl _ _)
  go_wp2_with fail
  refine (KS.out).mono ?_
  rintro e W4 ⟨rfl, hb⟩
  have HB4 := Lib.hid hb
  clear hb z0 z1 z2 KS
  go_upto_region 6 with fail
  go_cut [43] (fun v wc => v = .bool false ∧ Below W3.heap.size W3 wc)
  case first =>
    obtain ⟨z0, z1, z2⟩ := HC3.out _ HB4.out
    obtain ⟨g0, g1, g2, g3, g4, g5, g6, g7, g8⟩ := HG3.out _ HB4.out
    cases sb with
    | true =>
      have KF := Lib.hid (Fine_any A B C X none ca cb cc cx 0 ns ps os p (onG x) (crP ns ps os p) W4 ((HS3.out _ HB4.out).toIn) (HX3.out _ HB4.out) (nilD _) (crowdOk A B C X none ca cb cc cx 0 ns ps os p (onG x)))
      rw [HSN.out rfl] at KF
      go_wp2_with fail
      refine (KF.out).mono ?_
      rintro e W5 ⟨rfl, hb⟩
      have HB5 := Lib.hid (HB4.out.trans (hb.mono HB4.out.size))
      clear hb KF z0 z1 z2 g0 g1 g2 g3 g4 g5 g6 g7 g8
      go_wp2_with fail
      go_meet
      exact ⟨rfl, HB5.out⟩
    | false =>
      go_wp2_with fail
      go_meet
      exact ⟨rfl, HB4.out⟩
  case' rest => obtain ⟨rfl, hb⟩ := hcut
  have HB6 := Lib.hid hb
  clear hb HSN HB4
  obtain ⟨_, _, _, _, g4, _, _, _, _⟩ := HG3.out _ HB6.out
  go_upto_region 9 with fail
  have Q6 : Hid (Blk (wc.alloc (.cells #[.bool false, .bool false, .bool true, .bool (decide (0 < bits BinOp.and IntKind.i64 x 4)), .bool (decide (0 < bits BinOp.and IntKind.i64 x 2)), .bool (decide (0 < bits BinOp.and IntKind.i64 x 2)), .bool (decide (0 < bits BinOp.and IntKind.i64 x 1))] 4)) wc.heap.size #[.bool false, .bool false, .bool true, .bool (decide (0 < bits BinOp.and IntKind.i64 x 4)), .bool (decide (0 < bits BinOp.and IntKind.i64 x 2)), .bool (decide (0 < bits BinOp.and IntKind.i64 x 2)), .bool (decide (0 < bits BinOp.and IntKind.i64 x 1))] 4) := Lib.hid (Blk.new wc _ _)
  have D6 : Hid (Below wc.heap.size wc (wc.alloc (.cells #[.bool false, .bool false, .bool true, .bool (decide (0 < bits BinOp.and IntKind.i64 x 4)), .bool (decide (0 < bits BinOp.and IntKind.i64 x 2)), .bool (decide (0 < bits BinOp.and IntKind.i64 x 2)), .bool (decide (0 < bits BinOp.and IntKind.i64 x 1))] 4))) := Lib.hid (below1 wc _)
  try change Code.wp _ _ _ _ (wc.alloc (.cells #[.bool false, .bool false, .bool true, .bool (decide (0 < bits BinOp.and IntKind.i64 x 4)), .bool (decide (0 < bits BinOp.and IntKind.i64 x 2)), .bool (decide (0 < bits BinOp.and IntKind.i64 x 2)), .bool (decide (0 < bits BinOp.and IntKind.i64 x 1))] 4))
  generalize (wc.alloc (.cells #[.bool false, .bool false, .bool true, .bool (decide (0 < bits BinOp.and IntKind.i64 x 4)), .bool (decide (0 < bits BinOp.and IntKind.i64 x 2)), .bool (decide (0 < bits BinOp.and IntKind.i64 x 2)), .bool (decide (0 < bits BinOp.and IntKind.i64 x 1))] 4)) = W6 at Q6 D6 ⊢
  generalize wc.heap.size = Lb at Q6 ⊢
  obtain ⟨_, _, e4, e2, e1, e8⟩ := HON.out
  rw [← e4, ← e2, ← e1] at Q6
  have E8 := Lib.hid e8
  clear e4 e2 e1 e8 HON g4
  have HB7 : Hid (Below W3.heap.size W3 W6) := Lib.hid (HB6.out.trans (D6.out.mono HB6.out.size))
  clear HB6 D6
  have KB := Lib.hid (brokenP_any A B C X ca cb cc cx ns ps os p hL8 W6 (HS3.out _ HB7.out) (HX3.out _ HB7.out))
  obtain ⟨L, hL⟩ : ∃ L, (all8 ns ps os p).filter brokC = L := ⟨_, rfl⟩
  have HGL : Hid (∀ c ∈ L, 2 ≤ c.1 → c.1 ≤ 6 → 0 ≤ c.2.1 ∧ c.2.1 < (p.length : Int)) := Lib.hid (fun c hc => by
    rw [← hL] at hc
    exact HGD.out c (List.mem_filter.1 hc).1)
  have hLl : L.length ≤ 12000 := by
    rw [← hL]
    exact Nat.le_trans (List.length_filter_le _ _) hL8
  rw [hL] at KB HT
  clear hL HGD hL8
  obtain ⟨z0, z1, z2⟩ := HC3.out _ HB7.out
  go_wp2_with fail
  refine (KB.out).mono ?_
  rintro e W7 ⟨v, rfl, ho, hb⟩
  obtain ⟨XL, cL, rfl, _⟩ := La.own_slice ho
  have TL := Lib.hid (La.own_slat ho)
  have HB8 := Lib.hid (HB7.out.trans (hb.mono HB7.out.size))
  have Q7 := Lib.hid (Q6.out.below hb Q6.out.lt)
  have HTLG : Hid (∀ (g o k : Nat) (z : Int), k < L.length → XL = some ⟨g, o, none⟩ → g < W7.heap.size) := Lib.hid (fun g o k z hk hx => by
    subst hx
    rcases ho.2 with ⟨h1, _⟩ | ⟨g', cap, cur, h1, _, hh, _⟩
    · cases h1
    · cases h1
      exact (Array.getElem?_eq_some_iff.1 hh).1)
  clear ho hb KB z0 z1 z2 Q6 HB7
  go_upto_region 11 with fail
  have BW : Hid (BoolsAt (W7.alloc (.cells (Array.replicate 64 (.bool false)) 48)) W7.heap.size (fun _ => false)) := Lib.hid (BoolsAt.new W7 _)
  have DW : Hid (Below W7.heap.size W7 (W7.alloc (.cells (Array.replicate 64 (.bool false)) 48))) := Lib.hid (below1 W7 _)
  change Code.wp _ _ _ _ (W7.alloc (.cells (Array.replicate 64 (.bool false)) 48))
  generalize (W7.alloc (.cells (Array.replicate 64 (.bool false)) 48)) = W8 at BW DW ⊢
  have HWB : Hid (W7.heap.size ≤ W7.heap.size) := Lib.hid (Nat.le_refl _)
  obtain ⟨Wb, hWb⟩ : ∃ b, W7.heap.size = b := ⟨_, rfl⟩
  have HWL : Hid (W7.heap.size ≤ Wb) := Lib.hid (by omega)
  rw [hWb] at BW ⊢
  clear hWb HWB
  have HLK : Hid (∀ (y : ClT), 2 ≤ y.1 → y.1 ≤ 6 → ∃ m : Nat, y.1 = (m : Int) ∧ m < 7 ∧ ∀ W', Below W7.heap.size W7 W' → W'.cell? ⟨Lb, m, none⟩ = some (.bool (lookB x y))) := Lib.hid (fun y h2 h6 => by
    have hb := fun W' (hb : Below W7.heap.size W7 W') => Q7.out.below hb Q7.out.lt
    have hc : y.1 = 2 ∨ y.1 = 3 ∨ y.1 = 4 ∨ y.1 = 5 ∨ y.1 = 6 := by omega
    unfold lookB
    rcases hc with e | e | e | e | e
    · exact ⟨2, e, by omega, fun W' h => by rw [Blk.cell (hb W' h) 2, e]; simp⟩
    · exact ⟨3, e, by omega, fun W' h => by rw [Blk.cell (hb W' h) 3, e]; simp⟩
    · exact ⟨4, e, by omega, fun W' h => by rw [Blk.cell (hb W' h) 4, e]; simp⟩
    · exact ⟨5, e, by omega, fun W' h => by rw [Blk.cell (hb W' h) 5, e]; simp⟩
    · exact ⟨6, e, by omega, fun W' h => by rw [Blk.cell (hb W' h) 6, e]; simp⟩)
  clear Q7
  go_wp2_with fail
  go_loopw [13, 12] (fun i u wr => ∃ k : Nat, k ≤ L.length ∧ i = .int .i64 k ∧ u = .bool (spB (L.take k)) ∧ BoolsAt wr Wb (fun j => wrB x (L.take k) j) ∧ Below W7.heap.size W7 wr) (fun i _ _ => L.length - (intOf i).toNat)
  case atStart => exact ⟨0, by omega, rfl, rfl, BW.out, DW.out⟩
  case round =>
    clear BW DW
    obtain ⟨k, hk, rfl, rfl, hbo, hb⟩ := hrel
    have HBO := Lib.hid hbo
    have HB := Lib.hid hb
    clear hbo hb
    by_cases hlt : k < L.length
    case pos =>
      obtain ⟨y, hy⟩ : ∃ y, L[k]? = some y := ⟨L[k], List.getElem?_eq_getElem hlt⟩
      obtain ⟨g, o, hG, hbl, c0, c1, _, _⟩ := atC (La.SlAt.below TL.out HB.out) hy
      subst hG
      have k0 : (0 : Int) ≤ (k : Int) := by omega
      have k1 : (k : Int) < (L.length : Int) := by omega
      have HTK : Hid (L.take (k + 1) = L.take k ++ [y]) := Lib.hid (by rw [List.take_add_one, hy]; rfl)
      have HSP : Hid (spB (L.take (k + 1)) = (spB (L.take k) || decide (y.1 = 7))) := Lib.hid (by
        rw [HTK.out]
        unfold spB
        rw [List.any_append]
        simp only [List.any_cons, List.any_nil, Bool.or_false])
      have HWR : Hid (∀ j : Nat, wrB x (L.take (k + 1)) j = (wrB x (L.take k) j || (lookB x y && decide (y.2.1 = (j : Int))))) := Lib.hid (fun j => by
        rw [HTK.out]
        unfold wrB
        rw [List.any_append]
        simp only [List.any_cons, List.any_nil, Bool.or_false])
      have HGY := Lib.hid (HGL.out y (List.mem_of_getElem? hy))
      have HLY := Lib.hid (HLK.out y)
      have HL0 : Hid (¬ (2 ≤ y.1 ∧ y.1 ≤ 6) → lookB x y = false) := Lib.hid (fun h => by
        unfold lookB
        simp only [Bool.or_eq_false_iff, Bool.and_eq_false_iff, decide_eq_false_iff_not]
        omega)
      clear hy HTK
      generalize spB (L.take k) = u at HSP ⊢
      by_cases h2 : 2 ≤ y.1
      case neg =>
        have h2d : decide (2 ≤ y.1) = false := decide_eq_false h2
        have h7 : ¬ y.1 = 7 := by omega
        have h7b : (y.1 == 7) = false := by simpa using h7
        have HSE : Hid (spB (L.take (k + 1)) = u) := Lib.hid (by rw [HSP.out, decide_eq_false h7, Bool.or_false])
        have HBE : Hid (BoolsAt wr Wb (fun j => wrB x (L.take (k + 1)) j)) := Lib.hid (by
          have e : (fun j => wrB x (L.take (k + 1)) j) = fun j => wrB x (L.take k) j := by
            funext j
            rw [HWR.out j, HL0.out (fun h => h2 h.1)]
            simp
          rw [e]
          exact HBO.out)
        clear h2 h7 HSP HWR HBO
        cases u <;>
        · go_wp2_with fail
          go_roundw
          case rel => exact ⟨k + 1, by omega, by go_num, by rw [HSE.out], HBE.out, HB.out⟩
          case measure => simp [intOf] <;> omega
      have h2d : decide (2 ≤ y.1) = true := decide_eq_true h2
      by_cases h6 : y.1 ≤ 6
      case neg =>
        have h6d : decide (y.1 ≤ 6) = false := decide_eq_false h6
        have HBE : Hid (BoolsAt wr Wb (fun j => wrB x (L.take (k + 1)) j)) := Lib.hid (by
          have e : (fun j => wrB x (L.take (k + 1)) j) = fun j => wrB x (L.take k) j := by
            funext j
            rw [HWR.out j, HL0.out (fun h => h6 h.2)]
            simp
          rw [e]
          exact HBO.out)
        clear HWR HBO h6 h2
        by_cases h7 : y.1 = 7
        · have h7b : (y.1 == 7) = true := by simpa using h7
          have HSE : Hid (spB (L.take (k + 1)) = true) := Lib.hid (by rw [HSP.out, decide_eq_true h7, Bool.or_true])
          clear h7 HSP
          cases u <;>
          · go_wp2_with fail
            go_roundw
            case rel => exact ⟨k + 1, by omega, by go_num, by rw [HSE.out], HBE.out, HB.out⟩
            case measure => simp [intOf] <;> omega
        · have h7b : (y.1 == 7) = false := by simpa using h7
          have HSE : Hid (spB (L.take (k + 1)) = u) := Lib.hid (by rw [HSP.out, decide_eq_false h7, Bool.or_false])
          clear h7 HSP
          cases u <;>
          · go_wp2_with fail
            go_roundw
            case rel => exact ⟨k + 1, by omega, by go_num, by rw [HSE.out], HBE.out, HB.out⟩
            case measure => simp [intOf] <;> omega
      have h6d : decide (y.1 ≤ 6) = true := decide_eq_true h6
      have h7 : ¬ y.1 = 7 := by omega
      have h7b : (y.1 == 7) = false := by simpa using h7
      have HSE : Hid (spB (L.take (k + 1)) = u) := Lib.hid (by rw [HSP.out, decide_eq_false h7, Bool.or_false])
      obtain ⟨m, hm, hm7, hmc⟩ := HLY.out h2 h6
      obtain ⟨hA0, hA1⟩ := HGY.out h2 h6
      have l0 := hmc wr HB.out
      have m0 : (0 : Int) ≤ (m : Int) := by omega
      have m1 : (m : Int) < 7 := by omega
      obtain ⟨a, ha⟩ : ∃ a : Nat, y.2.1 = (a : Int) := ⟨y.2.1.toNat, by omega⟩
      have ha64 : a < 64 := by omega
      have a0' : (0 : Int) ≤ (a : Int) := by omega
      have a1' : (a : Int) < 64 := by omega
      have KBR := Lib.hid (fun W => BK.out (a : Int) W)
      rw [Int.emod_eq_of_lt a0' a1'] at KBR
      rw [hm] at c0 h2d h6d h7b
      rw [ha] at c1
      have HAJ : Hid (∀ j : Nat, wrB x (L.take (k + 1)) j = (wrB x (L.take k) j || (lookB x y && decide (a = j)))) := Lib.hid (fun j => by
        rw [HWR.out j, ha]
        congr 2
        exact decide_eq_decide.2 (by omega))
      clear h2 h6 h7 HSP HLY hm hm7 hmc hA0 hA1 ha HGY HL0 HWR
      generalize lookB x y = lk at l0 HAJ
      cases lk with
      | false =>
        have HBE : Hid (BoolsAt wr Wb (fun j => wrB x (L.take (k + 1)) j)) := Lib.hid (by
          have e : (fun j => wrB x (L.take (k + 1)) j) = fun j => wrB x (L.take k) j := by
            funext j
            rw [HAJ.out j]
            simp
          rw [e]
          exact HBO.out)
        clear HAJ HBO KBR
        cases u <;>
        · go_wp2_with fail
          go_roundw
          case rel => exact ⟨k + 1, by omega, by go_num, by rw [HSE.out], HBE.out, HB.out⟩
          case measure => simp [intOf] <;> omega
      | true =>
        have HBE : Hid (BoolsAt (wr.setCell ⟨Wb, a, none⟩ (.bool true)) Wb (fun j => wrB x (L.take (k + 1)) j)) := Lib.hid (by
          have e : (fun j => wrB x (L.take (k + 1)) j) = fun j => if j = a then true else wrB x (L.take k) j := by
            funext j
            rw [HAJ.out j]
            by_cases hj : j = a
            · subst hj
              simp
            · have : decide (a = j) = false := decide_eq_false (fun h => hj h.symm)
              rw [if_neg hj, this]
              simp
          rw [e]
          exact HBO.out.set ha64 true)
        have HBB : Hid (Below W7.heap.size W7 (wr.setCell ⟨Wb, a, none⟩ (.bool true))) := Lib.hid (HB.out.setCell (p := ⟨Wb, a, none⟩) HWL.out _)
        obtain ⟨w0, f0⟩ := HBO.out.c a ha64
        clear HAJ HBO HB
        have hne : (⟨g, o + k * 4, none⟩ : Addr) = ⟨g, o + k * 4, none⟩ := rfl
        have HCY : Hid ((wr.setCell ⟨Wb, a, none⟩ (.bool true)).cell? ⟨g, o + k * 4, none⟩ = some (.int .i64 (m : Int))) := Lib.hid (by
          have hgl : g < W7.heap.size := HTLG.out g o k y.1 hlt rfl
          rw [World.cell?_setCell_far _ _ _ _ (by have := HWL.out; show Wb ≠ g; omega)]
          exact c0)
        go_wp2_with fail
        refine (KBR.out _).mono ?_
        rintro e w9 ⟨rfl, rfl⟩
        go_upto_region 17 with fail
        have c0' := HCY.out
        cases u <;>
        · go_wp2_with fail
          go_roundw
          case rel => exact ⟨k + 1, by omega, by go_num, by rw [HSE.out], HBE.out, HBB.out⟩
          case measure => simp [intOf] <;> omega
    obtain rfl : k = L.length := by omega
    rw [List.take_length]
    have HBO2 : Hid (BoolsAt wr Wb (fun j => wrB x L j)) := Lib.hid (by have := HBO.out; rwa [List.take_length] at this)
    have HB9 : Hid (Below W3.heap.size W3 wr) := Lib.hid (HB8.out.trans (HB.out.mono HB8.out.size))
    have HC9 := Lib.hid (fun W' (hb : Below wr.heap.size wr W') => HC3.out W' (HB9.out.trans (hb.mono HB9.out.size)))
    have HG9 := Lib.hid (fun W' (hb : Below wr.heap.size wr W') => HG3.out W' (HB9.out.trans (hb.mono HB9.out.size)))
    have HS9 := Lib.hid (fun W' (hb : Below wr.heap.size wr W') => HS3.out W' (HB9.out.trans (hb.mono HB9.out.size)))
    have HX9 := Lib.hid (fun W' (hb : Below wr.heap.size wr W') => HX3.out W' (HB9.out.trans (hb.mono HB9.out.size)))
    have HT9 := Lib.hid (fun W' (hb : Below wr.heap.size wr W') => HT3.out W' (HB9.out.trans (hb.mono HB9.out.size)))
    clear HBO HB HB8 HC3 HG3 HS3 HX3 HT3 HB9 TL HLK HGL HTLG HWL
    generalize spB L = sp at HT ⊢
    go_wp2_with fail
    go_loopw [14] (fun i wq => ∃ k : Nat, k ≤ p.length ∧ i = .int .i64 k ∧ Below wr.heap.size wr wq) (fun i _ => p.length - (intOf i).toNat)
    case atStart => exact ⟨0, by omega, rfl, Below.refl _ _⟩
    case round =>
      obtain ⟨k, hk, rfl, hb⟩ := hrel
      have HB := Lib.hid hb
      clear hb
      by_cases hlt : k < p.length
      case neg =>
        obtain rfl : k = p.length := by omega
        go_wp2_with fail
        refine (KW.out _).mono ?_
        rintro e W5 ⟨rfl, hb⟩
        have D := Lib.hid (HT9.out _ (HB.out.trans (hb.mono HB.out.size)))
        clear hb
        go_wp2
        go_ret
        exact ⟨rfl, D.out⟩
      have k0 : (0 : Int) ≤ (k : Int) := by omega
      have k1 : (k : Int) < (p.length : Int) := by omega
      have k2 : (k : Int) < 64 := by omega
      have k64 : k < 64 := by omega
      have KY := Lib.hid (Why_any A B C X none ca cb cc cx 0 ns ps os p (onG x) (crP ns ps os p) (k : Int) wr ((HS9.out _ HB.out).toIn) (HX9.out _ HB.out) (nilD _) (crowdOk A B C X none ca cb cc cx 0 ns ps os p (onG x)))
      have HTK := Lib.hid (HT.out k hlt)
      generalize whyF ns ps os p (onG x) (crP ns ps os p) (k : Int) = yy at KY HTK
      obtain ⟨z0, z1, z2⟩ := HC9.out _ HB.out
      obtain ⟨g0, g1, g2, g3, g4, g5, g6, g7, g8⟩ := HG9.out _ HB.out
      go_wp2_with fail
      refine (KY.out).mono ?_
      rintro e W6 ⟨rfl, hb⟩
      have HB6 := Lib.hid (HB.out.trans (hb.mono HB.out.size))
      clear hb KY z0 z1 z2 g0 g1 g2 g3 g4 g5 g6 g7 g8
      have b0 := ((HBO2.out.below HB6.out).c k k64).1
      obtain ⟨_, _, _, _, g4, _, _, _, _⟩ := HG9.out _ HB6.out
      rcases HTK.out with ⟨h1, h2⟩ | ⟨h1, h2 | ⟨h2, h3, h4⟩⟩
      · rw [h1] at b0
        have yb : (yy == 0) = false := by simpa using h2
        clear h1 h2 HTK
        go_wp2_with fail
        go_roundw
        case rel => exact ⟨k + 1, by omega, by go_num, HB6.out⟩
        case measure => simp [intOf] <;> omega
      · rw [h1] at b0
        subst h2
        clear h1 HTK
        go_wp2_with fail
        go_roundw
        case rel => exact ⟨k + 1, by omega, by go_num, HB6.out⟩
        case measure => simp [intOf] <;> omega
      · rw [h1] at b0
        subst h2
        subst h3
        have h8 := E8.out
        rw [h4] at h8
        have h8d : decide (bits BinOp.and IntKind.i64 x 8 = 0) = false := by simpa using h8
        have h8b : (bits BinOp.and IntKind.i64 x 8 == 0) = false := by simpa using h8
        clear h1 h4 h8 HTK
        go_wp2_with fail
        go_roundw
        case rel => exact ⟨k + 1, by omega, by go_num, HB6.out⟩
        case measure => simp [intOf] <;> omega
end Go.Proofs.YticgcimcebdjlaaGreat
