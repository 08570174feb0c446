/- What is told is told once, where it is, with its reason, in order; who is not told has none: the contract of the law's all. Condition: the arguments lie in memory; the policy and the placement may be. What is on more in a policy: it may be as before; no pod that is to go stays, and none for a later reason. Numbers alone. Conditions: what they say. -/
import Derived.Test.YticgcimcebdjlaaGreatC02
import Derived.Handy

namespace Go.Proofs.YticgcimcebdjlaaGreat
open Go.RowKit Go.Maps

theorem keyW_is (y : W3T) (h0 : 0 ≤ y.1) (h1 : y.1 < 8) (h2 : 0 ≤ y.2.2) (h3 : y.2.2 < 8) (h4 : 0 ≤ y.2.1) (h5 : y.2.1 < 24) : bits BinOp.or IntKind.i64 (bits BinOp.or IntKind.i64 (y.1 * 1048576) (y.2.2 * 1024)) y.2.1 = y.1 * 1048576 + y.2.2 * 1024 + y.2.1 := by
  have h : ∀ (a n : Fin 8) (q : Fin 24), bits BinOp.or IntKind.i64 (bits BinOp.or IntKind.i64 ((a.val : Int) * 1048576) ((n.val : Int) * 1024)) (q.val : Int) = (a.val : Int) * 1048576 + (n.val : Int) * 1024 + (q.val : Int) := by decide +kernel
  have := h ⟨y.1.toNat, by omega⟩ ⟨y.2.2.toNat, by omega⟩ ⟨y.2.1.toNat, by omega⟩
  rwa [show ((y.1.toNat : Nat) : Int) = y.1 by omega, show ((y.2.2.toNat : Nat) : Int) = y.2.2 by omega, show ((y.2.1.toNat : Nat) : Int) = y.2.1 by omega] at this
theorem cellsW3_get {l : List W3T} {k : Nat} {x : W3T} (hk : l[k]? = some x) : (cellsW3 l)[k * 3]? = some (.int .i64 x.1) ∧ (cellsW3 l)[k * 3 + 1]? = some (.int .i64 x.2.1) ∧ (cellsW3 l)[k * 3 + 2]? = some (.int .i64 x.2.2) := by
  have hlt : k < l.length := (List.getElem?_eq_some_iff.1 hk).1
  have hx : l[k]! = x := by rw [List.getElem!_eq_getElem?_getD, hk]; rfl
  refine ⟨?_, ?_, ?_⟩
  · rw [cellsW3_at l (k * 3) (by omega), show k * 3 / 3 = k by omega, show k * 3 % 3 = 0 by omega, hx]; rfl
  · rw [cellsW3_at l (k * 3 + 1) (by omega), show (k * 3 + 1) / 3 = k by omega, show (k * 3 + 1) % 3 = 1 by omega, hx]; rfl
  · rw [cellsW3_at l (k * 3 + 2) (by omega), show (k * 3 + 2) / 3 = k by omega, show (k * 3 + 2) % 3 = 2 by omega, hx]; rfl
theorem atW3 {w : World} {A : Option Addr} {l : List W3T} (h : La.SlAt w A (cellsW3 l)) {k : Nat} {x : W3T} (hk : l[k]? = some x) :
    ∃ b o, A = some ⟨b, o, none⟩ ∧ b < w.heap.size ∧ w.cell? ⟨b, o + k * 3, none⟩ = some (.int .i64 x.1) ∧ w.cell? ⟨b, o + k * 3 + 1, none⟩ = some (.int .i64 x.2.1) ∧ w.cell? ⟨b, o + k * 3 + 2, none⟩ = some (.int .i64 x.2.2) := by
  obtain ⟨h0, h1, h2⟩ := cellsW3_get hk
  obtain ⟨b, o, hA, c0⟩ := h _ _ h0
  obtain ⟨b', o', hA', c1⟩ := h _ _ h1
  rw [hA] at hA'
  cases hA'
  obtain ⟨b', o', hA', c2⟩ := h _ _ h2
  rw [hA] at hA'
  cases hA'
  exact ⟨b, o, hA, World.block_lt_of_cell? w _ c0, c0, c1, c2⟩
/-- Is a pod told among these? -/
def hadB (l : List W3T) (j : Nat) : Bool := l.any (fun y => decide (y.2.1 = (j : Int)))
theorem hadB_take {l : List W3T} {k : Nat} {y : W3T} (hy : l[k]? = some y) (j : Nat) : hadB (l.take (k + 1)) j = (hadB (l.take k) j || decide (y.2.1 = (j : Int))) := by
  unfold hadB
  rw [List.take_add_one, hy]
  simp
theorem hadB_no {l : List W3T} (h : l.Pairwise (fun x y => x.2.1 ≠ y.2.1)) {k kk : Nat} {y : W3T} (hy : l[k]? = some y) (hk : y.2.1 = (kk : Int)) : hadB (l.take k) kk = false := by
  rw [Bool.eq_false_iff]
  intro ha
  obtain ⟨x, hx, hd⟩ := List.any_eq_true.1 ha
  obtain ⟨i, hi, hxi⟩ := List.getElem_of_mem hx
  have hi2 : i < k := by rw [List.length_take] at hi; omega
  rw [List.getElem_take] at hxi
  obtain ⟨hk1, hk2⟩ := List.getElem?_eq_some_iff.1 hy
  have := List.pairwise_iff_getElem.1 h i k (by omega) hk1 hi2
  rw [hxi, hk2, hk] at this
  exact this (of_decide_eq_true hd)
theorem ltW_key {x y : W3T} (h : ltW x y) (hx : 0 ≤ x.1 ∧ x.1 < 8 ∧ 0 ≤ x.2.2 ∧ x.2.2 < 8 ∧ 0 ≤ x.2.1 ∧ x.2.1 < 24) (hy : 0 ≤ y.1 ∧ y.1 < 8 ∧ 0 ≤ y.2.2 ∧ y.2.2 < 8 ∧ 0 ≤ y.2.1 ∧ y.2.1 < 24) : decide (bits BinOp.or IntKind.i64 (bits BinOp.or IntKind.i64 (y.1 * 1048576) (y.2.2 * 1024)) y.2.1 ≤ bits BinOp.or IntKind.i64 (bits BinOp.or IntKind.i64 (x.1 * 1048576) (x.2.2 * 1024)) x.2.1) = false := by
  obtain ⟨a0, a1, a2, a3, a4, a5⟩ := hx
  obtain ⟨b0, b1, b2, b3, b4, b5⟩ := hy
  rw [keyW_is x a0 a1 a2 a3 a4 a5, keyW_is y b0 b1 b2 b3 b4 b5, decide_eq_false_iff_not]
  unfold ltW at h
  omega
set_option maxRecDepth 100000 in
set_option maxHeartbeats 16000000 in
theorem all_any (A B C P G : Option Addr) (ca cb cc cp cg : Nat) (ns : List NodeD) (ps : List PodD) (os : List OwnD) (p : List Int) (g : Pol) (cr : Nat → Bool) (w : World) (h : SnapIn w A B C ca cb cc ns ps os) (hp : IntsAt w P cp p) (hg : NamesAt w G cg g.drain) (HC : CrowdOk A B C P G ca cb cc cp cg ns ps os p g cr) (hE : placeE ns ps os p = 0) (hG : checkG g = 0) :
    Calls Tryz.prog 17 #[snapV A B C ca cb cc ns ps os, .slice P p.length cp, valG g G cg] w fun e w' => e = .returned (.bool true) ∧ Below w.heap.size w w' := by
  have hfw := placeE_few hE
  have hpl : p.length ≤ 24 := by rw [placeE_len hE]; exact hfw.2.1
  have hLn : (sortW (wrongF ns ps os p g cr)).length ≤ 1000 := by rw [sortW_len]; exact wrongF_few ns ps os p g cr
  have B0 : Hid (Below w.heap.size w ((w.alloc (.cells (snapC A B C ca cb cc ns ps os) 26)).alloc (.cells (cellsG g G cg) 30))) := Lib.hid (Qu.below2 w _ _)
  have S0 : Hid (Blk ((w.alloc (.cells (snapC A B C ca cb cc ns ps os) 26)).alloc (.cells (cellsG g G cg) 30)) w.heap.size (snapC A B C ca cb cc ns ps os) 26) := Lib.hid (Blk.alloc (Blk.new w _ _) _)
  have G0 : Hid (Blk ((w.alloc (.cells (snapC A B C ca cb cc ns ps os) 26)).alloc (.cells (cellsG g G cg) 30)) (w.heap.size + 1) (cellsG g G cg) 30) := Lib.hid (blk2 w _ _ _)
  have KP := Lib.hid (fun W' (hb : Below w.heap.size w W') => Pods_any A B C P G ca cb cc cp cg ns ps os p g cr W' (h.low hb) (hp.below hb) (hg.below hb) HC)
  have KY := Lib.hid (fun (k : Nat) W' (hb : Below w.heap.size w W') => Why_any A B C P G ca cb cc cp cg ns ps os p g cr (k : Int) W' (h.low hb) (hp.below hb) (hg.below hb) HC)
  have KF := Lib.hid (fun W' (hb : Below w.heap.size w W') => Fine_any A B C P G ca cb cc cp cg ns ps os p g cr W' (h.low hb) (hp.below hb) (hg.below hb) HC)
  have HP := Lib.hid (fun W' (hb : Below w.heap.size w W') => (hp.below hb).cells)
  have HEM : Hid ((decide (checkG g = 0 ∧ placeE ns ps os p = 0) && decide (wrongF ns ps os p g cr = [])) = decide ((sortW (wrongF ns ps os p g cr)).length = 0)) := Lib.hid (by
    rw [decide_eq_true ⟨hG, hE⟩, Bool.true_and]
    exact decide_eq_decide.2 (sort_empty _).symm)
  have HIS := Lib.hid (fun y hy => told_is (cr := cr) (y := y) hE hG hy)
  have HON := Lib.hid (told_once ns ps os p g cr)
  have HRI := Lib.hid (told_rise ns ps os p g cr)
  have HNO := Lib.hid (fun k hk hx => not_told (cr := cr) hE hG (k := k) hk hx)
  have BK := Lib.hid (fun a W => Qu.bring_any a 64 W (by omega) (by omega))
  clear h hp hg HC hE hG hfw
  obtain ⟨L, hL⟩ : ∃ L, sortW (wrongF ns ps os p g cr) = L := ⟨_, rfl⟩
  rw [hL] at KP HEM HIS HON HRI HNO hLn
  rw [HEM.out] at KF
  obtain ⟨F, hF⟩ : ∃ F, whyF ns ps os p g cr = F := ⟨_, rfl⟩
  rw [hF] at KY HIS HNO
  clear hL hF HEM
  go_enter Tryz.func17, Tryz.ntmps17
  go_upto_region 1 with fail
  try change Code.wp _ _ _ _ ((w.alloc (.cells (snapC A B C ca cb cc ns ps os) 26)).alloc (.cells (cellsG g G cg) 30))
  generalize ((w.alloc (.cells (snapC A B C ca cb cc ns ps os) 26)).alloc (.cells (cellsG g G cg) 30)) = W0 at B0 S0 G0 ⊢
  obtain ⟨Gb, hGb⟩ : ∃ b, w.heap.size + 1 = b := ⟨_, rfl⟩
  rw [hGb] at G0 ⊢
  clear hGb
  have HT0 := Lib.hid (fun W' (hb : Below W0.heap.size W0 W') => B0.out.trans (hb.mono B0.out.size))
  have HC0 : Hid (∀ W', Below W0.heap.size W0 W' → (W'.cell? ⟨w.heap.size, 0, none⟩ = some (.slice A ns.length ca) ∧ W'.cell? ⟨w.heap.size, 1, none⟩ = some (.slice B ps.length cb) ∧ W'.cell? ⟨w.heap.size, 2, none⟩ = some (.slice C os.length cc)) ∧ (W'.cell? ⟨Gb, 0, none⟩ = some (.int .i64 g.l0) ∧ W'.cell? ⟨Gb, 1, none⟩ = some (.int .i64 g.l1) ∧ W'.cell? ⟨Gb, 2, none⟩ = some (.int .i64 g.h0) ∧ W'.cell? ⟨Gb, 3, none⟩ = some (.int .i64 g.h1) ∧ W'.cell? ⟨Gb, 4, none⟩ = some (.int .i64 g.on) ∧ W'.cell? ⟨Gb, 5, none⟩ = some (.slice G g.drain.length cg) ∧ W'.cell? ⟨Gb, 6, none⟩ = some (.int .i64 g.mx) ∧ W'.cell? ⟨Gb, 7, none⟩ = some (.int .i64 g.tr) ∧ W'.cell? ⟨Gb, 8, none⟩ = some (.bool g.rb))) := Lib.hid (fun W' hb => by
    have h1 := S0.out.below hb S0.out.lt
    have h2 := G0.out.below hb G0.out.lt
    exact ⟨⟨Blk.cell h1 0, Blk.cell h1 1, Blk.cell h1 2⟩, Blk.cell h2 0, Blk.cell h2 1, Blk.cell h2 2, Blk.cell h2 3, Blk.cell h2 4, Blk.cell h2 5, Blk.cell h2 6, Blk.cell h2 7, Blk.cell h2 8⟩)
  have KP1 := Lib.hid (KP.out _ B0.out)
  clear S0 G0 B0 KP
  obtain ⟨⟨z0, z1, z2⟩, ⟨g0, g1, g2, g3, g4, g5, g6, g7, g8⟩⟩ := HC0.out _ (Below.refl _ _)
  go_wp2_with fail
  refine (KP1.out).mono ?_
  rintro e W1 ⟨v, rfl, ho, hb⟩
  obtain ⟨XL, cL, rfl, _⟩ := La.own_slice ho
  have TL := Lib.hid (La.own_slat ho)
  have HB1 := Lib.hid hb
  clear ho hb KP1 z0 z1 z2 g0 g1 g2 g3 g4 g5 g6 g7 g8
  go_upto_region 3 with fail
  have BW : Hid (BoolsAt (W1.alloc (.cells (Array.replicate 64 (.bool false)) 48)) W1.heap.size (fun _ => false)) := Lib.hid (BoolsAt.new W1 _)
  have DW : Hid (Below W1.heap.size W1 (W1.alloc (.cells (Array.replicate 64 (.bool false)) 48))) := Lib.hid (below1 W1 _)
  change Code.wp _ _ _ _ (W1.alloc (.cells (Array.replicate 64 (.bool false)) 48))
  generalize (W1.alloc (.cells (Array.replicate 64 (.bool false)) 48)) = W2 at BW DW ⊢
  obtain ⟨Wb, hWb⟩ : ∃ b, W1.heap.size = b := ⟨_, rfl⟩
  have HWL : Hid (W1.heap.size ≤ Wb) := Lib.hid (by omega)
  rw [hWb] at BW ⊢
  clear hWb
  go_wp2_with fail
  go_loopw [9] (fun i wr => ∃ k : Nat, k ≤ L.length ∧ i = .int .i64 k ∧ BoolsAt wr Wb (hadB (L.take k)) ∧ Below W1.heap.size W1 wr) (fun i _ => L.length - (intOf i).toNat)
  case atStart => exact ⟨0, by omega, rfl, BW.out, DW.out⟩
  case round =>
    clear BW DW
    obtain ⟨k, hk, rfl, hbo, hb⟩ := hrel
    have HBO := Lib.hid hbo
    have HB := Lib.hid hb
    clear hbo hb
    by_cases hlt : k < L.length
    case neg =>
      obtain rfl : k = L.length := by omega
      have HBO2 : Hid (BoolsAt wr Wb (hadB L)) := Lib.hid (by have := HBO.out; rwa [List.take_length] at this)
      have HB9 : Hid (Below W0.heap.size W0 wr) := Lib.hid (HB1.out.trans (HB.out.mono HB1.out.size))
      clear HBO HB HB1 TL HIS HON HRI BK
      go_wp2_with fail
      go_loopw [11] (fun i wq => ∃ k : Nat, k ≤ p.length ∧ i = .int .i64 k ∧ Below wr.heap.size wr wq) (fun i _ => p.length - (intOf i).toNat)
      case atStart => exact ⟨0, by omega, rfl, Below.refl _ _⟩
      case round =>
        obtain ⟨k, hk, rfl, hb⟩ := hrel
        have HB := Lib.hid (HB9.out.trans (hb.mono HB9.out.size))
        have HBW := Lib.hid hb
        clear hb
        by_cases hlt : k < p.length
        case neg =>
          obtain rfl : k = p.length := by omega
          have KF1 := Lib.hid (KF.out _ (HT0.out _ HB.out))
          obtain ⟨⟨z0, z1, z2⟩, ⟨g0, g1, g2, g3, g4, g5, g6, g7, g8⟩⟩ := HC0.out _ HB.out
          go_wp2_with fail
          refine (KF1.out).mono ?_
          rintro e W5 ⟨rfl, hb⟩
          have D := Lib.hid (HT0.out _ (HB.out.trans (hb.mono HB.out.size)))
          clear hb KF1 z0 z1 z2 g0 g1 g2 g3 g4 g5 g6 g7 g8
          by_cases h0 : L.length = 0
          · have t1 : decide (L.length = 0) = true := decide_eq_true h0
            have t2 : decide ((L.length : Int) = 0) = true := decide_eq_true (by omega)
            have t3 : ((L.length : Int) == 0) = true := by rw [beq_iff_eq]; omega
            rw [t1]
            clear h0
            go_wp2
            go_ret
            exact ⟨rfl, D.out⟩
          · have t1 : decide (L.length = 0) = false := decide_eq_false h0
            have t2 : decide ((L.length : Int) = 0) = false := decide_eq_false (by omega)
            have t3 : ((L.length : Int) == 0) = false := by rw [beq_eq_false_iff_ne]; omega
            rw [t1]
            clear h0
            go_wp2
            go_ret
            exact ⟨rfl, D.out⟩
        have k0 : (0 : Int) ≤ (k : Int) := by omega
        have k1 : (k : Int) < (p.length : Int) := by omega
        have k2 : (k : Int) < 64 := by omega
        have k64 : k < 64 := by omega
        have b0 := ((HBO2.out.below HBW.out).c k k64).1
        have HN := Lib.hid (HNO.out k hlt)
        have KY1 := Lib.hid (KY.out k _ (HT0.out _ HB.out))
        obtain ⟨⟨z0, z1, z2⟩, ⟨g0, g1, g2, g3, g4, g5, g6, g7, g8⟩⟩ := HC0.out _ HB.out
        cases hh : hadB L k with
        | true =>
          rw [hh] at b0
          go_wp2_with fail
          go_roundw
          case rel => exact ⟨k + 1, by omega, by go_num, HBW.out⟩
          case measure => simp [intOf] <;> omega
        | false =>
          rw [hh] at b0
          rw [HN.out hh] at KY1
          go_wp2_with fail
          refine (KY1.out).mono ?_
          rintro e W6 ⟨rfl, hb⟩
          have HB6 := Lib.hid (HBW.out.trans (hb.mono HBW.out.size))
          clear hb KY1 z0 z1 z2 g0 g1 g2 g3 g4 g5 g6 g7 g8 b0
          go_wp2_with fail
          go_roundw
          case rel => exact ⟨k + 1, by omega, by go_num, HB6.out⟩
          case measure => simp [intOf] <;> omega
    obtain ⟨y, hy⟩ : ∃ y, L[k]? = some y := ⟨L[k], List.getElem?_eq_getElem hlt⟩
    obtain ⟨kk, n, hk1, hn, hn8, e1, e2, r1, r7, eF⟩ := HIS.out y (List.mem_of_getElem? hy)
    obtain ⟨gL, oL, hA, hbl, c0, c1, c2⟩ := atW3 (La.SlAt.below TL.out (Below.refl W1.heap.size W1)) hy
    subst hA
    obtain ⟨pb, po, hA, hpbl, cp0⟩ := atI (HP.out _ (HT0.out _ HB1.out)) hn
    subst hA
    have HCB := Lib.hid (fun W' (hb : Below W1.heap.size W1 W') => HC0.out W' (HB1.out.trans (hb.mono HB1.out.size)))
    have HCY : Hid (∀ W', Below W1.heap.size W1 W' → (W'.cell? ⟨gL, oL + k * 3, none⟩ = some (.int .i64 y.1) ∧ W'.cell? ⟨gL, oL + k * 3 + 1, none⟩ = some (.int .i64 (kk : Int)) ∧ W'.cell? ⟨gL, oL + k * 3 + 2, none⟩ = some (.int .i64 (n : Int))) ∧ W'.cell? ⟨pb, po + kk, none⟩ = some (.int .i64 (n : Int))) := Lib.hid (fun W' hb => by
      rw [← e1, ← e2]
      exact ⟨⟨(hb.cell (p := ⟨gL, oL + k * 3, none⟩) hbl).trans c0, (hb.cell (p := ⟨gL, oL + k * 3 + 1, none⟩) hbl).trans c1, (hb.cell (p := ⟨gL, oL + k * 3 + 2, none⟩) hbl).trans c2⟩, by rw [e2]; exact (hb.cell (p := ⟨pb, po + kk, none⟩) hpbl).trans cp0⟩)
    have HNH := Lib.hid (hadB_no HON.out hy e1)
    have HHT := Lib.hid (fun j => hadB_take hy j)
    have KY1 := Lib.hid (KY.out kk)
    rw [eF] at KY1
    have k0 : (0 : Int) ≤ (k : Int) := by omega
    have k1 : (k : Int) < (L.length : Int) := by omega
    have q0 : (0 : Int) ≤ (kk : Int) := by omega
    have q1 : (kk : Int) < 64 := by omega
    have q2 : decide (p.length ≤ kk) = false := decide_eq_false (by omega)
    have q3 : decide ((n : Int) < 0) = false := decide_eq_false (by omega)
    have q4 : decide (y.1 < 1) = false := decide_eq_false (by omega)
    have q5 : decide (7 < y.1) = false := decide_eq_false (by omega)
    have q6 : (kk : Int) < (p.length : Int) := by omega
    have q7 : kk < 64 := by omega
    have KBR := Lib.hid (fun W => BK.out (kk : Int) W)
    rw [Int.emod_eq_of_lt q0 q1] at KBR
    obtain ⟨⟨c0, c1, c2⟩, cp0⟩ := HCY.out _ HB.out
    go_wp2_with fail
    refine (KBR.out _).mono ?_
    rintro e w9 ⟨rfl, rfl⟩
    go_upto_region 7 with fail
    go_cut [94] (fun v wc => v = .bool false ∧ Below wr.heap.size wr wc)
    case first =>
      (try simp only [List.append])
      have D0 : Hid (Below wr.heap.size wr wr.drew) := Lib.hid (Below.refl _ wr).drew
      have HCR : Hid (∀ W', Below wr.heap.size wr W' → (W'.cell? ⟨w.heap.size, 0, none⟩ = some (.slice A ns.length ca) ∧ W'.cell? ⟨w.heap.size, 1, none⟩ = some (.slice B ps.length cb) ∧ W'.cell? ⟨w.heap.size, 2, none⟩ = some (.slice C os.length cc)) ∧ (W'.cell? ⟨Gb, 0, none⟩ = some (.int .i64 g.l0) ∧ W'.cell? ⟨Gb, 1, none⟩ = some (.int .i64 g.l1) ∧ W'.cell? ⟨Gb, 2, none⟩ = some (.int .i64 g.h0) ∧ W'.cell? ⟨Gb, 3, none⟩ = some (.int .i64 g.h1) ∧ W'.cell? ⟨Gb, 4, none⟩ = some (.int .i64 g.on) ∧ W'.cell? ⟨Gb, 5, none⟩ = some (.slice G g.drain.length cg) ∧ W'.cell? ⟨Gb, 6, none⟩ = some (.int .i64 g.mx) ∧ W'.cell? ⟨Gb, 7, none⟩ = some (.int .i64 g.tr) ∧ W'.cell? ⟨Gb, 8, none⟩ = some (.bool g.rb)) ∧ (W'.cell? ⟨gL, oL + k * 3, none⟩ = some (.int .i64 y.1) ∧ W'.cell? ⟨gL, oL + k * 3 + 1, none⟩ = some (.int .i64 (kk : Int)) ∧ W'.cell? ⟨gL, oL + k * 3 + 2, none⟩ = some (.int .i64 (n : Int))) ∧ W'.cell? ⟨pb, po + kk, none⟩ = some (.int .i64 (n : Int)) ∧ W'.cell? ⟨Wb, kk, none⟩ = some (.bool false)) := Lib.hid (fun W' hb => by
        have h1 := HB.out.trans (hb.mono HB.out.size)
        exact ⟨(HCB.out W' h1).1, (HCB.out W' h1).2, (HCY.out W' h1).1, (HCY.out W' h1).2, ((HBO.out.below hb).c kk q7).1.trans (by rw [HNH.out])⟩)
      have T0 := HCR.out _ D0.out
      have KY2 := Lib.hid (KY1.out wr.drew (HT0.out _ (HB1.out.trans ((HB.out.trans (D0.out.mono HB.out.size)).mono HB1.out.size))))
      go_region_held3 (fun w' => (w'.cell? ⟨w.heap.size, 0, none⟩ = some (.slice A ns.length ca) ∧ w'.cell? ⟨w.heap.size, 1, none⟩ = some (.slice B ps.length cb) ∧ w'.cell? ⟨w.heap.size, 2, none⟩ = some (.slice C os.length cc)) ∧ (w'.cell? ⟨Gb, 0, none⟩ = some (.int .i64 g.l0) ∧ w'.cell? ⟨Gb, 1, none⟩ = some (.int .i64 g.l1) ∧ w'.cell? ⟨Gb, 2, none⟩ = some (.int .i64 g.h0) ∧ w'.cell? ⟨Gb, 3, none⟩ = some (.int .i64 g.h1) ∧ w'.cell? ⟨Gb, 4, none⟩ = some (.int .i64 g.on) ∧ w'.cell? ⟨Gb, 5, none⟩ = some (.slice G g.drain.length cg) ∧ w'.cell? ⟨Gb, 6, none⟩ = some (.int .i64 g.mx) ∧ w'.cell? ⟨Gb, 7, none⟩ = some (.int .i64 g.tr) ∧ w'.cell? ⟨Gb, 8, none⟩ = some (.bool g.rb)) ∧ (w'.cell? ⟨gL, oL + k * 3, none⟩ = some (.int .i64 y.1) ∧ w'.cell? ⟨gL, oL + k * 3 + 1, none⟩ = some (.int .i64 (kk : Int)) ∧ w'.cell? ⟨gL, oL + k * 3 + 2, none⟩ = some (.int .i64 (n : Int))) ∧ w'.cell? ⟨pb, po + kk, none⟩ = some (.int .i64 (n : Int)) ∧ w'.cell? ⟨Wb, kk, none⟩ = some (.bool false))
        (first | (with_reducible exact T0) | (with_reducible exact T1))
        (first
          | (go_at_call 16
             with_reducible refine (KY2.out).mono ?_
             rintro e wA ⟨rfl, hb⟩
             have D1 := Lib.hid (D0.out.trans (hb.mono D0.out.size))
             have T1 := HCR.out _ D1.out
             clear hb))
      all_goals
        (try go_wp2_with fail)
        go_meet
        exact ⟨rfl, D1.out⟩
    case' rest => obtain ⟨rfl, hb⟩ := hcut
    have HB7 := Lib.hid (HB.out.trans (hb.mono HB.out.size))
    have HBO7 := Lib.hid (HBO.out.below hb)
    clear hb HBO HB c0 c1 c2 cp0 KY1 KBR BK q2 q3 q4 q5 q6
    obtain ⟨w0, f0⟩ := HBO7.out.c kk q7
    have HBO9 : Hid (BoolsAt (wc.setCell ⟨Wb, kk, none⟩ (.bool true)) Wb (hadB (L.take (k + 1)))) := Lib.hid (by
      have e : hadB (L.take (k + 1)) = fun i => if i = kk then true else hadB (L.take k) i := by
        funext j
        rw [HHT.out j, e1]
        by_cases hj : j = kk
        · subst hj
          simp
        · have : decide ((kk : Int) = (j : Int)) = false := decide_eq_false (fun h => hj (by omega))
          rw [if_neg hj, this, Bool.or_false]
      rw [e]
      exact HBO7.out.set q7 true)
    have HB9 : Hid (Below W1.heap.size W1 (wc.setCell ⟨Wb, kk, none⟩ (.bool true))) := Lib.hid (HB7.out.setCell (p := ⟨Wb, kk, none⟩) HWL.out _)
    go_upto_region 10 with fail
    try change Code.wp _ _ _ _ (wc.setCell ⟨Wb, kk, none⟩ (.bool true))
    generalize (wc.setCell ⟨Wb, kk, none⟩ (.bool true)) = W9 at HBO9 HB9 ⊢
    clear w0 f0 HB7 HBO7 HHT HNH
    obtain ⟨⟨c0, c1, c2⟩, cp0⟩ := HCY.out _ HB9.out
    have HCY9 := Lib.hid (fun W' (hb : Below W9.heap.size W9 W') => HCY.out W' (HB9.out.trans (hb.mono HB9.out.size)))
    by_cases hk0 : k = 0
    case pos =>
      subst hk0
      clear c0 c1 c2 cp0
      (try simp only [List.append])
      refine wp_region_held_drew (S := fun _ => True) (by kernel_rfl) trivial (fun hHeld => ?_)
      refine wpAnyH_take (i := 0) (oi := ⟨some 97, Op.move (Operand.tmp 9), 3, "outright.go:52", #[], none⟩) (v := ?_) rfl (by kernel_rfl) (by kernel_rfl) (by kernel_rfl) (fun _ _ _ h => h) (Or.inl ⟨by rfl, ?_⟩) (by assumption) ?_
      rotate_left 1
      · (intro w hSw; go_simp; try with_reducible rfl)
      try simp only [Act.put, List.setIfInBounds_toArray, List.set_cons_zero, List.set_cons_succ]
      refine wpAnyH_take (i := 1) (oi := ⟨some 98, Op.binOp BinOp.gtr 3 (Operand.tmp 97) (Operand.const (Value.int IntKind.i64 0)) 3, 4, "outright.go:52", #[⟨0, Ground.data⟩], none⟩) (v := ?_) rfl (by kernel_rfl) (by kernel_rfl) (by kernel_rfl) (fun _ _ _ h => h) (Or.inl ⟨by rfl, ?_⟩) (by assumption) ?_
      rotate_left 1
      · (intro w hSw; go_simp; try with_reducible rfl)
      try simp only [Act.put, List.setIfInBounds_toArray, List.set_cons_zero, List.set_cons_succ]
      refine wpAnyH_take (i := 2) (oi := ⟨some 99, Op.move (Operand.tmp 98), 4, "outright.go:52", #[⟨1, Ground.data⟩], none⟩) (v := ?_) rfl (by kernel_rfl) (by kernel_rfl) (by kernel_rfl) (fun _ _ _ h => h) (Or.inl ⟨by rfl, ?_⟩) (by assumption) ?_
      rotate_left 1
      · (intro w hSw; go_simp; try with_reducible rfl)
      try simp only [Act.put, List.setIfInBounds_toArray, List.set_cons_zero, List.set_cons_succ]
      refine wpAnyH_take (i := 3) (oi := ⟨some 100, Op.move (Operand.tmp 7), 37, "outright.go:52", #[⟨2, Ground.guard⟩], some (2, true)⟩) (v := undef) rfl (by kernel_rfl) (by kernel_rfl) (by kernel_rfl) (fun _ _ _ h => h) (Or.inr ⟨by rfl, rfl⟩) (by assumption) ?_
      try simp only [Act.put, List.setIfInBounds_toArray, List.set_cons_zero, List.set_cons_succ]
      refine wpAnyH_take (i := 4) (oi := ⟨some 101, Op.move (Operand.tmp 9), 3, "outright.go:52", #[⟨2, Ground.guard⟩], some (2, true)⟩) (v := undef) rfl (by kernel_rfl) (by kernel_rfl) (by kernel_rfl) (fun _ _ _ h => h) (Or.inr ⟨by rfl, rfl⟩) (by assumption) ?_
      try simp only [Act.put, List.setIfInBounds_toArray, List.set_cons_zero, List.set_cons_succ]
      refine wpAnyH_take (i := 5) (oi := ⟨some 102, Op.indexAddr 37 (Operand.tmp 100) (Operand.tmp 101), 0, "outright.go:52", #[⟨3, Ground.data⟩, ⟨4, Ground.data⟩, ⟨2, Ground.guard⟩], some (2, true)⟩) (v := undef) rfl (by kernel_rfl) (by kernel_rfl) (by kernel_rfl) (fun _ _ _ h => h) (Or.inr ⟨by rfl, rfl⟩) (by assumption) ?_
      try simp only [Act.put, List.setIfInBounds_toArray, List.set_cons_zero, List.set_cons_succ]
      refine wpAnyH_take (i := 6) (oi := ⟨some 103, Op.fieldAddr 98 (Operand.tmp 102) 0, 0, "outright.go:52", #[⟨5, Ground.data⟩, ⟨2, Ground.guard⟩], some (2, true)⟩) (v := undef) rfl (by kernel_rfl) (by kernel_rfl) (by kernel_rfl) (fun _ _ _ h => h) (Or.inr ⟨by rfl, rfl⟩) (by assumption) ?_
      try simp only [Act.put, List.setIfInBounds_toArray, List.set_cons_zero, List.set_cons_succ]
      refine wpAnyH_take (i := 7) (oi := ⟨some 104, Op.load 3 (Operand.tmp 103), 3, "outright.go:52", #[⟨6, Ground.data⟩, ⟨2, Ground.guard⟩], some (2, true)⟩) (v := undef) rfl (by kernel_rfl) (by kernel_rfl) (by kernel_rfl) (fun _ _ _ h => h) (Or.inr ⟨by rfl, rfl⟩) (by assumption) ?_
      try simp only [Act.put, List.setIfInBounds_toArray, List.set_cons_zero, List.set_cons_succ]
      refine wpAnyH_take (i := 8) (oi := ⟨some 105, Op.binOp BinOp.shl 3 (Operand.tmp 104) (Operand.const (Value.int IntKind.u64 20)) 103, 3, "outright.go:52", #[⟨7, Ground.data⟩, ⟨2, Ground.guard⟩], some (2, true)⟩) (v := undef) rfl (by kernel_rfl) (by kernel_rfl) (by kernel_rfl) (fun _ _ _ h => h) (Or.inr ⟨by rfl, rfl⟩) (by assumption) ?_
      try simp only [Act.put, List.setIfInBounds_toArray, List.set_cons_zero, List.set_cons_succ]
      refine wpAnyH_take (i := 9) (oi := ⟨some 106, Op.move (Operand.tmp 7), 37, "outright.go:52", #[⟨2, Ground.guard⟩], some (2, true)⟩) (v := undef) rfl (by kernel_rfl) (by kernel_rfl) (by kernel_rfl) (fun _ _ _ h => h) (Or.inr ⟨by rfl, rfl⟩) (by assumption) ?_
      try simp only [Act.put, List.setIfInBounds_toArray, List.set_cons_zero, List.set_cons_succ]
      refine wpAnyH_take (i := 10) (oi := ⟨some 107, Op.move (Operand.tmp 9), 3, "outright.go:52", #[⟨2, Ground.guard⟩], some (2, true)⟩) (v := undef) rfl (by kernel_rfl) (by kernel_rfl) (by kernel_rfl) (fun _ _ _ h => h) (Or.inr ⟨by rfl, rfl⟩) (by assumption) ?_
      try simp only [Act.put, List.setIfInBounds_toArray, List.set_cons_zero, List.set_cons_succ]
      refine wpAnyH_take (i := 11) (oi := ⟨some 108, Op.indexAddr 37 (Operand.tmp 106) (Operand.tmp 107), 0, "outright.go:52", #[⟨9, Ground.data⟩, ⟨10, Ground.data⟩, ⟨2, Ground.guard⟩], some (2, true)⟩) (v := undef) rfl (by kernel_rfl) (by kernel_rfl) (by kernel_rfl) (fun _ _ _ h => h) (Or.inr ⟨by rfl, rfl⟩) (by assumption) ?_
      try simp only [Act.put, List.setIfInBounds_toArray, List.set_cons_zero, List.set_cons_succ]
      refine wpAnyH_take (i := 12) (oi := ⟨some 109, Op.fieldAddr 98 (Operand.tmp 108) 2, 0, "outright.go:52", #[⟨11, Ground.data⟩, ⟨2, Ground.guard⟩], some (2, true)⟩) (v := undef) rfl (by kernel_rfl) (by kernel_rfl) (by kernel_rfl) (fun _ _ _ h => h) (Or.inr ⟨by rfl, rfl⟩) (by assumption) ?_
      try simp only [Act.put, List.setIfInBounds_toArray, List.set_cons_zero, List.set_cons_succ]
      refine wpAnyH_take (i := 13) (oi := ⟨some 110, Op.load 3 (Operand.tmp 109), 3, "outright.go:52", #[⟨12, Ground.data⟩, ⟨2, Ground.guard⟩], some (2, true)⟩) (v := undef) rfl (by kernel_rfl) (by kernel_rfl) (by kernel_rfl) (fun _ _ _ h => h) (Or.inr ⟨by rfl, rfl⟩) (by assumption) ?_
      try simp only [Act.put, List.setIfInBounds_toArray, List.set_cons_zero, List.set_cons_succ]
      refine wpAnyH_take (i := 14) (oi := ⟨some 111, Op.binOp BinOp.shl 3 (Operand.tmp 110) (Operand.const (Value.int IntKind.u64 10)) 103, 3, "outright.go:52", #[⟨13, Ground.data⟩, ⟨2, Ground.guard⟩], some (2, true)⟩) (v := undef) rfl (by kernel_rfl) (by kernel_rfl) (by kernel_rfl) (fun _ _ _ h => h) (Or.inr ⟨by rfl, rfl⟩) (by assumption) ?_
      try simp only [Act.put, List.setIfInBounds_toArray, List.set_cons_zero, List.set_cons_succ]
      refine wpAnyH_take (i := 15) (oi := ⟨some 112, Op.binOp BinOp.or 3 (Operand.tmp 105) (Operand.tmp 111) 3, 3, "outright.go:52", #[⟨8, Ground.data⟩, ⟨14, Ground.data⟩, ⟨2, Ground.guard⟩], some (2, true)⟩) (v := undef) rfl (by kernel_rfl) (by kernel_rfl) (by kernel_rfl) (fun _ _ _ h => h) (Or.inr ⟨by rfl, rfl⟩) (by assumption) ?_
      try simp only [Act.put, List.setIfInBounds_toArray, List.set_cons_zero, List.set_cons_succ]
      refine wpAnyH_take (i := 16) (oi := ⟨some 113, Op.move (Operand.tmp 7), 37, "outright.go:52", #[⟨2, Ground.guard⟩], some (2, true)⟩) (v := undef) rfl (by kernel_rfl) (by kernel_rfl) (by kernel_rfl) (fun _ _ _ h => h) (Or.inr ⟨by rfl, rfl⟩) (by assumption) ?_
      try simp only [Act.put, List.setIfInBounds_toArray, List.set_cons_zero, List.set_cons_succ]
      refine wpAnyH_take (i := 17) (oi := ⟨some 114, Op.move (Operand.tmp 9), 3, "outright.go:52", #[⟨2, Ground.guard⟩], some (2, true)⟩) (v := undef) rfl (by kernel_rfl) (by kernel_rfl) (by kernel_rfl) (fun _ _ _ h => h) (Or.inr ⟨by rfl, rfl⟩) (by assumption) ?_
      try simp only [Act.put, List.setIfInBounds_toArray, List.set_cons_zero, List.set_cons_succ]
      refine wpAnyH_take (i := 18) (oi := ⟨some 115, Op.indexAddr 37 (Operand.tmp 113) (Operand.tmp 114), 0, "outright.go:52", #[⟨16, Ground.data⟩, ⟨17, Ground.data⟩, ⟨2, Ground.guard⟩], some (2, true)⟩) (v := undef) rfl (by kernel_rfl) (by kernel_rfl) (by kernel_rfl) (fun _ _ _ h => h) (Or.inr ⟨by rfl, rfl⟩) (by assumption) ?_
      try simp only [Act.put, List.setIfInBounds_toArray, List.set_cons_zero, List.set_cons_succ]
      refine wpAnyH_take (i := 19) (oi := ⟨some 116, Op.fieldAddr 98 (Operand.tmp 115) 1, 0, "outright.go:52", #[⟨18, Ground.data⟩, ⟨2, Ground.guard⟩], some (2, true)⟩) (v := undef) rfl (by kernel_rfl) (by kernel_rfl) (by kernel_rfl) (fun _ _ _ h => h) (Or.inr ⟨by rfl, rfl⟩) (by assumption) ?_
      try simp only [Act.put, List.setIfInBounds_toArray, List.set_cons_zero, List.set_cons_succ]
      refine wpAnyH_take (i := 20) (oi := ⟨some 117, Op.load 3 (Operand.tmp 116), 3, "outright.go:52", #[⟨19, Ground.data⟩, ⟨2, Ground.guard⟩], some (2, true)⟩) (v := undef) rfl (by kernel_rfl) (by kernel_rfl) (by kernel_rfl) (fun _ _ _ h => h) (Or.inr ⟨by rfl, rfl⟩) (by assumption) ?_
      try simp only [Act.put, List.setIfInBounds_toArray, List.set_cons_zero, List.set_cons_succ]
      refine wpAnyH_take (i := 21) (oi := ⟨some 118, Op.binOp BinOp.or 3 (Operand.tmp 112) (Operand.tmp 117) 3, 3, "outright.go:52", #[⟨15, Ground.data⟩, ⟨20, Ground.data⟩, ⟨2, Ground.guard⟩], some (2, true)⟩) (v := undef) rfl (by kernel_rfl) (by kernel_rfl) (by kernel_rfl) (fun _ _ _ h => h) (Or.inr ⟨by rfl, rfl⟩) (by assumption) ?_
      try simp only [Act.put, List.setIfInBounds_toArray, List.set_cons_zero, List.set_cons_succ]
      refine wpAnyH_take (i := 22) (oi := ⟨some 119, Op.move (Operand.tmp 7), 37, "outright.go:52", #[⟨2, Ground.guard⟩], some (2, true)⟩) (v := undef) rfl (by kernel_rfl) (by kernel_rfl) (by kernel_rfl) (fun _ _ _ h => h) (Or.inr ⟨by rfl, rfl⟩) (by assumption) ?_
      try simp only [Act.put, List.setIfInBounds_toArray, List.set_cons_zero, List.set_cons_succ]
      refine wpAnyH_take (i := 23) (oi := ⟨some 120, Op.move (Operand.tmp 9), 3, "outright.go:52", #[⟨2, Ground.guard⟩], some (2, true)⟩) (v := undef) rfl (by kernel_rfl) (by kernel_rfl) (by kernel_rfl) (fun _ _ _ h => h) (Or.inr ⟨by rfl, rfl⟩) (by assumption) ?_
      try simp only [Act.put, List.setIfInBounds_toArray, List.set_cons_zero, List.set_cons_succ]
      refine wpAnyH_take (i := 24) (oi := ⟨some 121, Op.binOp BinOp.sub 3 (Operand.tmp 120) (Operand.const (Value.int IntKind.i64 1)) 3, 3, "outright.go:52", #[⟨23, Ground.data⟩, ⟨2, Ground.guard⟩], some (2, true)⟩) (v := undef) rfl (by kernel_rfl) (by kernel_rfl) (by kernel_rfl) (fun _ _ _ h => h) (Or.inr ⟨by rfl, rfl⟩) (by assumption) ?_
      try simp only [Act.put, List.setIfInBounds_toArray, List.set_cons_zero, List.set_cons_succ]
      refine wpAnyH_take (i := 25) (oi := ⟨some 122, Op.indexAddr 37 (Operand.tmp 119) (Operand.tmp 121), 0, "outright.go:52", #[⟨22, Ground.data⟩, ⟨24, Ground.data⟩, ⟨2, Ground.guard⟩], some (2, true)⟩) (v := undef) rfl (by kernel_rfl) (by kernel_rfl) (by kernel_rfl) (fun _ _ _ h => h) (Or.inr ⟨by rfl, rfl⟩) (by assumption) ?_
      try simp only [Act.put, List.setIfInBounds_toArray, List.set_cons_zero, List.set_cons_succ]
      refine wpAnyH_take (i := 26) (oi := ⟨some 123, Op.fieldAddr 98 (Operand.tmp 122) 0, 0, "outright.go:52", #[⟨25, Ground.data⟩, ⟨2, Ground.guard⟩], some (2, true)⟩) (v := undef) rfl (by kernel_rfl) (by kernel_rfl) (by kernel_rfl) (fun _ _ _ h => h) (Or.inr ⟨by rfl, rfl⟩) (by assumption) ?_
      try simp only [Act.put, List.setIfInBounds_toArray, List.set_cons_zero, List.set_cons_succ]
      refine wpAnyH_take (i := 27) (oi := ⟨some 124, Op.load 3 (Operand.tmp 123), 3, "outright.go:52", #[⟨26, Ground.data⟩, ⟨2, Ground.guard⟩], some (2, true)⟩) (v := undef) rfl (by kernel_rfl) (by kernel_rfl) (by kernel_rfl) (fun _ _ _ h => h) (Or.inr ⟨by rfl, rfl⟩) (by assumption) ?_
      try simp only [Act.put, List.setIfInBounds_toArray, List.set_cons_zero, List.set_cons_succ]
      refine wpAnyH_take (i := 28) (oi := ⟨some 125, Op.binOp BinOp.shl 3 (Operand.tmp 124) (Operand.const (Value.int IntKind.u64 20)) 103, 3, "outright.go:52", #[⟨27, Ground.data⟩, ⟨2, Ground.guard⟩], some (2, true)⟩) (v := undef) rfl (by kernel_rfl) (by kernel_rfl) (by kernel_rfl) (fun _ _ _ h => h) (Or.inr ⟨by rfl, rfl⟩) (by assumption) ?_
      try simp only [Act.put, List.setIfInBounds_toArray, List.set_cons_zero, List.set_cons_succ]
      refine wpAnyH_take (i := 29) (oi := ⟨some 126, Op.move (Operand.tmp 7), 37, "outright.go:52", #[⟨2, Ground.guard⟩], some (2, true)⟩) (v := undef) rfl (by kernel_rfl) (by kernel_rfl) (by kernel_rfl) (fun _ _ _ h => h) (Or.inr ⟨by rfl, rfl⟩) (by assumption) ?_
      try simp only [Act.put, List.setIfInBounds_toArray, List.set_cons_zero, List.set_cons_succ]
      refine wpAnyH_take (i := 30) (oi := ⟨some 127, Op.move (Operand.tmp 9), 3, "outright.go:52", #[⟨2, Ground.guard⟩], some (2, true)⟩) (v := undef) rfl (by kernel_rfl) (by kernel_rfl) (by kernel_rfl) (fun _ _ _ h => h) (Or.inr ⟨by rfl, rfl⟩) (by assumption) ?_
      try simp only [Act.put, List.setIfInBounds_toArray, List.set_cons_zero, List.set_cons_succ]
      refine wpAnyH_take (i := 31) (oi := ⟨some 128, Op.binOp BinOp.sub 3 (Operand.tmp 127) (Operand.const (Value.int IntKind.i64 1)) 3, 3, "outright.go:52", #[⟨30, Ground.data⟩, ⟨2, Ground.guard⟩], some (2, true)⟩) (v := undef) rfl (by kernel_rfl) (by kernel_rfl) (by kernel_rfl) (fun _ _ _ h => h) (Or.inr ⟨by rfl, rfl⟩) (by assumption) ?_
      try simp only [Act.put, List.setIfInBounds_toArray, List.set_cons_zero, List.set_cons_succ]
      refine wpAnyH_take (i := 32) (oi := ⟨some 129, Op.indexAddr 37 (Operand.tmp 126) (Operand.tmp 128), 0, "outright.go:52", #[⟨29, Ground.data⟩, ⟨31, Ground.data⟩, ⟨2, Ground.guard⟩], some (2, true)⟩) (v := undef) rfl (by kernel_rfl) (by kernel_rfl) (by kernel_rfl) (fun _ _ _ h => h) (Or.inr ⟨by rfl, rfl⟩) (by assumption) ?_
      try simp only [Act.put, List.setIfInBounds_toArray, List.set_cons_zero, List.set_cons_succ]
      refine wpAnyH_take (i := 33) (oi := ⟨some 130, Op.fieldAddr 98 (Operand.tmp 129) 2, 0, "outright.go:52", #[⟨32, Ground.data⟩, ⟨2, Ground.guard⟩], some (2, true)⟩) (v := undef) rfl (by kernel_rfl) (by kernel_rfl) (by kernel_rfl) (fun _ _ _ h => h) (Or.inr ⟨by rfl, rfl⟩) (by assumption) ?_
      try simp only [Act.put, List.setIfInBounds_toArray, List.set_cons_zero, List.set_cons_succ]
      refine wpAnyH_take (i := 34) (oi := ⟨some 131, Op.load 3 (Operand.tmp 130), 3, "outright.go:52", #[⟨33, Ground.data⟩, ⟨2, Ground.guard⟩], some (2, true)⟩) (v := undef) rfl (by kernel_rfl) (by kernel_rfl) (by kernel_rfl) (fun _ _ _ h => h) (Or.inr ⟨by rfl, rfl⟩) (by assumption) ?_
      try simp only [Act.put, List.setIfInBounds_toArray, List.set_cons_zero, List.set_cons_succ]
      refine wpAnyH_take (i := 35) (oi := ⟨some 132, Op.binOp BinOp.shl 3 (Operand.tmp 131) (Operand.const (Value.int IntKind.u64 10)) 103, 3, "outright.go:52", #[⟨34, Ground.data⟩, ⟨2, Ground.guard⟩], some (2, true)⟩) (v := undef) rfl (by kernel_rfl) (by kernel_rfl) (by kernel_rfl) (fun _ _ _ h => h) (Or.inr ⟨by rfl, rfl⟩) (by assumption) ?_
      try simp only [Act.put, List.setIfInBounds_toArray, List.set_cons_zero, List.set_cons_succ]
      refine wpAnyH_take (i := 36) (oi := ⟨some 133, Op.binOp BinOp.or 3 (Operand.tmp 125) (Operand.tmp 132) 3, 3, "outright.go:52", #[⟨28, Ground.data⟩, ⟨35, Ground.data⟩, ⟨2, Ground.guard⟩], some (2, true)⟩) (v := undef) rfl (by kernel_rfl) (by kernel_rfl) (by kernel_rfl) (fun _ _ _ h => h) (Or.inr ⟨by rfl, rfl⟩) (by assumption) ?_
      try simp only [Act.put, List.setIfInBounds_toArray, List.set_cons_zero, List.set_cons_succ]
      refine wpAnyH_take (i := 37) (oi := ⟨some 134, Op.move (Operand.tmp 7), 37, "outright.go:52", #[⟨2, Ground.guard⟩], some (2, true)⟩) (v := undef) rfl (by kernel_rfl) (by kernel_rfl) (by kernel_rfl) (fun _ _ _ h => h) (Or.inr ⟨by rfl, rfl⟩) (by assumption) ?_
      try simp only [Act.put, List.setIfInBounds_toArray, List.set_cons_zero, List.set_cons_succ]
      refine wpAnyH_take (i := 38) (oi := ⟨some 135, Op.move (Operand.tmp 9), 3, "outright.go:52", #[⟨2, Ground.guard⟩], some (2, true)⟩) (v := undef) rfl (by kernel_rfl) (by kernel_rfl) (by kernel_rfl) (fun _ _ _ h => h) (Or.inr ⟨by rfl, rfl⟩) (by assumption) ?_
      try simp only [Act.put, List.setIfInBounds_toArray, List.set_cons_zero, List.set_cons_succ]
      refine wpAnyH_take (i := 39) (oi := ⟨some 136, Op.binOp BinOp.sub 3 (Operand.tmp 135) (Operand.const (Value.int IntKind.i64 1)) 3, 3, "outright.go:52", #[⟨38, Ground.data⟩, ⟨2, Ground.guard⟩], some (2, true)⟩) (v := undef) rfl (by kernel_rfl) (by kernel_rfl) (by kernel_rfl) (fun _ _ _ h => h) (Or.inr ⟨by rfl, rfl⟩) (by assumption) ?_
      try simp only [Act.put, List.setIfInBounds_toArray, List.set_cons_zero, List.set_cons_succ]
      refine wpAnyH_take (i := 40) (oi := ⟨some 137, Op.indexAddr 37 (Operand.tmp 134) (Operand.tmp 136), 0, "outright.go:52", #[⟨37, Ground.data⟩, ⟨39, Ground.data⟩, ⟨2, Ground.guard⟩], some (2, true)⟩) (v := undef) rfl (by kernel_rfl) (by kernel_rfl) (by kernel_rfl) (fun _ _ _ h => h) (Or.inr ⟨by rfl, rfl⟩) (by assumption) ?_
      try simp only [Act.put, List.setIfInBounds_toArray, List.set_cons_zero, List.set_cons_succ]
      refine wpAnyH_take (i := 41) (oi := ⟨some 138, Op.fieldAddr 98 (Operand.tmp 137) 1, 0, "outright.go:52", #[⟨40, Ground.data⟩, ⟨2, Ground.guard⟩], some (2, true)⟩) (v := undef) rfl (by kernel_rfl) (by kernel_rfl) (by kernel_rfl) (fun _ _ _ h => h) (Or.inr ⟨by rfl, rfl⟩) (by assumption) ?_
      try simp only [Act.put, List.setIfInBounds_toArray, List.set_cons_zero, List.set_cons_succ]
      refine wpAnyH_take (i := 42) (oi := ⟨some 139, Op.load 3 (Operand.tmp 138), 3, "outright.go:52", #[⟨41, Ground.data⟩, ⟨2, Ground.guard⟩], some (2, true)⟩) (v := undef) rfl (by kernel_rfl) (by kernel_rfl) (by kernel_rfl) (fun _ _ _ h => h) (Or.inr ⟨by rfl, rfl⟩) (by assumption) ?_
      try simp only [Act.put, List.setIfInBounds_toArray, List.set_cons_zero, List.set_cons_succ]
      refine wpAnyH_take (i := 43) (oi := ⟨some 140, Op.binOp BinOp.or 3 (Operand.tmp 133) (Operand.tmp 139) 3, 3, "outright.go:52", #[⟨36, Ground.data⟩, ⟨42, Ground.data⟩, ⟨2, Ground.guard⟩], some (2, true)⟩) (v := undef) rfl (by kernel_rfl) (by kernel_rfl) (by kernel_rfl) (fun _ _ _ h => h) (Or.inr ⟨by rfl, rfl⟩) (by assumption) ?_
      try simp only [Act.put, List.setIfInBounds_toArray, List.set_cons_zero, List.set_cons_succ]
      refine wpAnyH_take (i := 44) (oi := ⟨some 141, Op.binOp BinOp.leq 3 (Operand.tmp 118) (Operand.tmp 140) 3, 4, "outright.go:52", #[⟨21, Ground.data⟩, ⟨43, Ground.data⟩, ⟨2, Ground.guard⟩], some (2, true)⟩) (v := undef) rfl (by kernel_rfl) (by kernel_rfl) (by kernel_rfl) (fun _ _ _ h => h) (Or.inr ⟨by rfl, rfl⟩) (by assumption) ?_
      try simp only [Act.put, List.setIfInBounds_toArray, List.set_cons_zero, List.set_cons_succ]
      refine wpAnyH_take (i := 45) (oi := ⟨some 142, Op.pick (Operand.tmp 99) (Operand.tmp 141) (Operand.const (Value.bool false)), 4, "outright.go:52", #[⟨2, Ground.data⟩, ⟨44, Ground.data⟩], none⟩) (v := ?_) rfl (by kernel_rfl) (by kernel_rfl) (by kernel_rfl) (fun _ _ _ h => h) (Or.inl ⟨by rfl, ?_⟩) (by assumption) ?_
      rotate_left 1
      · (intro w hSw; go_simp; try with_reducible rfl)
      try simp only [Act.put, List.setIfInBounds_toArray, List.set_cons_zero, List.set_cons_succ]
      refine wpAnyH_done (by kernel_rfl) ?_ _
      (try go_wp2_with fail)
      go_roundw
      case rel => exact ⟨0 + 1, by omega, by go_num, HBO9.out.below (Below.refl _ W9).drew, HB9.out.drew⟩
      case measure => simp [intOf] <;> omega
    · obtain ⟨m, hm⟩ : ∃ m, k = m + 1 := ⟨k - 1, by omega⟩
      obtain ⟨y', hy'⟩ : ∃ y', L[m]? = some y' := ⟨L[m], List.getElem?_eq_getElem (by omega)⟩
      obtain ⟨kk', n', hk1', _, hn8', e1', e2', r1', r7', _⟩ := HIS.out y' (List.mem_of_getElem? hy')
      obtain ⟨gL', oL', hA, _, d0, d1, d2⟩ := atW3 (La.SlAt.below TL.out HB9.out) hy'
      cases hA
      have hlty : ltW y' y := by
        obtain ⟨h1, h2⟩ := List.getElem?_eq_some_iff.1 (hm ▸ hy)
        obtain ⟨h3, h4⟩ := List.getElem?_eq_some_iff.1 hy'
        have := List.pairwise_iff_getElem.1 HRI.out m (m + 1) h3 h1 (by omega)
        rwa [h2, h4] at this
      have hkd := ltW_key hlty ⟨by omega, by omega, by omega, by omega, by omega, by omega⟩ ⟨by omega, by omega, by omega, by omega, by omega, by omega⟩
      rw [e1, e2, e1', e2'] at hkd
      rw [e1'] at d1
      rw [e2'] at d2
      have CL : (W9.drew.cell? ⟨gL, oL + m * 3, none⟩ = some (.int .i64 y'.1) ∧ W9.drew.cell? ⟨gL, oL + m * 3 + 1, none⟩ = some (.int .i64 (kk' : Int)) ∧ W9.drew.cell? ⟨gL, oL + m * 3 + 2, none⟩ = some (.int .i64 (n' : Int))) ∧ W9.drew.cell? ⟨gL, oL + k * 3, none⟩ = some (.int .i64 y.1) ∧ W9.drew.cell? ⟨gL, oL + k * 3 + 1, none⟩ = some (.int .i64 (kk : Int)) ∧ W9.drew.cell? ⟨gL, oL + k * 3 + 2, none⟩ = some (.int .i64 (n : Int)) := ⟨⟨d0, d1, d2⟩, c0, c1, c2⟩
      have hw1 : IntKind.i64.wrap ((k : Int) - 1) = (m : Int) := by rw [IntWalk.i64_in _ (by omega)]; omega
      have s1 : IntKind.i64.wrap (y.1 * 1048576) = y.1 * 1048576 := IntWalk.i64_in _ (by omega)
      have s2 : IntKind.i64.wrap ((n : Int) * 1024) = (n : Int) * 1024 := IntWalk.i64_in _ (by omega)
      have s3 : IntKind.i64.wrap (y'.1 * 1048576) = y'.1 * 1048576 := IntWalk.i64_in _ (by omega)
      have s4 : IntKind.i64.wrap ((n' : Int) * 1024) = (n' : Int) * 1024 := IntWalk.i64_in _ (by omega)
      have m0 : (0 : Int) ≤ (m : Int) := by omega
      have m1 : (m : Int) < (L.length : Int) := by omega
      have m3 : decide ((0 : Int) < (k : Int)) = true := decide_eq_true (by omega)
      have m4 : decide (0 < k) = true := decide_eq_true (by omega)
      clear hlty e1' e2' hy' d0 d1 d2 c0 c1 c2 cp0 hk1 hk1' HIS HCY HCB HON HRI KY hm
      (try simp only [List.append])
      go_region_held3 (fun w' => (w'.cell? ⟨gL, oL + m * 3, none⟩ = some (.int .i64 y'.1) ∧ w'.cell? ⟨gL, oL + m * 3 + 1, none⟩ = some (.int .i64 (kk' : Int)) ∧ w'.cell? ⟨gL, oL + m * 3 + 2, none⟩ = some (.int .i64 (n' : Int))) ∧ w'.cell? ⟨gL, oL + k * 3, none⟩ = some (.int .i64 y.1) ∧ w'.cell? ⟨gL, oL + k * 3 + 1, none⟩ = some (.int .i64 (kk : Int)) ∧ w'.cell? ⟨gL, oL + k * 3 + 2, none⟩ = some (.int .i64 (n : Int)))
        (with_reducible exact CL)
        (fail)
      all_goals
        (try go_wp2_with fail)
        go_roundw
        case rel => exact ⟨k + 1, by omega, by go_num, HBO9.out.below (Below.refl _ W9).drew, HB9.out.drew⟩
        case measure => simp [intOf] <;> omega
end Go.Proofs.YticgcimcebdjlaaGreat

namespace Go.Proofs.YticgcimcebdjlaaGreat
open Go.RowKit Go.Maps

theorem NamesAt.takeD {w : World} {A : Option Addr} {c : Nat} {l : List (List UInt8)} (h : NamesAt w A c l) (m : Nat) : NamesAt w A c (l.take m) :=
  ⟨(fun j y hj => by
    have e : strC (l.take m) = (strC l).take m := by simp [strC]
    rw [e, List.getElem?_take] at hj
    split at hj
    · exact h.cells j y hj
    · cases hj), Nat.le_trans (by rw [List.length_take]; omega) h.le, h.most, fun x hx => h.big x (List.mem_of_mem_take hx)⟩
/-- A policy with more on. -/
def moreG (g : Pol) (m : Int) : Pol := { g with on := bits BinOp.or IntKind.i64 g.on m }
theorem or_more (a m : Int) (h0 : 0 ≤ a) (h1 : a ≤ 31) (h2 : 0 ≤ m) (h3 : m < 32) : (0 ≤ bits BinOp.or IntKind.i64 a m ∧ bits BinOp.or IntKind.i64 a m ≤ 31) ∧ ∀ c : Fin 17, onB a (c.val : Int) = true → onB (bits BinOp.or IntKind.i64 a m) (c.val : Int) = true := by
  have h : ∀ (a m : Fin 32), (0 ≤ bits BinOp.or IntKind.i64 (a.val : Int) (m.val : Int) ∧ bits BinOp.or IntKind.i64 (a.val : Int) (m.val : Int) ≤ 31) ∧ ∀ c : Fin 17, onB (a.val : Int) (c.val : Int) = true → onB (bits BinOp.or IntKind.i64 (a.val : Int) (m.val : Int)) (c.val : Int) = true := by decide +kernel
  have := h ⟨a.toNat, by omega⟩ ⟨m.toNat, by omega⟩
  rwa [show ((a.toNat : Nat) : Int) = a by omega, show ((m.toNat : Nat) : Int) = m by omega] at this
theorem on_range {g : Pol} (h : checkG g = 0) : 0 ≤ g.on ∧ g.on ≤ 31 := by
  unfold checkG at h
  split at h
  · rename_i hp
    unfold polB upB at hp
    simp only [Bool.and_eq_true, decide_eq_true_eq] at hp
    omega
  · cases h
theorem more_may {g : Pol} (h : checkG g = 0) {m : Int} (h2 : 0 ≤ m) (h3 : m < 32) : checkG (moreG g m) = 0 := by
  obtain ⟨a0, a1⟩ := on_range h
  obtain ⟨⟨b0, b1⟩, _⟩ := or_more g.on m a0 a1 h2 h3
  unfold checkG at h ⊢
  split at h
  · rename_i hp
    rw [if_pos]
    unfold polB upB at hp ⊢
    unfold moreG
    simp only [Bool.and_eq_true, decide_eq_true_eq] at hp ⊢
    exact ⟨⟨⟨⟨hp.1.1.1.1, b0, b1⟩, hp.1.1.2⟩, hp.1.2⟩, hp.2⟩
  · cases h
theorem firstD_mem : ∀ l : List (Int × Bool), 0 < firstD l → ∃ x ∈ l, firstD l = x.1
  | [], h => by simp [firstD] at h
  | (y, b) :: t, h => by
    rw [firstD] at h ⊢
    split
    · exact ⟨(y, b), List.mem_cons_self, rfl⟩
    · rename_i hb
      rw [if_neg hb] at h
      obtain ⟨x, hx, e⟩ := firstD_mem t h
      exact ⟨x, List.mem_cons_of_mem _ hx, e⟩
theorem firstD_more : ∀ l : List (Int × Bool × Bool), l.Pairwise (fun x y => x.1 ≤ y.1) → (∀ x ∈ l, 1 ≤ x.1 ∧ (x.2.1 = true → x.2.2 = true)) → 0 < firstD (l.map fun x => (x.1, x.2.1)) → 0 < firstD (l.map fun x => (x.1, x.2.2)) ∧ firstD (l.map fun x => (x.1, x.2.2)) ≤ firstD (l.map fun x => (x.1, x.2.1))
  | [], _, _, h => by simp [firstD] at h
  | (y, b, c) :: t, hp, ha, h => by
    obtain ⟨hp1, hp2⟩ := List.pairwise_cons.1 hp
    have h1 := ha (y, b, c) List.mem_cons_self
    have ih := firstD_more t hp2 (fun x hx => ha x (List.mem_cons_of_mem _ hx))
    simp only [List.map_cons, firstD] at h ⊢
    cases c with
    | true =>
      rw [if_pos rfl]
      refine ⟨by dsimp only at h1; omega, ?_⟩
      cases b with
      | true =>
        rw [if_pos rfl]
        exact Int.le_refl _
      | false =>
        rw [if_neg Bool.false_ne_true] at h ⊢
        obtain ⟨x, hx, e⟩ := firstD_mem _ h
        obtain ⟨z, hz, rfl⟩ := List.mem_map.1 hx
        rw [e]
        exact hp1 z hz
    | false =>
      cases b with
      | true => exact absurd (h1.2 rfl) Bool.false_ne_true
      | false =>
        rw [if_neg Bool.false_ne_true] at h ⊢
        rw [if_neg Bool.false_ne_true]
        exact ih h
theorem why_more {ns : List NodeD} {ps : List PodD} {os : List OwnD} {p : List Int} {g : Pol} {cr : Nat → Bool} {m : Int} (hG : checkG g = 0) (h2 : 0 ≤ m) (h3 : m < 32) (pod : Int) : 0 < whyF ns ps os p g cr pod → 0 < whyF ns ps os p (moreG g m) cr pod ∧ whyF ns ps os p (moreG g m) cr pod ≤ whyF ns ps os p g cr pod := by
  have hM := more_may hG h2 h3
  have eH : highF ns ps os p (moreG g m) = highF ns ps os p g := by
    unfold highF
    rw [if_pos hM, if_pos hG]
    rfl
  have eL : lowF ns ps os p (moreG g m) = lowF ns ps os p g := by
    unfold lowF
    rw [if_pos hM, if_pos hG]
    rfl
  obtain ⟨a0, a1⟩ := on_range hG
  obtain ⟨_, hon⟩ := or_more g.on m a0 a1 h2 h3
  unfold whyF
  by_cases hE : placeE ns ps os p = 0
  · have c1 : checkG g = 0 ∧ placeE ns ps os p = 0 := ⟨hG, hE⟩
    have c2 : checkG (moreG g m) = 0 ∧ placeE ns ps os p = 0 := ⟨hM, hE⟩
    rw [if_pos c1, if_pos c2]
    by_cases hp : 0 ≤ pod
    · rw [if_pos hp, if_pos hp]
      cases hn : p[pod.toNat]? with
      | some n =>
        dsimp only
        unfold whyK whyD
        by_cases hw : n = -1
        · rw [if_pos hw, if_pos hw]
          intro h
          exact absurd h (by omega)
        · rw [if_neg hw, if_neg hw]
          intro h
          have o0 : onB g.on 0 = true → onB (bits BinOp.or IntKind.i64 g.on m) 0 = true := hon (0 : Fin 17)
          have o1 : onB g.on 1 = true → onB (bits BinOp.or IntKind.i64 g.on m) 1 = true := hon (1 : Fin 17)
          have o2 : onB g.on 2 = true → onB (bits BinOp.or IntKind.i64 g.on m) 2 = true := hon (2 : Fin 17)
          have o4 : onB g.on 4 = true → onB (bits BinOp.or IntKind.i64 g.on m) 4 = true := hon (4 : Fin 17)
          have o8 : onB g.on 8 = true → onB (bits BinOp.or IntKind.i64 g.on m) 8 = true := hon (8 : Fin 17)
          have o16 : onB g.on 16 = true → onB (bits BinOp.or IntKind.i64 g.on m) 16 = true := hon (16 : Fin 17)
          have eg : ∀ (q : Pol) (hs ws : List Int), highF ns ps os p q = hs → lowF ns ps os p q = ws → reasL (pureV ns ps os p q) pod.toNat n (cr pod.toNat) = [(1, onB q.on 0 && decide (nameD ns n ∈ q.drain)), (2, onB q.on 0 && ((all8 ns ps os p).filter brokC).any (podCD (pod.toNat : Int) [2])), (2, onB q.on 4 && ((all8 ns ps os p).filter brokC).any (podCD (pod.toNat : Int) [3])), (3, onB q.on 2 && ((all8 ns ps os p).filter brokC).any (podCD (pod.toNat : Int) [4, 5])), (4, onB q.on 1 && ((all8 ns ps os p).filter brokC).any (podCD (pod.toNat : Int) [6])), (5, onB q.on 8 && cr pod.toNat), (6, onB q.on 0 && hs.contains n), (7, onB q.on 16 && ws.contains n)] := by
            intro q hs ws e1 e2
            rw [← e1, ← e2]
            rfl
          have e1 := eg g _ _ rfl rfl
          have e2 := eg (moreG g m) _ _ eH eL
          rw [e1] at h ⊢
          rw [e2]
          clear e1 e2 eg
          have hd : (moreG g m).drain = g.drain := rfl
          have ho : (moreG g m).on = bits BinOp.or IntKind.i64 g.on m := rfl
          rw [hd, ho]
          generalize bits BinOp.or IntKind.i64 g.on m = x at o0 o1 o2 o4 o8 o16
          generalize decide (nameD ns n ∈ g.drain) = b0 at h ⊢
          generalize ((all8 ns ps os p).filter brokC).any (podCD (pod.toNat : Int) [2]) = b1 at h ⊢
          generalize ((all8 ns ps os p).filter brokC).any (podCD (pod.toNat : Int) [3]) = b2 at h ⊢
          generalize ((all8 ns ps os p).filter brokC).any (podCD (pod.toNat : Int) [4, 5]) = b3 at h ⊢
          generalize ((all8 ns ps os p).filter brokC).any (podCD (pod.toNat : Int) [6]) = b4 at h ⊢
          generalize cr pod.toNat = b5 at h ⊢
          generalize (highF ns ps os p g).contains n = b6 at h ⊢
          generalize (lowF ns ps os p g).contains n = b7 at h ⊢
          have and_more : ∀ (u v b : Bool), (u = true → v = true) → ((u && b) = true → (v && b) = true) := by decide
          exact firstD_more [(1, onB g.on 0 && b0, onB x 0 && b0), (2, onB g.on 0 && b1, onB x 0 && b1), (2, onB g.on 4 && b2, onB x 4 && b2), (3, onB g.on 2 && b3, onB x 2 && b3), (4, onB g.on 1 && b4, onB x 1 && b4), (5, onB g.on 8 && b5, onB x 8 && b5), (6, onB g.on 0 && b6, onB x 0 && b6), (7, onB g.on 16 && b7, onB x 16 && b7)] (by simp) (fun y hy => by
            simp only [List.mem_cons, List.not_mem_nil, or_false] at hy
            rcases hy with rfl | rfl | rfl | rfl | rfl | rfl | rfl | rfl
            · exact ⟨by dsimp only; omega, and_more _ _ _ o0⟩
            · exact ⟨by dsimp only; omega, and_more _ _ _ o0⟩
            · exact ⟨by dsimp only; omega, and_more _ _ _ o4⟩
            · exact ⟨by dsimp only; omega, and_more _ _ _ o2⟩
            · exact ⟨by dsimp only; omega, and_more _ _ _ o1⟩
            · exact ⟨by dsimp only; omega, and_more _ _ _ o8⟩
            · exact ⟨by dsimp only; omega, and_more _ _ _ o0⟩
            · exact ⟨by dsimp only; omega, and_more _ _ _ o16⟩) h
      | none =>
        dsimp only
        intro h
        exact absurd h (by omega)
    · rw [if_neg hp]
      intro h
      exact absurd h (by omega)
  · rw [if_neg (fun h => hE h.2)]
    intro h
    exact absurd h (by omega)
end Go.Proofs.YticgcimcebdjlaaGreat
