/- With nothing on, and no drain, just the pods of high nodes are to go, and those that may not be where they are: the law's walk. Condition: the arguments lie in memory. A cluster as an argument, opened: how many bytes its pods take; four numbers in a row. No conditions but the form's own. An argument of two numbers, opened. No conditions. -/
import Derived.Test.YticgcimcebdjlaaGreatA13
import Derived.Handy
import Derived.SizedLaws

namespace Go.Proofs.YticgcimcebdjlaaGreat
open Go.RowKit Go.Maps

set_option maxRecDepth 100000 in
set_option maxHeartbeats 16000000 in
theorem detectHeat_law (A B C : Option Addr) (ca cb cc : Nat) (ns : List NodeD) (ps : List PodD) (os : List OwnD) (a0 a1 : Int) (w : World) (h : SnapIn w A B C ca cb cc ns ps os) (hm : ps.length * 8 ≤ 140737488355328) :
    Calls Tryz.prog 5 #[snapV A B C ca cb cc ns ps os, .agg #[.int .i64 a0, .int .i64 a1]] w fun e w' => e = .returned (.bool true) ∧ Below w.heap.size w w' := by
  have B0 : Hid (Below w.heap.size w ((w.alloc (.cells (snapC A B C ca cb cc ns ps os) 26)).alloc (.cells #[.int .i64 a0, .int .i64 a1] 27))) := Lib.hid (Qu.below2 w _ _)
  have S0 : Hid (Blk ((w.alloc (.cells (snapC A B C ca cb cc ns ps os) 26)).alloc (.cells #[.int .i64 a0, .int .i64 a1] 27)) w.heap.size (snapC A B C ca cb cc ns ps os) 26) := Lib.hid (Blk.alloc (Blk.new w _ _) _)
  have A0 : Hid (Blk ((w.alloc (.cells (snapC A B C ca cb cc ns ps os) 26)).alloc (.cells #[.int .i64 a0, .int .i64 a1] 27)) (w.heap.size + 1) #[.int .i64 a0, .int .i64 a1] 27) := Lib.hid (blk2 w _ _ _)
  have H := Lib.hid h
  have KW := Lib.hid works13_any
  have KP := Lib.hid (fun W' (hb : Below w.heap.size w W') => placement_in A B C ca cb cc ns ps os W' (h.low hb) hm)
  clear h hm
  go_enter Tryz.func5, Tryz.ntmps5
  go_upto_region 1 with fail
  try change Code.wp _ _ _ _ ((w.alloc (.cells (snapC A B C ca cb cc ns ps os) 26)).alloc (.cells #[.int .i64 a0, .int .i64 a1] 27))
  generalize ((w.alloc (.cells (snapC A B C ca cb cc ns ps os) 26)).alloc (.cells #[.int .i64 a0, .int .i64 a1] 27)) = W0 at B0 S0 A0 ⊢
  obtain ⟨Hb, hHb⟩ : ∃ b, w.heap.size + 1 = b := ⟨_, rfl⟩
  rw [hHb] at A0 ⊢
  clear hHb
  have HT0 := Lib.hid (fun W' (hb : Below W0.heap.size W0 W') => B0.out.trans (hb.mono B0.out.size))
  have HC0 : Hid (∀ W', Below W0.heap.size W0 W' → W'.cell? ⟨w.heap.size, 0, none⟩ = some (.slice A ns.length ca) ∧ W'.cell? ⟨w.heap.size, 1, none⟩ = some (.slice B ps.length cb) ∧ W'.cell? ⟨w.heap.size, 2, none⟩ = some (.slice C os.length cc)) := Lib.hid (fun W' hb => by
    have h1 := S0.out.below hb S0.out.lt
    exact ⟨Blk.cell h1 0, Blk.cell h1 1, Blk.cell h1 2⟩)
  have HA0 : Hid (∀ W', Below W0.heap.size W0 W' → W'.cell? ⟨Hb, 0, none⟩ = some (.int .i64 a0) ∧ W'.cell? ⟨Hb, 1, none⟩ = some (.int .i64 a1)) := Lib.hid (fun W' hb => by
    have h1 := A0.out.below hb A0.out.lt
    exact ⟨Blk.cell h1 0, Blk.cell h1 1⟩)
  have KP1 := Lib.hid (KP.out _ B0.out)
  clear S0 A0 B0 KP
  obtain ⟨z0, z1, z2⟩ := HC0.out _ (Below.refl _ _)
  go_wp2_with fail
  refine (KP1.out).mono ?_
  rintro e W1 ⟨X, cx, rfl, ho, hb⟩
  have HB1 := Lib.hid hb
  have IX := Lib.hid (IntsAt.own ho)
  clear ho hb KP1 z0 z1 z2
  obtain ⟨p, hp⟩ : ∃ p, placesP ns ps = p := ⟨_, rfl⟩
  rw [hp] at IX ⊢
  clear hp
  have KE := Lib.hid (pcheck_in A B C X ca cb cc cx ns ps os p W1 (H.out.low (HT0.out _ HB1.out)) IX.out)
  obtain ⟨E, hE⟩ : ∃ E, placeE ns ps os p = E := ⟨_, rfl⟩
  rw [hE] at KE
  have HE := Lib.hid hE
  clear hE
  obtain ⟨z0, z1, z2⟩ := HC0.out _ HB1.out
  go_wp2_with fail
  refine (KE.out).mono ?_
  rintro e W2 ⟨rfl, hb⟩
  have HB2 := Lib.hid (HB1.out.trans (hb.mono HB1.out.size))
  have IX2 := Lib.hid (IX.out.below hb)
  clear hb KE z0 z1 z2 IX HB1
  by_cases h0 : E = 0
  case neg =>
    have hne : (E != 0) = true := by simpa using h0
    have hnd : decide (E = 0) = false := decide_eq_false h0
    clear h0
    go_wp2_with fail
    refine (KW.out _).mono ?_
    rintro e W3 ⟨rfl, hb⟩
    have D := Lib.hid (HT0.out _ (HB2.out.trans (hb.mono HB2.out.size)))
    clear hb
    go_wp2
    go_ret
    exact ⟨rfl, D.out⟩
  subst h0
  have hfw := placeE_few HE.out
  have hpl : p.length ≤ 24 := by rw [placeE_len HE.out]; exact hfw.2.1
  have HSA : Hid (∀ W', Below W2.heap.size W2 W' → SnapAt W' A B C ca cb cc ns ps os) := Lib.hid (fun W' hb => (H.out.low (HT0.out _ (HB2.out.trans (hb.mono HB2.out.size)))).at hfw)
  have em0 := Int.emod_nonneg a0 (show (1001 : Int) ≠ 0 by omega)
  have em1 := Int.emod_lt_of_pos a0 (show (0 : Int) < 1001 by omega)
  have em2 := Int.emod_nonneg a1 (show (1001 : Int) ≠ 0 by omega)
  have em3 := Int.emod_lt_of_pos a1 (show (0 : Int) < 1001 by omega)
  have BR := Lib.hid (fun a W => Qu.bring_any a 1001 W (by omega) (by omega))
  obtain ⟨x0, hx0⟩ : ∃ x, a0 % 1001 = x := ⟨_, rfl⟩
  obtain ⟨x1, hx1⟩ : ∃ x, a1 % 1001 = x := ⟨_, rfl⟩
  have BR0 := Lib.hid (BR.out a0)
  have BR1 := Lib.hid (BR.out a1)
  rw [hx0] at BR0 em0 em1
  rw [hx1] at BR1 em2 em3
  have HGM := Lib.hid (heatG_may (x0 := x0) (x1 := x1) em0 (by omega) em2 (by omega))
  clear hx0 hx1 em0 em1 em2 em3 BR hfw
  go_upto_region 4 with fail
  have D0 : Hid (Below W2.heap.size W2 W2) := Lib.hid (Below.refl _ _)
  have Q1 : Hid (Blk (W2.alloc (.cells #[.int .i64 0, .int .i64 0, .int .i64 x0, .int .i64 x1, .int .i64 0, .slice none 0 0, .int .i64 0, .int .i64 0, .bool false] 30)) W2.heap.size #[.int .i64 0, .int .i64 0, .int .i64 x0, .int .i64 x1, .int .i64 0, .slice none 0 0, .int .i64 0, .int .i64 0, .bool false] 30) := Lib.hid (Blk.new W2 _ _)
  have Q2 : Hid (Blk (W2.alloc (.cells #[.int .i64 0, .int .i64 0, .int .i64 0, .int .i64 0, .int .i64 0, .slice none 0 0, .int .i64 0, .int .i64 0, .bool false] 30)) W2.heap.size #[.int .i64 0, .int .i64 0, .int .i64 0, .int .i64 0, .int .i64 0, .slice none 0 0, .int .i64 0, .int .i64 0, .bool false] 30) := Lib.hid (Blk.new W2 _ _)
  have HA2 : W2.cell? ⟨Hb, 0, none⟩ = some (.int .i64 a0) ∧ W2.cell? ⟨Hb, 1, none⟩ = some (.int .i64 a1) := HA0.out _ HB2.out
  go_cut [6] (fun v wc => ∃ Gb, v = .pointer (some ⟨Gb, 0, none⟩) ∧ Blk wc Gb #[.int .i64 0, .int .i64 0, .int .i64 x0, .int .i64 x1, .int .i64 0, .slice none 0 0, .int .i64 0, .int .i64 0, .bool false] 30 ∧ Below W2.heap.size W2 wc)
  case first =>
    go_region_held3 (fun w' => w'.cell? ⟨Hb, 0, none⟩ = some (.int .i64 a0) ∧ w'.cell? ⟨Hb, 1, none⟩ = some (.int .i64 a1))
      (first | (with_reducible exact HA2) | (refine HA0.out _ (HB2.out.trans (Below.mono (B := W2.heap.size) ?_ HB2.out.size)); go_grown))
      (first
        | (go_at_call 15; with_reducible refine (BR0.out _).mono ?_; rintro e w3 ⟨rfl, rfl⟩)
        | (go_at_call 15; with_reducible refine (BR1.out _).mono ?_; rintro e w3 ⟨rfl, rfl⟩))
    all_goals
      (try go_wp2_with fail)
      go_meet
      exact ⟨_, rfl, Blk.drew Q1.out, (below1 W2 _).drew⟩
  case' rest => obtain ⟨Gb, rfl, hQ, hb⟩ := hcut
  have HB3 : Hid (Below W0.heap.size W0 wc) := Lib.hid (HB2.out.trans (hb.mono HB2.out.size))
  have IX3 := Lib.hid (IX2.out.below hb)
  have HSA3 : Hid (∀ W', Below wc.heap.size wc W' → SnapAt W' A B C ca cb cc ns ps os) := Lib.hid (fun W' hb' => HSA.out W' (hb.trans (hb'.mono hb.size)))
  have HQ := Lib.hid hQ
  clear hQ hb D0 Q1 Q2 HA2 HA0 BR0 BR1 HB2 IX2 HSA
  have KH := Lib.hid (hHigh_in A B C X none ca cb cc cx 0 ns ps os p (heatG x0 x1) wc (H.out.low (HT0.out _ HB3.out)) IX3.out (nilD _))
  have HTD := Lib.hid (fun (k : Nat) (n : Int) (hk : p[k]? = some n) => heat_told HE.out HGM.out hk)
  obtain ⟨Hs, hHs⟩ : ∃ Hs, highF ns ps os p (heatG x0 x1) = Hs := ⟨_, rfl⟩
  rw [hHs] at KH HTD
  clear hHs
  have HGC : Hid (∀ W', Below wc.heap.size wc W' → W'.cell? ⟨Gb, 0, none⟩ = some (.int .i64 0) ∧ W'.cell? ⟨Gb, 1, none⟩ = some (.int .i64 0) ∧ W'.cell? ⟨Gb, 2, none⟩ = some (.int .i64 x0) ∧ W'.cell? ⟨Gb, 3, none⟩ = some (.int .i64 x1) ∧ W'.cell? ⟨Gb, 4, none⟩ = some (.int .i64 0) ∧ W'.cell? ⟨Gb, 5, none⟩ = some (.slice none 0 0) ∧ W'.cell? ⟨Gb, 6, none⟩ = some (.int .i64 0) ∧ W'.cell? ⟨Gb, 7, none⟩ = some (.int .i64 0) ∧ W'.cell? ⟨Gb, 8, none⟩ = some (.bool false)) := Lib.hid (fun W' hb => by
    have h1 := HQ.out.below hb HQ.out.lt
    exact ⟨Blk.cell h1 0, Blk.cell h1 1, Blk.cell h1 2, Blk.cell h1 3, Blk.cell h1 4, Blk.cell h1 5, Blk.cell h1 6, Blk.cell h1 7, Blk.cell h1 8⟩)
  obtain ⟨z0, z1, z2⟩ := HC0.out _ HB3.out
  obtain ⟨g0, g1, g2, g3, g4, g5, g6, g7, g8⟩ := HGC.out _ (Below.refl _ _)
  go_wp2_with fail
  refine (KH.out).mono ?_
  rintro e W4 ⟨v, rfl, ho, hb⟩
  obtain ⟨XH, cH, rfl, _⟩ := La.own_slice ho
  have IH := Lib.hid (IntsAt.own ho)
  have HB4 := Lib.hid (HB3.out.trans (hb.mono HB3.out.size))
  have IX4 := Lib.hid (IX3.out.below hb)
  have HSA4 : Hid (∀ W', Below W4.heap.size W4 W' → SnapAt W' A B C ca cb cc ns ps os) := Lib.hid (fun W' hb' => HSA3.out W' (hb.trans (hb'.mono hb.size)))
  have HGC4 := Lib.hid (fun W' (hb' : Below W4.heap.size W4 W') => HGC.out W' (hb.trans (hb'.mono hb.size)))
  have HC4 := Lib.hid (fun W' (hb' : Below W4.heap.size W4 W') => HC0.out W' (HB4.out.trans (hb'.mono HB4.out.size)))
  have HT4 := Lib.hid (fun W' (hb' : Below W4.heap.size W4 W') => HT0.out W' (HB4.out.trans (hb'.mono HB4.out.size)))
  have HHL := IH.out.le
  have HHM := IH.out.most
  clear ho hb KH z0 z1 z2 g0 g1 g2 g3 g4 g5 g6 g7 g8 HGC HC0 HT0 HB3 IX3 HSA3 HB4 HQ HGM
  go_wp2_with fail
  go_loopw [8] (fun i wr => ∃ k : Nat, k ≤ p.length ∧ i = .int .i64 k ∧ Below W4.heap.size W4 wr) (fun i _ => p.length - (intOf i).toNat)
  case atStart => exact ⟨0, by omega, rfl, Below.refl _ _⟩
  case round =>
    obtain ⟨k, hk, rfl, hb⟩ := hrel
    have HB := Lib.hid hb
    clear hb
    by_cases hlt : k < p.length
    case neg =>
      obtain rfl : k = p.length := by omega
      go_wp2_with fail
      refine (KW.out _).mono ?_
      rintro e W5 ⟨rfl, hb⟩
      have D := Lib.hid (HT4.out _ (HB.out.trans (hb.mono HB.out.size)))
      clear hb
      go_wp2
      go_ret
      exact ⟨rfl, D.out⟩
    obtain ⟨n, hn⟩ : ∃ n, p[k]? = some n := ⟨p[k], List.getElem?_eq_getElem hlt⟩
    obtain ⟨b, o, hA, hbl, c0⟩ := atI (IX4.out.below HB.out).cells hn
    have CX := Lib.hid (fun W' (hb : Below wr.heap.size wr W') => (hb.cell (p := ⟨b, o + k, none⟩) hbl).trans c0)
    subst hA
    have k0 : (0 : Int) ≤ (k : Int) := by omega
    have k1 : (k : Int) < (p.length : Int) := by omega
    have HTK := Lib.hid (HTD.out k n hn)
    clear hn hbl c0
    go_upto_region 11 with fail
    go_loopw [9, 10] (fun u j wq => ∃ t : Nat, t ≤ Hs.length ∧ j = .int .i64 t ∧ u = .bool ((Hs.take t).contains n) ∧ Below wr.heap.size wr wq) (fun _ j _ => Hs.length - (intOf j).toNat)
    case atStart => exact ⟨0, by omega, rfl, rfl, Below.refl _ _⟩
    case round =>
      obtain ⟨t, ht, rfl, rfl, hbq⟩ := hrel
      have HBq := Lib.hid hbq
      clear hbq
      by_cases htl : t < Hs.length
      case pos =>
        obtain ⟨y, hy⟩ : ∃ y, Hs[t]? = some y := ⟨Hs[t], List.getElem?_eq_getElem htl⟩
        obtain ⟨b', o', hA', hbl', d0⟩ := atI ((IH.out.below HB.out).below HBq.out).cells hy
        have c0 := CX.out _ HBq.out
        have t0 : (0 : Int) ≤ (t : Int) := by omega
        have t1 : (t : Int) < (Hs.length : Int) := by omega
        have HN : Hid ((Hs.take (t + 1)).contains n = ((Hs.take t).contains n || (y == n))) := Lib.hid (by
          rw [List.take_add_one, hy]
          simp only [Option.toList_some, List.contains_append, List.contains_cons, List.contains_nil, Bool.or_false]
          congr 1
          rw [Bool.eq_iff_iff, beq_iff_eq, beq_iff_eq]
          exact eq_comm)
        subst hA'
        generalize (Hs.take t).contains n = u at HN ⊢
        clear hy hbl'
        cases u with
        | true =>
          go_upto_region 13 with fail
          go_quiet (fail)
          have HQ := Lib.hid (belowN HBq.out nq)
          go_wp2_with fail
          go_roundw
          case rel => exact ⟨t + 1, by omega, by go_num, by rw [HN.out]; rfl, HQ.out⟩
          case measure => simp [intOf] <;> omega
        | false =>
          by_cases hyn : y = n
          · have hyb : (y == n) = true := by simpa using hyn
            have HN2 : Hid ((Hs.take (t + 1)).contains n = true) := Lib.hid (by rw [HN.out, hyb]; rfl)
            clear HN
            subst hyn
            go_upto_region 13 with fail
            go_quiet (fail)
            have HQ := Lib.hid (belowN HBq.out nq)
            go_wp2_with fail
            go_roundw
            case rel => exact ⟨t + 1, by omega, by go_num, by rw [HN2.out], HQ.out⟩
            case measure => simp [intOf] <;> omega
          · have hyb : (y == n) = false := by simpa using hyn
            have HN2 : Hid ((Hs.take (t + 1)).contains n = false) := Lib.hid (by rw [HN.out, hyb]; rfl)
            clear HN hyn
            go_upto_region 13 with fail
            go_quiet (fail)
            have HQ := Lib.hid (belowN HBq.out nq)
            go_wp2_with fail
            go_roundw
            case rel => exact ⟨t + 1, by omega, by go_num, by rw [HN2.out], HQ.out⟩
            case measure => simp [intOf] <;> omega
      obtain rfl : t = Hs.length := by omega
      rw [List.take_length]
      have HB5 := Lib.hid (HB.out.trans (HBq.out.mono HB.out.size))
      have KO := Lib.hid (ofP_any A B C (some ⟨b, o, none⟩) ca cb cc cx ns ps os p 2 (k : Int) 0 wr (HSA4.out _ HB5.out) (IX4.out.below HB5.out))
      generalize (findC (all8 ns ps os p) 2 (k : Int) 0).isSome = is9 at KO
      generalize (findC (all8 ns ps os p) 2 (k : Int) 0).getD 0 = by9 at KO HTK
      obtain ⟨z0, z1, z2⟩ := HC4.out _ HB5.out
      go_wp2_with fail
      refine (KO.out).mono ?_
      rintro e W6 ⟨rfl, hb⟩
      have HB6 := Lib.hid (HB5.out.trans (hb.mono HB5.out.size))
      clear hb KO z0 z1 z2
      have KY := Lib.hid (Why_any A B C (some ⟨b, o, none⟩) none ca cb cc cx 0 ns ps os p (heatG x0 x1) (fun _ => false) (k : Int) W6 (H.out.low (HT4.out _ HB6.out)) (IX4.out.below HB6.out) (nilD _) (fun h => absurd h (show ¬ onB 0 8 = true by decide)))
      rw [HTK.out] at KY
      obtain ⟨z0, z1, z2⟩ := HC4.out _ HB6.out
      obtain ⟨g0, g1, g2, g3, g4, g5, g6, g7, g8⟩ := HGC4.out _ HB6.out
      generalize Hs.contains n = u at KY ⊢
      by_cases h9 : 0 < by9
      · have h9d : decide (0 < by9) = true := decide_eq_true h9
        rw [if_pos h9] at KY
        cases u with
        | true =>
          go_wp2_with fail
          refine (KY.out).mono ?_
          rintro e W7 ⟨rfl, hb⟩
          have HB7 := Lib.hid (HB6.out.trans (hb.mono HB6.out.size))
          clear hb KY z0 z1 z2 g0 g1 g2 g3 g4 g5 g6 g7 g8
          go_wp2_with fail
          go_roundw
          case rel => exact ⟨k + 1, by omega, by go_num, HB7.out⟩
          case measure => simp [intOf] <;> omega
        | false =>
          go_wp2_with fail
          refine (KY.out).mono ?_
          rintro e W7 ⟨rfl, hb⟩
          have HB7 := Lib.hid (HB6.out.trans (hb.mono HB6.out.size))
          clear hb KY z0 z1 z2 g0 g1 g2 g3 g4 g5 g6 g7 g8
          go_wp2_with fail
          go_roundw
          case rel => exact ⟨k + 1, by omega, by go_num, HB7.out⟩
          case measure => simp [intOf] <;> omega
      · have h9d : decide (0 < by9) = false := decide_eq_false h9
        rw [if_neg h9] at KY
        cases u with
        | true =>
          rw [if_pos rfl] at KY
          go_wp2_with fail
          refine (KY.out).mono ?_
          rintro e W7 ⟨rfl, hb⟩
          have HB7 := Lib.hid (HB6.out.trans (hb.mono HB6.out.size))
          clear hb KY z0 z1 z2 g0 g1 g2 g3 g4 g5 g6 g7 g8
          go_wp2_with fail
          go_roundw
          case rel => exact ⟨k + 1, by omega, by go_num, HB7.out⟩
          case measure => simp [intOf] <;> omega
        | false =>
          rw [if_neg (by decide)] at KY
          go_wp2_with fail
          refine (KY.out).mono ?_
          rintro e W7 ⟨rfl, hb⟩
          have HB7 := Lib.hid (HB6.out.trans (hb.mono HB6.out.size))
          clear hb KY z0 z1 z2 g0 g1 g2 g3 g4 g5 g6 g7 g8
          go_wp2_with fail
          go_roundw
          case rel => exact ⟨k + 1, by omega, by go_num, HB7.out⟩
          case measure => simp [intOf] <;> omega
end Go.Proofs.YticgcimcebdjlaaGreat

namespace Go.Proofs.YticgcimcebdjlaaGreat
open Go.ChangeShapes Go.WideShapes Go.ChangeAt Go.RowKit Go.Deep

theorem bytes_podH : Tryz.prog.bytesOf 83 = 240 := by kernel_rfl
set_option maxRecDepth 100000 in
theorem open_snapN {H : Type} {enc : TypeId × Value → H} {W : World} {r : Reach} {b0 : Nat} {held : Bool} {v : Value} {d : DataW H} {p : List MemPlace}
    (hv : Value.okWide Tryz.prog W r b0 26 v) (h : DataW.Trod enc Tryz.prog W 0 (fun _ => true) held 26 v d p) :
    ∃ A B C ca cb cc ns ps os, v = snapV A B C ca cb cc ns ps os ∧ SnapIn W A B C ca cb cc ns ps os ∧ (ps.length = 0 ∨ ∃ ys es sp, d = .agg ys ∧ ys[1]? = some (.slice es sp) ∧ es.length = ps.length) := by
  obtain ⟨A, B, C, ca, cb, cc, ns, ps, os, rfl, hs⟩ := open_snap hv h
  refine ⟨A, B, C, ca, cb, cc, ns, ps, os, rfl, hs, ?_⟩
  obtain ⟨fuel, hf0⟩ := h
  obtain ⟨xs, m, _, hx, hl, hxl, hf⟩ := DataW.trod_struct Tryz.underlying26 hf0
  match xs, hxl, hx with
  | [y0, y1, y2], _, hx =>
    have h1 : DataW.trod enc Tryz.prog W 0 (fun _ => true) held m 23 ((([.slice A ns.length ca, .slice B ps.length cb, .slice C os.length cc] : List Value).drop 1).take (Tryz.prog.cellsOf 23)) = some y1 := hf 1 _ rfl
    rw [kcPods] at h1
    have g1 : DataW.trod enc Tryz.prog W 0 (fun _ => true) held m 23 [.slice B ps.length cb] = some y1 := h1
    simp only [Prod.mk.injEq, List.map_cons, List.map_nil] at hx
    rcases open_slice Tryz.underlying23 g1 with ⟨hcs, _⟩ | ⟨a, len, cap, m', n, D, Pl, hcs, _, hl2, hm, hmm, hx1, _⟩
    · simp only [List.cons.injEq, Value.slice.injEq, and_true] at hcs
      exact .inl hcs.2.1
    · simp only [List.cons.injEq, Value.slice.injEq, and_true] at hcs
      refine .inr ⟨_, _, _, hx.1, by rw [hx1]; rfl, by simp [hcs.2.1]⟩
theorem few_podsH {H : Type} {ts : List TypeId} {ds : List (DataW H)} {d : DataW H} {n : Nat} (h : (DataW.weightsEach Tryz.prog ts ds).all (· ≤ reachBytes) = true) {j : Nat} (ht : ts[j]? = some 26) (hd : ds[j]? = some d) (hs : n = 0 ∨ ∃ ys es sp, d = .agg ys ∧ ys[1]? = some (.slice es sp) ∧ es.length = n) :
    n * 8 ≤ 140737488355328 := by
  rcases hs with rfl | ⟨ys, es, sp, rfl, hy, rfl⟩
  · omega
  · have h1 : (es.length + sp.length) * Tryz.prog.bytesOf 83 ∈ DataW.weights Tryz.prog 23 (DataW.slice es sp : DataW H) := by
      simp [DataW.weights, Tryz.underlying23]
    have h2 : (es.length + sp.length) * Tryz.prog.bytesOf 83 ∈ DataW.weights Tryz.prog 26 (DataW.agg ys : DataW H) := by
      rw [DataW.weights, Tryz.underlying26]
      exact DataW.weights_mem_each (j := 1) (t := 23) rfl hy _ h1
    have h3 := List.all_eq_true.1 h _ (DataW.weights_mem_each ht hd _ h2)
    rw [bytes_podH] at h3
    have h4 : (es.length + sp.length) * 240 ≤ reachBytes := of_decide_eq_true h3
    simp only [reachBytes] at h4
    omega
end Go.Proofs.YticgcimcebdjlaaGreat

namespace Go.Proofs.YticgcimcebdjlaaGreat
open Go.ChangeShapes Go.WideShapes Go.ChangeAt Go.RowKit

theorem kcTwoD : Tryz.prog.cellsOf 27 = 2 := by kernel_rfl
set_option maxRecDepth 100000 in
theorem open_twoD {H : Type} {enc : TypeId × Value → H} {W : World} {r : Reach} {b0 : Nat} {held : Bool} {v : Value} {d : DataW H} {p : List MemPlace}
    (hv : Value.okWide Tryz.prog W r b0 27 v) (h : DataW.Trod enc Tryz.prog W 0 (fun _ => true) held 27 v d p) :
    ∃ a b : Int, v = .agg #[.int .i64 a, .int .i64 b] := by
  simp only [Value.okWide, Tryz.underlying27] at hv
  obtain ⟨cs, rfl, _, _⟩ := hv
  obtain ⟨fuel, hf0⟩ := h
  obtain ⟨xs, m, _, _, hl, hxl, hf⟩ := DataW.trod_array Tryz.underlying27 hf0
  rw [kcTwoD] at hl
  obtain ⟨c0, c1, rfl⟩ : ∃ c0 c1, cs = #[c0, c1] := by
    obtain ⟨l⟩ := cs
    match l, hl with
    | [c0, c1], _ => exact ⟨c0, c1, rfl⟩
  match xs, hxl with
  | [y0, y1], _ =>
    have h0 := hf 0 (by omega)
    have h1 := hf 1 (by omega)
    rw [kcInt] at h0 h1
    obtain ⟨i0, e0⟩ := int_one (enc := enc) (W := W) (held := held) (n := m) (c := c0) (x := y0) h0
    obtain ⟨i1, e1⟩ := int_one (enc := enc) (W := W) (held := held) (n := m) (c := c1) (x := y1) h1
    exact ⟨i0, i1, by rw [e0, e1]⟩
end Go.Proofs.YticgcimcebdjlaaGreat
