/- Drains tells just the names of Drain: the walk of the law. Conditions: the names lie in memory; the variables hold what was laid. -/
import Derived.Test.YthbplchbolghjaaGreatDoorGWorks
namespace Go.Proofs.YthbplchbolghjaaGreatDoor
open Go.RowKit

theorem NamesAt.take {w : World} {A : Option Addr} {c : Nat} {l : List (List UInt8)} (h : NamesAt w A c l) (m : Nat) : NamesAt w A c (l.take m) :=
  ⟨(fun j y hj => by
    have e : strC (l.take m) = (strC l).take m := by simp [strC]
    rw [e, List.getElem?_take] at hj
    split at hj
    · exact h.cells j y hj
    · cases hj), Nat.le_trans (by rw [List.length_take]; omega) h.le, h.most, fun x hx => h.big x (List.mem_of_mem_take hx)⟩
theorem mem_take_succ {l : List (List UInt8)} {k : Nat} {t x : List UInt8} (h : l[k]? = some t) : decide (x ∈ l.take (k + 1)) = (decide (x ∈ l.take k) || (t == x)) := by
  rw [List.take_add_one, h]
  by_cases h1 : x ∈ l.take k
  · simp [h1]
  · by_cases h2 : t = x
    · simp [h2]
    · have h3 : ¬ x = t := fun e => h2 e.symm
      simp [h1, h2, h3]

set_option maxRecDepth 100000 in
set_option maxHeartbeats 4000000 in
theorem drains_law (g : Pol) (A : Option Addr) (c : Nat) (x : List UInt8) (w : World) (he : Env w) (h : NamesAt w A c g.drain) (hx : x.length ≤ 9223372036854775807) (hA : A = none → g.drain = [] ∧ c = 0) :
    Calls Tryz.prog 7 #[valG g A c, strV x] w fun e w' => e = .returned (.bool true) ∧ Below w.heap.size w w' := by
  have HE := Lib.hid he
  obtain ⟨m, hm⟩ : ∃ m, min g.drain.length 12 = m := ⟨_, rfl⟩
  have hml : m ≤ g.drain.length := by omega
  have hcl := h.le
  have hcm := h.most
  have hmi : min (g.drain.length : Int) 12 = (m : Int) := by omega
  obtain ⟨G, hG⟩ : ∃ G : Pol, { g with drain := g.drain.take m } = G := ⟨_, rfl⟩
  have HGd : Hid (G.drain = g.drain.take m) := Lib.hid (by rw [← hG])
  have hGl : G.drain.length = m := by rw [HGd.out, List.length_take]; omega
  have HV : Hid (∀ A c, valG G A c = .agg #[.int .i64 g.l0, .int .i64 g.l1, .int .i64 g.h0, .int .i64 g.h1, .int .i64 g.on, .slice A m c, .int .i64 g.mx, .int .i64 g.tr, .bool g.rb]) := Lib.hid (fun A c => by rw [valG, hGl, ← hG])
  have HN : Hid (NamesAt w A c G.drain) := Lib.hid (by rw [HGd.out]; exact h.take m)
  have KD : Hid (∀ w' t, Below w.heap.size w w' → t.length ≤ 9223372036854775807 → Calls Tryz.prog 13 #[.agg #[.int .i64 g.l0, .int .i64 g.l1, .int .i64 g.h0, .int .i64 g.h1, .int .i64 g.on, .slice A m c, .int .i64 g.mx, .int .i64 g.tr, .bool g.rb], strV t] w' fun e w'' => e = .returned (.bool (decide (t ∈ G.drain))) ∧ Below w'.heap.size w' w'') := Lib.hid (fun w' t hb ht => by
    rw [← HV.out A c]
    exact drains_any G A c t w' (HN.out.below hb) ht)
  have B0 : Hid (Below w.heap.size w (w.alloc (.cells (cellsG g A c) 25))) := Lib.hid (below1 w _)
  have Q0 : Hid (Blk (w.alloc (.cells (cellsG g A c) 25)) w.heap.size (cellsG g A c) 25) := Lib.hid (Blk.new w _ _)
  have hAn : A = none → g.drain.length = 0 ∧ c = 0 ∧ m = 0 := fun e => by
    have := hA e
    refine ⟨by rw [this.1]; rfl, this.2, ?_⟩
    have h2 : g.drain.length = 0 := by rw [this.1]; rfl
    omega
  have hGb := Lib.hid (show ∀ t ∈ G.drain, t.length ≤ 9223372036854775807 from HN.out.big)
  clear hG h hm hA he
  generalize G.drain = D at HGd hGl HN KD hGb
  clear HV HGd
  go_enter Tryz.func7, Tryz.ntmps7
  go_upto_region 1 with fail
  change Code.wp _ _ _ _ (w.alloc (.cells (cellsG g A c) 25))
  generalize (w.alloc (.cells (cellsG g A c) 25)) = W at B0 Q0 ⊢
  have a5 : W.cell? ⟨w.heap.size, 5, none⟩ = some (.slice A g.drain.length c) := Blk.cell Q0.out 5
  have f5 : W.frozen? ⟨w.heap.size, 5, none⟩ = false := Blk.free Q0.out 5
  have B1 : Hid (Below w.heap.size w (W.setCell ⟨w.heap.size, 5, none⟩ (.slice A m c))) := Lib.hid (B0.out.setCell (p := ⟨w.heap.size, 5, none⟩) (Nat.le_refl _) _)
  have Q1 : Hid (Blk (W.setCell ⟨w.heap.size, 5, none⟩ (.slice A m c)) w.heap.size #[.int .i64 g.l0, .int .i64 g.l1, .int .i64 g.h0, .int .i64 g.h1, .int .i64 g.on, .slice A m c, .int .i64 g.mx, .int .i64 g.tr, .bool g.rb] 25) := Lib.hid (Blk.set Q0.out 5 (.slice A m c))
  have m0 : (0 : Int) ≤ (m : Int) := by omega
  have m1 : (m : Int) ≤ (g.drain.length : Int) := by omega
  have m2 : (m : Int) ≤ (c : Int) := by omega
  go_upto_region 3 with fail
  generalize (W.setCell ⟨w.heap.size, 5, none⟩ (.slice A m c)) = V at B1 Q1 ⊢
  clear B0 Q0 a5 f5 m2 hmi
  have hlV := Blk.lt Q1.out
  go_wp2_with fail
  go_loopw [6, 7] (fun b i wr => ∃ k : Nat, k ≤ m ∧ i = .int .i64 k ∧ b = .bool (decide (x ∈ D.take k)) ∧ Below V.heap.size V wr) (fun _ i _ => m - (intOf i).toNat)
  case atStart => exact ⟨0, by omega, rfl, by simp, Below.refl _ _⟩
  case round =>
    obtain ⟨k, hk, rfl, rfl, hbw⟩ := hrel
    have HB := Lib.hid hbw
    have HBW := Lib.hid (B1.out.trans (hbw.mono B1.out.size))
    have Q2 := Lib.hid (Blk.below Q1.out hbw hlV)
    have hVw := hbw.size
    clear hbw
    by_cases hlt : k < m
    · obtain ⟨t, ht⟩ : ∃ t, D[k]? = some t := ⟨D[k]'(by omega), List.getElem?_eq_getElem (by omega)⟩
      obtain ⟨b, o, hA, hb0, htc⟩ := strC_at (HN.out.below HBW.out).cells ht
      subst hA
      have HM := Lib.hid (mem_take_succ (x := x) ht)
      have htD : t ∈ D := List.mem_of_getElem? ht
      have hbig := hGb.out t htD
      have k0 : (0 : Int) ≤ (k : Int) := by omega
      have k1 : (k : Int) < (m : Int) := by omega
      have KD1 : Hid (∀ w', Below w.heap.size w w' → Calls Tryz.prog 13 #[.agg #[.int .i64 g.l0, .int .i64 g.l1, .int .i64 g.h0, .int .i64 g.h1, .int .i64 g.on, .slice (some ⟨b, o, none⟩) m c, .int .i64 g.mx, .int .i64 g.tr, .bool g.rb], strV t] w' fun e w'' => e = .returned (.bool true) ∧ Below w'.heap.size w' w'') := Lib.hid (fun w' hb => by
        have k := KD.out w' t hb hbig
        rw [show decide (t ∈ D) = true by simp [htD]] at k
        exact k)
      have S2 : wr.drew.cell? ⟨w.heap.size, 0, none⟩ = some (.int .i64 g.l0) ∧ wr.drew.cell? ⟨w.heap.size, 1, none⟩ = some (.int .i64 g.l1) ∧ wr.drew.cell? ⟨w.heap.size, 2, none⟩ = some (.int .i64 g.h0) ∧ wr.drew.cell? ⟨w.heap.size, 3, none⟩ = some (.int .i64 g.h1) ∧ wr.drew.cell? ⟨w.heap.size, 4, none⟩ = some (.int .i64 g.on) ∧ wr.drew.cell? ⟨w.heap.size, 5, none⟩ = some (.slice (some ⟨b, o, none⟩) m c) ∧ wr.drew.cell? ⟨w.heap.size, 6, none⟩ = some (.int .i64 g.mx) ∧ wr.drew.cell? ⟨w.heap.size, 7, none⟩ = some (.int .i64 g.tr) ∧ wr.drew.cell? ⟨w.heap.size, 8, none⟩ = some (.bool g.rb) ∧ wr.drew.cell? ⟨b, o + k, none⟩ = some (strV t) := ⟨Blk.cell (show Blk wr.drew _ _ _ from Q2.out) 0, Blk.cell (show Blk wr.drew _ _ _ from Q2.out) 1, Blk.cell (show Blk wr.drew _ _ _ from Q2.out) 2, Blk.cell (show Blk wr.drew _ _ _ from Q2.out) 3, Blk.cell (show Blk wr.drew _ _ _ from Q2.out) 4, Blk.cell (show Blk wr.drew _ _ _ from Q2.out) 5, Blk.cell (show Blk wr.drew _ _ _ from Q2.out) 6, Blk.cell (show Blk wr.drew _ _ _ from Q2.out) 7, Blk.cell (show Blk wr.drew _ _ _ from Q2.out) 8, htc⟩
      clear ht KD
      obtain ⟨bb, hbb⟩ : ∃ bb, decide (x ∈ D.take k) = bb := ⟨_, rfl⟩
      rw [hbb] at HM ⊢
      clear hbb
      cases bb with
      | true =>
        have HM2 : Hid (decide (x ∈ D.take (k + 1)) = true) := Lib.hid (by rw [HM.out]; rfl)
        go_wp2_with fail
        go_region_held3 (fun w' => w'.cell? ⟨w.heap.size, 0, none⟩ = some (.int .i64 g.l0) ∧ w'.cell? ⟨w.heap.size, 1, none⟩ = some (.int .i64 g.l1) ∧ w'.cell? ⟨w.heap.size, 2, none⟩ = some (.int .i64 g.h0) ∧ w'.cell? ⟨w.heap.size, 3, none⟩ = some (.int .i64 g.h1) ∧ w'.cell? ⟨w.heap.size, 4, none⟩ = some (.int .i64 g.on) ∧ w'.cell? ⟨w.heap.size, 5, none⟩ = some (.slice (some ⟨b, o, none⟩) m c) ∧ w'.cell? ⟨w.heap.size, 6, none⟩ = some (.int .i64 g.mx) ∧ w'.cell? ⟨w.heap.size, 7, none⟩ = some (.int .i64 g.tr) ∧ w'.cell? ⟨w.heap.size, 8, none⟩ = some (.bool g.rb) ∧ w'.cell? ⟨b, o + k, none⟩ = some (strV t))
          (first | (with_reducible exact S2) | (with_reducible exact S3) | go_keep)
          (first
            | (go_at_call 13; refine (KD1.out _ HBW.out.drew).mono ?_; rintro e w3 ⟨rfl, hb3⟩; have S3 : w3.cell? ⟨w.heap.size, 0, none⟩ = some (.int .i64 g.l0) ∧ w3.cell? ⟨w.heap.size, 1, none⟩ = some (.int .i64 g.l1) ∧ w3.cell? ⟨w.heap.size, 2, none⟩ = some (.int .i64 g.h0) ∧ w3.cell? ⟨w.heap.size, 3, none⟩ = some (.int .i64 g.h1) ∧ w3.cell? ⟨w.heap.size, 4, none⟩ = some (.int .i64 g.on) ∧ w3.cell? ⟨w.heap.size, 5, none⟩ = some (.slice (some ⟨b, o, none⟩) m c) ∧ w3.cell? ⟨w.heap.size, 6, none⟩ = some (.int .i64 g.mx) ∧ w3.cell? ⟨w.heap.size, 7, none⟩ = some (.int .i64 g.tr) ∧ w3.cell? ⟨w.heap.size, 8, none⟩ = some (.bool g.rb) ∧ w3.cell? ⟨b, o + k, none⟩ = some (strV t) := ⟨Blk.cell (Blk.below (show Blk wr.drew _ _ _ from Q2.out) hb3 (Blk.lt Q2.out)) 0, Blk.cell (Blk.below (show Blk wr.drew _ _ _ from Q2.out) hb3 (Blk.lt Q2.out)) 1, Blk.cell (Blk.below (show Blk wr.drew _ _ _ from Q2.out) hb3 (Blk.lt Q2.out)) 2, Blk.cell (Blk.below (show Blk wr.drew _ _ _ from Q2.out) hb3 (Blk.lt Q2.out)) 3, Blk.cell (Blk.below (show Blk wr.drew _ _ _ from Q2.out) hb3 (Blk.lt Q2.out)) 4, Blk.cell (Blk.below (show Blk wr.drew _ _ _ from Q2.out) hb3 (Blk.lt Q2.out)) 5, Blk.cell (Blk.below (show Blk wr.drew _ _ _ from Q2.out) hb3 (Blk.lt Q2.out)) 6, Blk.cell (Blk.below (show Blk wr.drew _ _ _ from Q2.out) hb3 (Blk.lt Q2.out)) 7, Blk.cell (Blk.below (show Blk wr.drew _ _ _ from Q2.out) hb3 (Blk.lt Q2.out)) 8, (hb3.cell (p := ⟨b, o + k, none⟩) hb0).trans htc⟩; have B3 := Lib.hid ((HB.out.drew).trans (hb3.mono hVw)); clear hb3)
            | skip)
        go_wp2_with fail
        go_roundw
        case rel => exact ⟨k + 1, by omega, by go_num, by rw [HM2.out], B3.out⟩
        case measure => simp [intOf]; omega
      | false =>
        have HM2 : Hid (decide (x ∈ D.take (k + 1)) = (t == x)) := Lib.hid (by rw [HM.out]; rfl)
        go_wp2_with fail
        go_region_held3 (fun w' => w'.cell? ⟨w.heap.size, 0, none⟩ = some (.int .i64 g.l0) ∧ w'.cell? ⟨w.heap.size, 1, none⟩ = some (.int .i64 g.l1) ∧ w'.cell? ⟨w.heap.size, 2, none⟩ = some (.int .i64 g.h0) ∧ w'.cell? ⟨w.heap.size, 3, none⟩ = some (.int .i64 g.h1) ∧ w'.cell? ⟨w.heap.size, 4, none⟩ = some (.int .i64 g.on) ∧ w'.cell? ⟨w.heap.size, 5, none⟩ = some (.slice (some ⟨b, o, none⟩) m c) ∧ w'.cell? ⟨w.heap.size, 6, none⟩ = some (.int .i64 g.mx) ∧ w'.cell? ⟨w.heap.size, 7, none⟩ = some (.int .i64 g.tr) ∧ w'.cell? ⟨w.heap.size, 8, none⟩ = some (.bool g.rb) ∧ w'.cell? ⟨b, o + k, none⟩ = some (strV t))
          (first | (with_reducible exact S2) | (with_reducible exact S3) | go_keep)
          (first
            | (go_at_call 13; refine (KD1.out _ HBW.out.drew).mono ?_; rintro e w3 ⟨rfl, hb3⟩; have S3 : w3.cell? ⟨w.heap.size, 0, none⟩ = some (.int .i64 g.l0) ∧ w3.cell? ⟨w.heap.size, 1, none⟩ = some (.int .i64 g.l1) ∧ w3.cell? ⟨w.heap.size, 2, none⟩ = some (.int .i64 g.h0) ∧ w3.cell? ⟨w.heap.size, 3, none⟩ = some (.int .i64 g.h1) ∧ w3.cell? ⟨w.heap.size, 4, none⟩ = some (.int .i64 g.on) ∧ w3.cell? ⟨w.heap.size, 5, none⟩ = some (.slice (some ⟨b, o, none⟩) m c) ∧ w3.cell? ⟨w.heap.size, 6, none⟩ = some (.int .i64 g.mx) ∧ w3.cell? ⟨w.heap.size, 7, none⟩ = some (.int .i64 g.tr) ∧ w3.cell? ⟨w.heap.size, 8, none⟩ = some (.bool g.rb) ∧ w3.cell? ⟨b, o + k, none⟩ = some (strV t) := ⟨Blk.cell (Blk.below (show Blk wr.drew _ _ _ from Q2.out) hb3 (Blk.lt Q2.out)) 0, Blk.cell (Blk.below (show Blk wr.drew _ _ _ from Q2.out) hb3 (Blk.lt Q2.out)) 1, Blk.cell (Blk.below (show Blk wr.drew _ _ _ from Q2.out) hb3 (Blk.lt Q2.out)) 2, Blk.cell (Blk.below (show Blk wr.drew _ _ _ from Q2.out) hb3 (Blk.lt Q2.out)) 3, Blk.cell (Blk.below (show Blk wr.drew _ _ _ from Q2.out) hb3 (Blk.lt Q2.out)) 4, Blk.cell (Blk.below (show Blk wr.drew _ _ _ from Q2.out) hb3 (Blk.lt Q2.out)) 5, Blk.cell (Blk.below (show Blk wr.drew _ _ _ from Q2.out) hb3 (Blk.lt Q2.out)) 6, Blk.cell (Blk.below (show Blk wr.drew _ _ _ from Q2.out) hb3 (Blk.lt Q2.out)) 7, Blk.cell (Blk.below (show Blk wr.drew _ _ _ from Q2.out) hb3 (Blk.lt Q2.out)) 8, (hb3.cell (p := ⟨b, o + k, none⟩) hb0).trans htc⟩; have B3 := Lib.hid ((HB.out.drew).trans (hb3.mono hVw)); clear hb3)
            | skip)
        go_wp2_with fail
        go_roundw
        case rel => exact ⟨k + 1, by omega, by go_num, by rw [HM2.out], B3.out⟩
        case measure => simp [intOf]; omega
    · obtain rfl : k = m := by omega
      have HT : Hid (D.take k = D) := Lib.hid (List.take_of_length_le (by omega))
      rw [HT.out]
      have KD1 := Lib.hid (KD.out wr x HBW.out hx)
      generalize decide (x ∈ D) = bb at KD1 ⊢
      have S2 : wr.cell? ⟨w.heap.size, 0, none⟩ = some (.int .i64 g.l0) ∧ wr.cell? ⟨w.heap.size, 1, none⟩ = some (.int .i64 g.l1) ∧ wr.cell? ⟨w.heap.size, 2, none⟩ = some (.int .i64 g.h0) ∧ wr.cell? ⟨w.heap.size, 3, none⟩ = some (.int .i64 g.h1) ∧ wr.cell? ⟨w.heap.size, 4, none⟩ = some (.int .i64 g.on) ∧ wr.cell? ⟨w.heap.size, 5, none⟩ = some (.slice A k c) ∧ wr.cell? ⟨w.heap.size, 6, none⟩ = some (.int .i64 g.mx) ∧ wr.cell? ⟨w.heap.size, 7, none⟩ = some (.int .i64 g.tr) ∧ wr.cell? ⟨w.heap.size, 8, none⟩ = some (.bool g.rb) := ⟨Blk.cell Q2.out 0, Blk.cell Q2.out 1, Blk.cell Q2.out 2, Blk.cell Q2.out 3, Blk.cell Q2.out 4, Blk.cell Q2.out 5, Blk.cell Q2.out 6, Blk.cell Q2.out 7, Blk.cell Q2.out 8⟩
      obtain ⟨s0, s1, s2, s3, s4, s5, s6, s7, s8⟩ := S2
      have hbb : (bb == bb) = true := by simp
      clear KD HT
      go_wp2_with fail
      refine KD1.out.mono ?_
      rintro e w3 ⟨rfl, hb3⟩
      have B3 := Lib.hid (HBW.out.trans (hb3.mono HBW.out.size))
      have E3 := Lib.hid (HE.out.below B3.out)
      clear hb3
      go_wp2_with fail
      refine (gworks_any _ E3.out).mono ?_
      rintro e w4 ⟨rfl, hb4⟩
      have B4 := Lib.hid (B3.out.trans (hb4.mono B3.out.size))
      clear hb4
      go_wp2
      go_ret
      exact ⟨rfl, B4.out⟩
end Go.Proofs.YthbplchbolghjaaGreatDoor
