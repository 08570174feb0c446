/- A number, as the next word; what the library's and the policy's variables hold. Conditions: the words lie in memory; the variables as they were laid. -/
import Derived.Test.YthbplchbolghjaaGreatDoorGShares
import Derived.Test.YthbplchbolghjaaGreatDoorPctPrint
import Derived.Lib.AtoiAll
namespace Go.Proofs.YthbplchbolghjaaGreatDoor
open Go.RowKit

def keysL : List (List UInt8) := [[108, 111, 119], [104, 105, 103, 104], [111, 110], [100, 114, 97, 105, 110], [109, 111, 118, 101, 115], [116, 114, 105, 101, 115], [114, 111, 108, 108, 98, 97, 99, 107]]
def looksL : List (List UInt8) := [[100, 111, 117, 98, 108, 101, 115], [119, 105, 116, 104], [116, 97, 105, 110, 116, 115], [115, 112, 114, 101, 97, 100], [101, 109, 112, 116, 121]]
/-- The variables hold what was laid. -/
structure Env (w : World) : Prop where
  tab : Qu.Tab w
  sy : ∃ tp p, w.cell? ⟨6, 0, none⟩ = some (.iface tp p)
  ra : ∃ tp p, w.cell? ⟨7, 0, none⟩ = some (.iface tp p)
  keys : ∀ i k, keysL[i]? = some k → w.cell? ⟨0, i, none⟩ = some (strV k)
  looks : ∀ i k, looksL[i]? = some k → w.cell? ⟨1, i, none⟩ = some (strV k)
theorem Env.below {w w' : World} (h : Env w) (hb : Below w.heap.size w w') : Env w' := by
  have kc : ∀ {p : Addr} {v : Value}, w.cell? p = some v → w'.cell? p = some v := fun {p v} hc => (hb.cell (World.block_lt_of_cell? w p hc)).trans hc
  obtain ⟨t1, p1, h1⟩ := h.sy
  obtain ⟨t2, p2, h2⟩ := h.ra
  exact ⟨h.tab.below hb, ⟨t1, p1, kc h1⟩, ⟨t2, p2, kc h2⟩, fun i k hk => kc (h.keys i k hk), fun i k hk => kc (h.looks i k hk)⟩

theorem atoi_any (t : List UInt8) (w : World) (ht : t.length ≤ 100000) (h : Env w) :
    Calls Tryz.prog 128 #[strV t] w fun e w' => (match Lib.atoiAll t with
      | .ok n => e = .returned (.tuple #[.int .i64 n, .nilIface])
      | _ => ∃ N n, e = .returned (.tuple #[.int .i64 n, .iface 171 (.pointer (some ⟨N, 0, none⟩))])) ∧ Below w.heap.size w w' := by
  have hs : (⟨t.toArray⟩ : ByteArray).size = t.length := Qu.size_l t
  rcases ha : Lib.atoiAll t with n | _ | _
  · refine (Tryz.strconv_Atoi_ok ⟨t.toArray⟩ (by rw [hs]; omega) n (by simpa using ha) w).mono ?_
    rintro e w' ⟨rfl, h1⟩
    refine ⟨rfl, ?_⟩
    rcases h1 with rfl | ⟨s, rfl⟩
    · exact Below.refl _ _
    · exact Lib.bytesWorld_below _ _ _
  · obtain ⟨t1, p1, h1⟩ := h.sy
    refine (Any.strconv_Atoi_syntax Tryz.laysC172 ⟨t.toArray⟩ (by rw [hs]; omega) (by simpa using ha) _ w h1 (Or.inr ⟨_, _, rfl⟩)).mono ?_
    rintro e w' ⟨N, rfl, _, _, hb⟩
    exact ⟨⟨N, _, rfl⟩, hb⟩
  · obtain ⟨t1, p1, h1⟩ := h.ra
    refine (Tryz.strconv_Atoi_range ⟨t.toArray⟩ (by rw [hs]; omega) (by simpa using ha) _ w h1 (Or.inr ⟨_, _, rfl⟩)).mono ?_
    rintro e w' ⟨N, rfl, _, _, hb⟩
    exact ⟨⟨N, _, rfl⟩, hb⟩
theorem itoa_all (n : Int) (w : World) (h0 : -9223372036854775808 ≤ n) (h1 : n ≤ 9223372036854775807) (ht : Qu.Tab w) :
    Calls Tryz.prog 53 #[.int .i64 n] w fun e w' => e = .returned (strV (Lib.itoa n)) ∧ Below w.heap.size w w' := by
  refine (Tryz.strconv_Itoa n h0 h1 w ht).mono ?_
  rintro e w' ⟨rfl, k, os, rfl⟩
  exact ⟨rfl, Lib.below_grow _ _ (Nat.le_refl _) _ _⟩

def numOf (t : List UInt8) : Option Int := match Lib.atoiAll t with
  | .ok n => if t.length ≤ 9 ∧ Lib.itoa n = t then some n else none
  | _ => none
/-- A number, as the next word. -/
def numP (put : Int → PR → PR) (s : PR) : Bool × PR := match takeP s 2 with
  | (none, s') => (false, s')
  | (some x, s') => match numOf x.2.1 with
    | none => (false, failP s' x 4)
    | some n => (true, put n s')
def putMoves (n : Int) (s : PR) : PR := { s with goal := { s.goal with mx := n } }
def putTries (n : Int) (s : PR) : PR := { s with goal := { s.goal with tr := n } }
def rollP (s : PR) : Bool × PR := (true, { s with goal := { s.goal with rb := true } })

set_option maxRecDepth 100000 in
set_option maxHeartbeats 2000000 in
theorem moves1_any (W0 : World) (g : Nat) (A1 : Option Addr) (c1 : Nat) (A2 : Option Addr) (c2 : Nat) (A3 : Option Addr) (c3 : Nat) (s : PR) (w : World) (he : Env W0) (hw : Below W0.heap.size W0 w) (hg : W0.heap.size ≤ g) (hm : RdM w g A1 c1 A2 c2 A3 c3 s) (h1 : 1 ≤ s.at_) (hbig : ∀ x ∈ s.line, x.2.1.length ≤ 100000) :
    Calls Tryz.prog 102 #[.pointer (some ⟨g, 0, none⟩), .pointer (some ⟨g, 9, none⟩)] w fun e w' => e = .returned (.bool (numP putMoves s).1) ∧ RdM w' g A1 c1 A2 c2 A3 c3 (numP putMoves s).2 ∧ KeepR g w w' := by
  have KT := Lib.hid (gtake_any g A1 c1 A2 c2 A3 c3 s 2 w hm h1)
  have KF := Lib.hid (fun s x er w hm => gfail_any g A1 c1 A2 c2 A3 c3 s x er w hm)
  have HE0 := Lib.hid he
  have HW := Lib.hid hw
  have hgl := Blk.lt hm.blk
  obtain ⟨T, hT⟩ : ∃ T, numP putMoves s = T := ⟨_, rfl⟩
  have HT := Lib.hid hT
  rw [hT]
  clear hT hm he hw
  cases ht : takeP s 2 with
  | mk ox s2 =>
  rw [ht] at KT
  have Ht := Lib.hid ht
  cases ox with
  | none =>
    have HE : Hid (T = (false, s2)) := Lib.hid (by rw [← HT.out]; unfold numP; rw [Ht.out])
    clear ht
    go_enter Tryz.func102, Tryz.ntmps102
    go_wp2_with fail
    refine KT.out.mono ?_
    rintro e w3 ⟨rfl, hm3, hk3⟩
    have M3 := Lib.hid hm3
    have K3 := Lib.hid hk3
    clear hm3 hk3
    go_wp2_with fail
    go_ret
    rw [HE.out]
    exact ⟨rfl, M3.out.below (below1 _ _), K3.out.fresh ((below1 _ _).mono K3.out.size)⟩
  | some x =>
    have ha := take_at ht
    have hxl := hbig x ha.2.2.2.2.1
    have hE : T = match numOf x.2.1 with
      | none => (false, failP s2 x 4)
      | some n => (true, putMoves n s2) := by rw [← HT.out]; unfold numP; rw [Ht.out]
    clear ha ht HT Ht hbig
    obtain ⟨kd, tx, ln, cl⟩ := x
    simp only at hxl hE
    have KA := Lib.hid (fun w hE => atoi_any tx w hxl hE)
    have HE := Lib.hid hE
    clear hE
    go_enter Tryz.func102, Tryz.ntmps102
    go_wp2_with fail
    refine KT.out.mono ?_
    rintro e w3 ⟨rfl, hm3, hk3⟩
    have M3 := Lib.hid hm3
    have K3 := Lib.hid hk3
    clear hm3 hk3 KT
    go_wp2_with fail
    have Q4 : Hid (Blk (w3.alloc (.cells #[.int .i64 kd, strV tx, .int .i64 (ln : Int), .int .i64 (cl : Int)] 83)) w3.heap.size #[.int .i64 kd, strV tx, .int .i64 (ln : Int), .int .i64 (cl : Int)] 83) := Lib.hid (Blk.new _ _ _)
    have M4 := Lib.hid (M3.out.below (below1 w3 (.cells #[.int .i64 kd, strV tx, .int .i64 (ln : Int), .int .i64 (cl : Int)] 83)))
    have K4 := Lib.hid (K3.out.fresh ((below1 w3 (.cells #[.int .i64 kd, strV tx, .int .i64 (ln : Int), .int .i64 (cl : Int)] 83)).mono K3.out.size))
    have E4 := HE0.out.below (HW.out.trans (K4.out.below hg (Nat.le_of_lt hgl)))
    refine (KA.out _ E4).mono ?_
    rintro e w5 ⟨he5, hb⟩
    have HV := Lib.hid he5
    have Q5 := Lib.hid (Blk.below Q4.out hb (Blk.lt Q4.out))
    have M5 := Lib.hid (M4.out.below hb)
    have K5 := Lib.hid (K4.out.fresh (hb.mono K4.out.size))
    clear hb KA Q4 M4 K4 M3 K3 E4 he5
    have c0 : w5.cell? ⟨w3.heap.size, 0, none⟩ = some (.int .i64 kd) := Blk.cell Q5.out 0
    have c1' : w5.cell? ⟨w3.heap.size, 1, none⟩ = some (strV tx) := Blk.cell Q5.out 1
    have c2' : w5.cell? ⟨w3.heap.size, 2, none⟩ = some (.int .i64 (ln : Int)) := Blk.cell Q5.out 2
    have c3' : w5.cell? ⟨w3.heap.size, 3, none⟩ = some (.int .i64 (cl : Int)) := Blk.cell Q5.out 3
    have HNO : Hid ((∀ n, Lib.atoiAll tx ≠ .ok n) → T = (false, failP s2 (kd, tx, ln, cl) 4)) := Lib.hid (fun h => by
      rw [HE.out]
      unfold numOf
      rcases hq : Lib.atoiAll tx with n | _ | _
      · exact absurd hq (h n)
      · rfl
      · rfl)
    have hno : (∀ n, Lib.atoiAll tx ≠ .ok n) → ∃ N n, e = .returned (.tuple #[.int .i64 n, .iface 171 (.pointer (some ⟨N, 0, none⟩))]) := by
      intro h
      have := HV.out
      rcases hq : Lib.atoiAll tx with n | _ | _
      · exact absurd hq (h n)
      · rw [hq] at this; exact this
      · rw [hq] at this; exact this
    by_cases hok : ∃ n, Lib.atoiAll tx = .ok n
    · obtain ⟨n, hn⟩ := hok
      have he : e = .returned (.tuple #[.int .i64 n, .nilIface]) := by
        have := HV.out
        rw [hn] at this
        exact this
      have hE2 : T = match (if tx.length ≤ 9 ∧ Lib.itoa n = tx then some n else none) with
        | none => (false, failP s2 (kd, tx, ln, cl) 4)
        | some n => (true, putMoves n s2) := by rw [HE.out]; unfold numOf; rw [hn]
      have hbd := Lib.atoiAll_bounds hn
      clear hno HNO HV HE hn
      subst he
      by_cases h9 : tx.length ≤ 9
      · have h9i : ¬ (9 : Int) < (tx.length : Int) := by omega
        have h9d : decide ((9 : Int) < (tx.length : Int)) = false := decide_eq_false h9i
        have KI := Lib.hid (fun w ht => itoa_all n w hbd.1 hbd.2 ht)
        generalize hit : Lib.itoa n = it at KI hE2
        clear hit hbd
        have E5 := Lib.hid (HE0.out.below (HW.out.trans (K5.out.below hg (Nat.le_of_lt hgl))))
        have q1 : Hid (∀ nn, w5.cell? ⟨w3.heap.size, 1, none⟩ = some (strV tx) → (w5.drewN nn).cell? ⟨w3.heap.size, 1, none⟩ = some (strV tx)) := Lib.hid (fun _ h => h)
        by_cases hq : it = tx
        · subst hq
          rw [if_pos ⟨h9, rfl⟩] at hE2
          have HZ := Lib.hid hE2
          go_wp2_with fail
          go_region_held3 (fun w' => w'.cell? ⟨w3.heap.size, 1, none⟩ = some (strV it))
            (first | exact c1' | exact S7 | go_keep)
            (first
              | (go_at_call 53; refine (KI.out _ (E5.out.tab.below ((Below.refl _ _).drew))).mono ?_; rintro e w7 ⟨rfl, hb7⟩; have S7 := Blk.cell (Blk.below (show Blk w5.drew _ _ _ from Q5.out) hb7 (Blk.lt Q5.out)) 1; have HB7 := Lib.hid hb7; clear hb7)
              | skip)
          change Exit.then _ _ _ _ w7
          have B57 := (Below.refl w5.heap.size w5).drew.trans HB7.out
          have Q7 := Lib.hid (Blk.below Q5.out B57 (Blk.lt Q5.out))
          have M7 := Lib.hid (M5.out.below B57)
          have K7 := Lib.hid (K5.out.fresh (B57.mono K5.out.size))
          clear B57 HB7 Q5 M5 K5 E5 KI c0 c1' c2' c3' S7 q1
          have c0 : w7.cell? ⟨w3.heap.size, 0, none⟩ = some (.int .i64 kd) := Blk.cell Q7.out 0
          have c1' : w7.cell? ⟨w3.heap.size, 1, none⟩ = some (strV it) := Blk.cell Q7.out 1
          have c2' : w7.cell? ⟨w3.heap.size, 2, none⟩ = some (.int .i64 (ln : Int)) := Blk.cell Q7.out 2
          have c3' : w7.cell? ⟨w3.heap.size, 3, none⟩ = some (.int .i64 (cl : Int)) := Blk.cell Q7.out 3
          have d9 : w7.cell? ⟨g, 9, none⟩ = some (.int .i64 s2.goal.mx) := Blk.cell M7.out.blk 9
          have f9 : w7.frozen? ⟨g, 9, none⟩ = false := Blk.free M7.out.blk 9
          clear hE2 KF
          go_wp2_with fail
          go_ret
          rw [HZ.out]
          refine ⟨rfl, M7.out.keep ((KeepR.refl g w7).setCell 9 (.int .i64 n)) ?_ rfl rfl rfl M7.out.le, K7.out.setCell 9 (.int .i64 n)⟩
          exact Blk.set M7.out.blk 9 (.int .i64 n)
        · rw [if_neg (by simp [hq])] at hE2
          have HZ := Lib.hid hE2
          have e1 : decide (it = tx) = false := by simpa using hq
          have e2 : (it == tx) = false := by simpa using hq
          go_wp2_with fail
          go_region_held3 (fun w' => w'.cell? ⟨w3.heap.size, 1, none⟩ = some (strV tx))
            (first | exact c1' | exact S7 | go_keep)
            (first
              | (go_at_call 53; refine (KI.out _ (E5.out.tab.below ((Below.refl _ _).drew))).mono ?_; rintro e w7 ⟨rfl, hb7⟩; have S7 := Blk.cell (Blk.below (show Blk w5.drew _ _ _ from Q5.out) hb7 (Blk.lt Q5.out)) 1; have HB7 := Lib.hid hb7; clear hb7)
              | skip)
          change Exit.then _ _ _ _ w7
          have B57 := (Below.refl w5.heap.size w5).drew.trans HB7.out
          have Q7 := Lib.hid (Blk.below Q5.out B57 (Blk.lt Q5.out))
          have M7 := Lib.hid (M5.out.below B57)
          have K7 := Lib.hid (K5.out.fresh (B57.mono K5.out.size))
          clear B57 HB7 Q5 M5 K5 E5 KI c0 c1' c2' c3' S7 q1
          have c0 : w7.cell? ⟨w3.heap.size, 0, none⟩ = some (.int .i64 kd) := Blk.cell Q7.out 0
          have c1' : w7.cell? ⟨w3.heap.size, 1, none⟩ = some (strV tx) := Blk.cell Q7.out 1
          have c2' : w7.cell? ⟨w3.heap.size, 2, none⟩ = some (.int .i64 (ln : Int)) := Blk.cell Q7.out 2
          have c3' : w7.cell? ⟨w3.heap.size, 3, none⟩ = some (.int .i64 (cl : Int)) := Blk.cell Q7.out 3
          have KF1 := Lib.hid (KF.out s2 (kd, tx, ln, cl) 4 w7 M7.out)
          have K5 := K7
          clear hE2 hq KF
          go_wp2_with fail
          refine KF1.out.mono ?_
          rintro e w6 ⟨rfl, hm6, hk6⟩
          have M6 := Lib.hid hm6
          have K6 := Lib.hid (K5.out.trans hk6)
          clear hm6 hk6
          go_wp2_with fail
          go_ret
          rw [HZ.out]
          exact ⟨rfl, M6.out, K6.out⟩
      · have h9i : (9 : Int) < (tx.length : Int) := by omega
        rw [if_neg (by simp [h9])] at hE2
        have HZ := Lib.hid hE2
        have KF1 := Lib.hid (fun nn => KF.out s2 (kd, tx, ln, cl) 4 (w5.drewN nn) (M5.out.below (below_drewN _ _ _)))
        have K5' := Lib.hid (fun nn => K5.out.fresh (below_drewN _ w5 nn))
        clear hE2 KF hbd
        go_wp2_with fail
        go_quiet (fail)
        go_wp2_with fail
        refine (KF1.out _).mono ?_
        rintro e w6 ⟨rfl, hm6, hk6⟩
        have M6 := Lib.hid hm6
        have K6 := Lib.hid ((K5'.out _).trans hk6)
        clear hm6 hk6
        go_wp2_with fail
        go_ret
        rw [HZ.out]
        exact ⟨rfl, M6.out, K6.out⟩
    · obtain ⟨N, n, he⟩ := hno (fun n h => hok ⟨n, h⟩)
      have HZ := Lib.hid (HNO.out (fun n h => hok ⟨n, h⟩))
      clear hno HNO HV HE hok
      subst he
      have KF1 := Lib.hid (fun nn => KF.out s2 (kd, tx, ln, cl) 4 (w5.drewN nn) (M5.out.below (below_drewN _ _ _)))
      have K5' := Lib.hid (fun nn => K5.out.fresh (below_drewN _ w5 nn))
      go_wp2_with fail
      go_quiet (fail)
      go_wp2_with fail
      refine (KF1.out _).mono ?_
      rintro e w6 ⟨rfl, hm6, hk6⟩
      have M6 := Lib.hid hm6
      have K6 := Lib.hid ((K5'.out _).trans hk6)
      clear hm6 hk6
      go_wp2_with fail
      go_ret
      rw [HZ.out]
      exact ⟨rfl, M6.out, K6.out⟩

theorem moves_any (W0 : World) (g : Nat) (A1 : Option Addr) (c1 : Nat) (A2 : Option Addr) (c2 : Nat) (A3 : Option Addr) (c3 : Nat) (s : PR) (w : World) (he : Env W0) (hw : Below W0.heap.size W0 w) (hg : W0.heap.size ≤ g) (hm : RdM w g A1 c1 A2 c2 A3 c3 s) (h1 : 1 ≤ s.at_) (hbig : ∀ x ∈ s.line, x.2.1.length ≤ 100000) :
    Calls Tryz.prog 67 #[.pointer (some ⟨g, 0, none⟩)] w fun e w' => e = .returned (.bool (numP putMoves s).1) ∧ RdM w' g A1 c1 A2 c2 A3 c3 (numP putMoves s).2 ∧ KeepR g w w' := by
  have K := Lib.hid (moves1_any W0 g A1 c1 A2 c2 A3 c3 s w he hw hg hm h1 hbig)
  clear hm he hw hg hbig
  generalize numP putMoves s = T at K ⊢
  go_enter Tryz.func67, Tryz.ntmps67
  go_wp2_with fail
  refine K.out.mono ?_
  rintro e w3 ⟨rfl, hm3, hk3⟩
  have M3 := Lib.hid hm3
  have K3 := Lib.hid hk3
  clear hm3 hk3
  go_wp2
  go_ret
  exact ⟨rfl, M3.out, K3.out⟩

set_option maxRecDepth 100000 in
set_option maxHeartbeats 2000000 in
theorem tries1_any (W0 : World) (g : Nat) (A1 : Option Addr) (c1 : Nat) (A2 : Option Addr) (c2 : Nat) (A3 : Option Addr) (c3 : Nat) (s : PR) (w : World) (he : Env W0) (hw : Below W0.heap.size W0 w) (hg : W0.heap.size ≤ g) (hm : RdM w g A1 c1 A2 c2 A3 c3 s) (h1 : 1 ≤ s.at_) (hbig : ∀ x ∈ s.line, x.2.1.length ≤ 100000) :
    Calls Tryz.prog 102 #[.pointer (some ⟨g, 0, none⟩), .pointer (some ⟨g, 10, none⟩)] w fun e w' => e = .returned (.bool (numP putTries s).1) ∧ RdM w' g A1 c1 A2 c2 A3 c3 (numP putTries s).2 ∧ KeepR g w w' := by
  have KT := Lib.hid (gtake_any g A1 c1 A2 c2 A3 c3 s 2 w hm h1)
  have KF := Lib.hid (fun s x er w hm => gfail_any g A1 c1 A2 c2 A3 c3 s x er w hm)
  have HE0 := Lib.hid he
  have HW := Lib.hid hw
  have hgl := Blk.lt hm.blk
  obtain ⟨T, hT⟩ : ∃ T, numP putTries s = T := ⟨_, rfl⟩
  have HT := Lib.hid hT
  rw [hT]
  clear hT hm he hw
  cases ht : takeP s 2 with
  | mk ox s2 =>
  rw [ht] at KT
  have Ht := Lib.hid ht
  cases ox with
  | none =>
    have HE : Hid (T = (false, s2)) := Lib.hid (by rw [← HT.out]; unfold numP; rw [Ht.out])
    clear ht
    go_enter Tryz.func102, Tryz.ntmps102
    go_wp2_with fail
    refine KT.out.mono ?_
    rintro e w3 ⟨rfl, hm3, hk3⟩
    have M3 := Lib.hid hm3
    have K3 := Lib.hid hk3
    clear hm3 hk3
    go_wp2_with fail
    go_ret
    rw [HE.out]
    exact ⟨rfl, M3.out.below (below1 _ _), K3.out.fresh ((below1 _ _).mono K3.out.size)⟩
  | some x =>
    have ha := take_at ht
    have hxl := hbig x ha.2.2.2.2.1
    have hE : T = match numOf x.2.1 with
      | none => (false, failP s2 x 4)
      | some n => (true, putTries n s2) := by rw [← HT.out]; unfold numP; rw [Ht.out]
    clear ha ht HT Ht hbig
    obtain ⟨kd, tx, ln, cl⟩ := x
    simp only at hxl hE
    have KA := Lib.hid (fun w hE => atoi_any tx w hxl hE)
    have HE := Lib.hid hE
    clear hE
    go_enter Tryz.func102, Tryz.ntmps102
    go_wp2_with fail
    refine KT.out.mono ?_
    rintro e w3 ⟨rfl, hm3, hk3⟩
    have M3 := Lib.hid hm3
    have K3 := Lib.hid hk3
    clear hm3 hk3 KT
    go_wp2_with fail
    have Q4 : Hid (Blk (w3.alloc (.cells #[.int .i64 kd, strV tx, .int .i64 (ln : Int), .int .i64 (cl : Int)] 83)) w3.heap.size #[.int .i64 kd, strV tx, .int .i64 (ln : Int), .int .i64 (cl : Int)] 83) := Lib.hid (Blk.new _ _ _)
    have M4 := Lib.hid (M3.out.below (below1 w3 (.cells #[.int .i64 kd, strV tx, .int .i64 (ln : Int), .int .i64 (cl : Int)] 83)))
    have K4 := Lib.hid (K3.out.fresh ((below1 w3 (.cells #[.int .i64 kd, strV tx, .int .i64 (ln : Int), .int .i64 (cl : Int)] 83)).mono K3.out.size))
    have E4 := HE0.out.below (HW.out.trans (K4.out.below hg (Nat.le_of_lt hgl)))
    refine (KA.out _ E4).mono ?_
    rintro e w5 ⟨he5, hb⟩
    have HV := Lib.hid he5
    have Q5 := Lib.hid (Blk.below Q4.out hb (Blk.lt Q4.out))
    have M5 := Lib.hid (M4.out.below hb)
    have K5 := Lib.hid (K4.out.fresh (hb.mono K4.out.size))
    clear hb KA Q4 M4 K4 M3 K3 E4 he5
    have c0 : w5.cell? ⟨w3.heap.size, 0, none⟩ = some (.int .i64 kd) := Blk.cell Q5.out 0
    have c1' : w5.cell? ⟨w3.heap.size, 1, none⟩ = some (strV tx) := Blk.cell Q5.out 1
    have c2' : w5.cell? ⟨w3.heap.size, 2, none⟩ = some (.int .i64 (ln : Int)) := Blk.cell Q5.out 2
    have c3' : w5.cell? ⟨w3.heap.size, 3, none⟩ = some (.int .i64 (cl : Int)) := Blk.cell Q5.out 3
    have HNO : Hid ((∀ n, Lib.atoiAll tx ≠ .ok n) → T = (false, failP s2 (kd, tx, ln, cl) 4)) := Lib.hid (fun h => by
      rw [HE.out]
      unfold numOf
      rcases hq : Lib.atoiAll tx with n | _ | _
      · exact absurd hq (h n)
      · rfl
      · rfl)
    have hno : (∀ n, Lib.atoiAll tx ≠ .ok n) → ∃ N n, e = .returned (.tuple #[.int .i64 n, .iface 171 (.pointer (some ⟨N, 0, none⟩))]) := by
      intro h
      have := HV.out
      rcases hq : Lib.atoiAll tx with n | _ | _
      · exact absurd hq (h n)
      · rw [hq] at this; exact this
      · rw [hq] at this; exact this
    by_cases hok : ∃ n, Lib.atoiAll tx = .ok n
    · obtain ⟨n, hn⟩ := hok
      have he : e = .returned (.tuple #[.int .i64 n, .nilIface]) := by
        have := HV.out
        rw [hn] at this
        exact this
      have hE2 : T = match (if tx.length ≤ 9 ∧ Lib.itoa n = tx then some n else none) with
        | none => (false, failP s2 (kd, tx, ln, cl) 4)
        | some n => (true, putTries n s2) := by rw [HE.out]; unfold numOf; rw [hn]
      have hbd := Lib.atoiAll_bounds hn
      clear hno HNO HV HE hn
      subst he
      by_cases h9 : tx.length ≤ 9
      · have h9i : ¬ (9 : Int) < (tx.length : Int) := by omega
        have h9d : decide ((9 : Int) < (tx.length : Int)) = false := decide_eq_false h9i
        have KI := Lib.hid (fun w ht => itoa_all n w hbd.1 hbd.2 ht)
        generalize hit : Lib.itoa n = it at KI hE2
        clear hit hbd
        have E5 := Lib.hid (HE0.out.below (HW.out.trans (K5.out.below hg (Nat.le_of_lt hgl))))
        have q1 : Hid (∀ nn, w5.cell? ⟨w3.heap.size, 1, none⟩ = some (strV tx) → (w5.drewN nn).cell? ⟨w3.heap.size, 1, none⟩ = some (strV tx)) := Lib.hid (fun _ h => h)
        by_cases hq : it = tx
        · subst hq
          rw [if_pos ⟨h9, rfl⟩] at hE2
          have HZ := Lib.hid hE2
          go_wp2_with fail
          go_region_held3 (fun w' => w'.cell? ⟨w3.heap.size, 1, none⟩ = some (strV it))
            (first | exact c1' | exact S7 | go_keep)
            (first
              | (go_at_call 53; refine (KI.out _ (E5.out.tab.below ((Below.refl _ _).drew))).mono ?_; rintro e w7 ⟨rfl, hb7⟩; have S7 := Blk.cell (Blk.below (show Blk w5.drew _ _ _ from Q5.out) hb7 (Blk.lt Q5.out)) 1; have HB7 := Lib.hid hb7; clear hb7)
              | skip)
          change Exit.then _ _ _ _ w7
          have B57 := (Below.refl w5.heap.size w5).drew.trans HB7.out
          have Q7 := Lib.hid (Blk.below Q5.out B57 (Blk.lt Q5.out))
          have M7 := Lib.hid (M5.out.below B57)
          have K7 := Lib.hid (K5.out.fresh (B57.mono K5.out.size))
          clear B57 HB7 Q5 M5 K5 E5 KI c0 c1' c2' c3' S7 q1
          have c0 : w7.cell? ⟨w3.heap.size, 0, none⟩ = some (.int .i64 kd) := Blk.cell Q7.out 0
          have c1' : w7.cell? ⟨w3.heap.size, 1, none⟩ = some (strV it) := Blk.cell Q7.out 1
          have c2' : w7.cell? ⟨w3.heap.size, 2, none⟩ = some (.int .i64 (ln : Int)) := Blk.cell Q7.out 2
          have c3' : w7.cell? ⟨w3.heap.size, 3, none⟩ = some (.int .i64 (cl : Int)) := Blk.cell Q7.out 3
          have d10 : w7.cell? ⟨g, 10, none⟩ = some (.int .i64 s2.goal.tr) := Blk.cell M7.out.blk 10
          have f10 : w7.frozen? ⟨g, 10, none⟩ = false := Blk.free M7.out.blk 10
          clear hE2 KF
          go_wp2_with fail
          go_ret
          rw [HZ.out]
          refine ⟨rfl, M7.out.keep ((KeepR.refl g w7).setCell 10 (.int .i64 n)) ?_ rfl rfl rfl M7.out.le, K7.out.setCell 10 (.int .i64 n)⟩
          exact Blk.set M7.out.blk 10 (.int .i64 n)
        · rw [if_neg (by simp [hq])] at hE2
          have HZ := Lib.hid hE2
          have e1 : decide (it = tx) = false := by simpa using hq
          have e2 : (it == tx) = false := by simpa using hq
          go_wp2_with fail
          go_region_held3 (fun w' => w'.cell? ⟨w3.heap.size, 1, none⟩ = some (strV tx))
            (first | exact c1' | exact S7 | go_keep)
            (first
              | (go_at_call 53; refine (KI.out _ (E5.out.tab.below ((Below.refl _ _).drew))).mono ?_; rintro e w7 ⟨rfl, hb7⟩; have S7 := Blk.cell (Blk.below (show Blk w5.drew _ _ _ from Q5.out) hb7 (Blk.lt Q5.out)) 1; have HB7 := Lib.hid hb7; clear hb7)
              | skip)
          change Exit.then _ _ _ _ w7
          have B57 := (Below.refl w5.heap.size w5).drew.trans HB7.out
          have Q7 := Lib.hid (Blk.below Q5.out B57 (Blk.lt Q5.out))
          have M7 := Lib.hid (M5.out.below B57)
          have K7 := Lib.hid (K5.out.fresh (B57.mono K5.out.size))
          clear B57 HB7 Q5 M5 K5 E5 KI c0 c1' c2' c3' S7 q1
          have c0 : w7.cell? ⟨w3.heap.size, 0, none⟩ = some (.int .i64 kd) := Blk.cell Q7.out 0
          have c1' : w7.cell? ⟨w3.heap.size, 1, none⟩ = some (strV tx) := Blk.cell Q7.out 1
          have c2' : w7.cell? ⟨w3.heap.size, 2, none⟩ = some (.int .i64 (ln : Int)) := Blk.cell Q7.out 2
          have c3' : w7.cell? ⟨w3.heap.size, 3, none⟩ = some (.int .i64 (cl : Int)) := Blk.cell Q7.out 3
          have KF1 := Lib.hid (KF.out s2 (kd, tx, ln, cl) 4 w7 M7.out)
          have K5 := K7
          clear hE2 hq KF
          go_wp2_with fail
          refine KF1.out.mono ?_
          rintro e w6 ⟨rfl, hm6, hk6⟩
          have M6 := Lib.hid hm6
          have K6 := Lib.hid (K5.out.trans hk6)
          clear hm6 hk6
          go_wp2_with fail
          go_ret
          rw [HZ.out]
          exact ⟨rfl, M6.out, K6.out⟩
      · have h9i : (9 : Int) < (tx.length : Int) := by omega
        rw [if_neg (by simp [h9])] at hE2
        have HZ := Lib.hid hE2
        have KF1 := Lib.hid (fun nn => KF.out s2 (kd, tx, ln, cl) 4 (w5.drewN nn) (M5.out.below (below_drewN _ _ _)))
        have K5' := Lib.hid (fun nn => K5.out.fresh (below_drewN _ w5 nn))
        clear hE2 KF hbd
        go_wp2_with fail
        go_quiet (fail)
        go_wp2_with fail
        refine (KF1.out _).mono ?_
        rintro e w6 ⟨rfl, hm6, hk6⟩
        have M6 := Lib.hid hm6
        have K6 := Lib.hid ((K5'.out _).trans hk6)
        clear hm6 hk6
        go_wp2_with fail
        go_ret
        rw [HZ.out]
        exact ⟨rfl, M6.out, K6.out⟩
    · obtain ⟨N, n, he⟩ := hno (fun n h => hok ⟨n, h⟩)
      have HZ := Lib.hid (HNO.out (fun n h => hok ⟨n, h⟩))
      clear hno HNO HV HE hok
      subst he
      have KF1 := Lib.hid (fun nn => KF.out s2 (kd, tx, ln, cl) 4 (w5.drewN nn) (M5.out.below (below_drewN _ _ _)))
      have K5' := Lib.hid (fun nn => K5.out.fresh (below_drewN _ w5 nn))
      go_wp2_with fail
      go_quiet (fail)
      go_wp2_with fail
      refine (KF1.out _).mono ?_
      rintro e w6 ⟨rfl, hm6, hk6⟩
      have M6 := Lib.hid hm6
      have K6 := Lib.hid ((K5'.out _).trans hk6)
      clear hm6 hk6
      go_wp2_with fail
      go_ret
      rw [HZ.out]
      exact ⟨rfl, M6.out, K6.out⟩

theorem tries_any (W0 : World) (g : Nat) (A1 : Option Addr) (c1 : Nat) (A2 : Option Addr) (c2 : Nat) (A3 : Option Addr) (c3 : Nat) (s : PR) (w : World) (he : Env W0) (hw : Below W0.heap.size W0 w) (hg : W0.heap.size ≤ g) (hm : RdM w g A1 c1 A2 c2 A3 c3 s) (h1 : 1 ≤ s.at_) (hbig : ∀ x ∈ s.line, x.2.1.length ≤ 100000) :
    Calls Tryz.prog 68 #[.pointer (some ⟨g, 0, none⟩)] w fun e w' => e = .returned (.bool (numP putTries s).1) ∧ RdM w' g A1 c1 A2 c2 A3 c3 (numP putTries s).2 ∧ KeepR g w w' := by
  have K := Lib.hid (tries1_any W0 g A1 c1 A2 c2 A3 c3 s w he hw hg hm h1 hbig)
  clear hm he hw hg hbig
  generalize numP putTries s = T at K ⊢
  go_enter Tryz.func68, Tryz.ntmps68
  go_wp2_with fail
  refine K.out.mono ?_
  rintro e w3 ⟨rfl, hm3, hk3⟩
  have M3 := Lib.hid hm3
  have K3 := Lib.hid hk3
  clear hm3 hk3
  go_wp2
  go_ret
  exact ⟨rfl, M3.out, K3.out⟩

theorem rollback_any (g : Nat) (A1 : Option Addr) (c1 : Nat) (A2 : Option Addr) (c2 : Nat) (A3 : Option Addr) (c3 : Nat) (s : PR) (w : World) (hm : RdM w g A1 c1 A2 c2 A3 c3 s) :
    Calls Tryz.prog 69 #[.pointer (some ⟨g, 0, none⟩)] w fun e w' => e = .returned (.bool (rollP s).1) ∧ RdM w' g A1 c1 A2 c2 A3 c3 (rollP s).2 ∧ KeepR g w w' := by
  have M := Lib.hid hm
  have d11 : w.cell? ⟨g, 11, none⟩ = some (.bool s.goal.rb) := Blk.cell hm.blk 11
  have f11 : w.frozen? ⟨g, 11, none⟩ = false := Blk.free hm.blk 11
  clear hm
  go_enter Tryz.func69, Tryz.ntmps69
  go_wp2
  go_ret
  refine ⟨rfl, M.out.keep ((KeepR.refl g w).setCell 11 (.bool true)) ?_ rfl rfl rfl M.out.le, (KeepR.refl g w).setCell 11 (.bool true)⟩
  exact Blk.set M.out.blk 11 (.bool true)
end Go.Proofs.YthbplchbolghjaaGreatDoor
