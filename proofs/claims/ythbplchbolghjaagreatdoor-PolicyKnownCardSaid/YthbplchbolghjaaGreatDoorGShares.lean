/- Two shares, as the next words. Condition: the words lie in memory. -/
import Derived.Test.YthbplchbolghjaaGreatDoorGBegin
namespace Go.Proofs.YthbplchbolghjaaGreatDoor
open Go.RowKit

def putLow (i : Nat) (n : Int) (s : PR) : PR := if i = 0 then { s with goal := { s.goal with l0 := n } } else { s with goal := { s.goal with l1 := n } }
def putHigh (i : Nat) (n : Int) (s : PR) : PR := if i = 0 then { s with goal := { s.goal with h0 := n } } else { s with goal := { s.goal with h1 := n } }
/-- A share, as the next word. -/
def shareP (put : Nat → Int → PR → PR) (i : Nat) (s : PR) : Bool × PR := match takeP s 2 with
  | (none, s') => (false, s')
  | (some x, s') => if (Qu.percentL ⟨x.2.1.toArray⟩).2.2 = 0 then (true, put i (Qu.percentL ⟨x.2.1.toArray⟩).1 s') else (false, failP s' x (Qu.percentL ⟨x.2.1.toArray⟩).2.2)
/-- So many of them. -/
def sharesK (put : Nat → Int → PR → PR) (s : PR) : Nat → Bool × PR
  | 0 => (true, s)
  | k + 1 => match sharesK put s k with
    | (false, s') => (false, s')
    | (true, s') => shareP put k s'
def sharesP (put : Nat → Int → PR → PR) (s : PR) : Bool × PR := sharesK put s 2
theorem take_at {s s' : PR} {kind : Int} {x : Sc.W4} (h : takeP s kind = (some x, s')) : s'.at_ = s.at_ + 1 ∧ s'.line = s.line ∧ s'.rest = s.rest ∧ s'.goal = s.goal ∧ x ∈ s.line ∧ x.1 = kind := by
  unfold takeP at h
  cases hx : s.line[s.at_]? with
  | none => rw [hx] at h; cases h
  | some y =>
    rw [hx] at h
    simp only at h
    split at h
    · next he =>
      cases h
      exact ⟨rfl, rfl, rfl, rfl, List.mem_of_getElem? hx, he⟩
    · cases h

theorem sharesLow_at (i : Nat) (n : Int) (s : PR) : (putLow i n s).at_ = s.at_ ∧ (putLow i n s).line = s.line ∧ (putLow i n s).rest = s.rest ∧ (putLow i n s).goal.drain = s.goal.drain := by
  unfold putLow
  split <;> exact ⟨rfl, rfl, rfl, rfl⟩
set_option maxRecDepth 100000 in
set_option maxHeartbeats 2000000 in
theorem sharesLow_any (g : Nat) (A1 : Option Addr) (c1 : Nat) (A2 : Option Addr) (c2 : Nat) (A3 : Option Addr) (c3 : Nat) (s : PR) (w : World) (hm : RdM w g A1 c1 A2 c2 A3 c3 s) (h1 : 1 ≤ s.at_) :
    Calls Tryz.prog 99 #[.pointer (some ⟨g, 0, none⟩), .pointer (some ⟨g, 3, none⟩)] w fun e w' => e = .returned (.bool (sharesP putLow s).1) ∧ RdM w' g A1 c1 A2 c2 A3 c3 (sharesP putLow s).2 ∧ KeepR g w w' := by
  have KT := Lib.hid (fun s w hm h1 => gtake_any g A1 c1 A2 c2 A3 c3 s 2 w hm h1)
  have KF := Lib.hid (fun s x er w hm => gfail_any g A1 c1 A2 c2 A3 c3 s x er w hm)
  have HM := Lib.hid hm
  have hgl := Blk.lt hm.blk
  obtain ⟨T, hT⟩ : ∃ T, sharesP putLow s = T := ⟨_, rfl⟩
  have HT := Lib.hid hT
  rw [hT]
  clear hT hm
  go_enter Tryz.func99, Tryz.ntmps99
  go_wp2_with fail
  go_loopw [11] (fun i wr => ∃ (k : Nat) (s' : PR), k ≤ 2 ∧ i = .int .i64 k ∧ sharesK putLow s k = (true, s') ∧ 1 ≤ s'.at_ ∧ RdM wr g A1 c1 A2 c2 A3 c3 s' ∧ KeepR g w wr) (fun i _ => 2 - (intOf i).toNat)
  case atStart => exact ⟨0, s, by omega, rfl, rfl, h1, HM.out, KeepR.refl _ _⟩
  case round =>
    obtain ⟨k, s', hk, rfl, hp, h1', hm', hk'⟩ := hrel
    have Hp := Lib.hid hp
    have HM' := Lib.hid hm'
    have HK' := Lib.hid hk'
    have hgr := Blk.lt hm'.blk
    clear hp hm' hk' h1
    rcases k with _ | _ | _ | k
    · have HS : Hid (sharesK putLow s 1 = shareP putLow 0 s') := Lib.hid (by rw [sharesK, Hp.out])
      have HN : Hid (∀ z, shareP putLow 0 s' = (false, z) → T = (false, z)) := Lib.hid (fun z hz => by rw [← HT.out]; unfold sharesP; rw [sharesK, HS.out, hz])
      cases ht : takeP s' 2 with
      | mk ox s2 =>
      have KT1 := KT.out s' wr HM'.out h1'
      rw [ht] at KT1
      have HT1 := Lib.hid KT1
      have Ht := Lib.hid ht
      clear KT1 KT ht
      cases ox with
      | none =>
        have HE := Lib.hid (HN.out s2 (by unfold shareP; rw [Ht.out]))
        go_wp2_with fail
        refine HT1.out.mono ?_
        rintro e w3 ⟨rfl, hm3, hk3⟩
        have M3 := Lib.hid hm3
        have K3 := Lib.hid (HK'.out.trans hk3)
        clear hm3 hk3
        go_wp2_with fail
        go_ret
        rw [HE.out]
        exact ⟨rfl, M3.out.below (below1 _ _), K3.out.fresh ((below1 _ _).mono K3.out.size)⟩
      | some x =>
        have ha := take_at Ht.out
        have ha1 : s2.at_ = s'.at_ + 1 := ha.1
        have HL : Hid (s2.line = s'.line ∧ s2.rest = s'.rest ∧ s2.goal = s'.goal) := Lib.hid ⟨ha.2.1, ha.2.2.1, ha.2.2.2.1⟩
        clear ha
        have hE : shareP putLow 0 s' = if (Qu.percentL ⟨x.2.1.toArray⟩).2.2 = 0 then (true, putLow 0 (Qu.percentL ⟨x.2.1.toArray⟩).1 s2) else (false, failP s2 x (Qu.percentL ⟨x.2.1.toArray⟩).2.2) := by unfold shareP; rw [Ht.out]
        have KP := Lib.hid (fun w => Qu.percent_any ⟨x.2.1.toArray⟩ w)
        obtain ⟨kd, tx, ln, cl⟩ := x
        simp only at KP hE
        generalize Qu.percentL ⟨tx.toArray⟩ = p at KP hE
        obtain ⟨p1, p2, p3⟩ := p
        simp only at KP hE
        have HE := Lib.hid hE
        clear hE
        go_wp2_with fail
        refine HT1.out.mono ?_
        rintro e w3 ⟨rfl, hm3, hk3⟩
        have M3 := Lib.hid hm3
        have K3 := Lib.hid (HK'.out.trans hk3)
        clear hm3 hk3 HT1
        go_wp2_with fail
        have Q4 : Hid (Blk (w3.alloc (.cells #[.int .i64 kd, strV tx, .int .i64 (ln : Int), .int .i64 (cl : Int)] 83)) w3.heap.size #[.int .i64 kd, strV tx, .int .i64 (ln : Int), .int .i64 (cl : Int)] 83) := Lib.hid (Blk.new _ _ _)
        have M4 := Lib.hid (M3.out.below (below1 w3 (.cells #[.int .i64 kd, strV tx, .int .i64 (ln : Int), .int .i64 (cl : Int)] 83)))
        have K4 := Lib.hid (K3.out.fresh ((below1 w3 (.cells #[.int .i64 kd, strV tx, .int .i64 (ln : Int), .int .i64 (cl : Int)] 83)).mono K3.out.size))
        refine (KP.out _).mono ?_
        rintro e w5 ⟨rfl, hb⟩
        have Q5 := Lib.hid (Blk.below Q4.out hb (Blk.lt Q4.out))
        have M5 := Lib.hid (M4.out.below hb)
        have K5 := Lib.hid (K4.out.fresh (hb.mono K4.out.size))
        clear hb KP Q4 M4 K4 M3 K3
        have c0 : w5.cell? ⟨w3.heap.size, 0, none⟩ = some (.int .i64 kd) := Blk.cell Q5.out 0
        have c1' : w5.cell? ⟨w3.heap.size, 1, none⟩ = some (strV tx) := Blk.cell Q5.out 1
        have c2' : w5.cell? ⟨w3.heap.size, 2, none⟩ = some (.int .i64 (ln : Int)) := Blk.cell Q5.out 2
        have c3' : w5.cell? ⟨w3.heap.size, 3, none⟩ = some (.int .i64 (cl : Int)) := Blk.cell Q5.out 3
        by_cases hz : p3 = 0
        · subst hz
          have d3 : w5.cell? ⟨g, 3, none⟩ = some (.int .i64 s2.goal.l0) := Blk.cell M5.out.blk 3
          have f3 : w5.frozen? ⟨g, 3, none⟩ = false := Blk.free M5.out.blk 3
          go_wp2_with fail
          go_roundw
          case rel =>
            have hat := sharesLow_at 0 p1 s2
            refine ⟨1, putLow 0 p1 s2, by omega, by go_num, by rw [HS.out, HE.out]; simp, by rw [hat.1]; omega, M5.out.keep ((KeepR.refl g w5).setCell 3 (.int .i64 p1)) ?_ hat.2.1 hat.2.2.1 hat.2.2.2 (by rw [hat.1]; exact M5.out.le), K5.out.setCell 3 (.int .i64 p1)⟩
            exact Blk.set M5.out.blk 3 (.int .i64 p1)
          case measure => simp [intOf]
        · have HZ := Lib.hid (HN.out _ (by rw [HE.out, if_neg hz]))
          have e1 : decide (p3 = 0) = false := by simpa using hz
          have e2 : (p3 == 0) = false := by simpa using hz
          have KF1 := Lib.hid (KF.out s2 (kd, tx, ln, cl) p3 w5 M5.out)
          clear KF hz
          go_wp2_with fail
          refine KF1.out.mono ?_
          rintro e w6 ⟨rfl, hm6, hk6⟩
          have M6 := Lib.hid hm6
          have K6 := Lib.hid (K5.out.trans hk6)
          clear hm6 hk6
          go_wp2_with fail
          go_ret
          rw [HZ.out]
          exact ⟨rfl, M6.out, K6.out⟩
    · have HS : Hid (sharesK putLow s 2 = shareP putLow 1 s') := Lib.hid (by rw [sharesK, Hp.out])
      have HN : Hid (∀ z, shareP putLow 1 s' = (false, z) → T = (false, z)) := Lib.hid (fun z hz => by rw [← HT.out]; unfold sharesP; rw [HS.out, hz])
      cases ht : takeP s' 2 with
      | mk ox s2 =>
      have KT1 := KT.out s' wr HM'.out h1'
      rw [ht] at KT1
      have HT1 := Lib.hid KT1
      have Ht := Lib.hid ht
      clear KT1 KT ht
      cases ox with
      | none =>
        have HE := Lib.hid (HN.out s2 (by unfold shareP; rw [Ht.out]))
        go_wp2_with fail
        refine HT1.out.mono ?_
        rintro e w3 ⟨rfl, hm3, hk3⟩
        have M3 := Lib.hid hm3
        have K3 := Lib.hid (HK'.out.trans hk3)
        clear hm3 hk3
        go_wp2_with fail
        go_ret
        rw [HE.out]
        exact ⟨rfl, M3.out.below (below1 _ _), K3.out.fresh ((below1 _ _).mono K3.out.size)⟩
      | some x =>
        have ha := take_at Ht.out
        have ha1 : s2.at_ = s'.at_ + 1 := ha.1
        have HL : Hid (s2.line = s'.line ∧ s2.rest = s'.rest ∧ s2.goal = s'.goal) := Lib.hid ⟨ha.2.1, ha.2.2.1, ha.2.2.2.1⟩
        clear ha
        have hE : shareP putLow 1 s' = if (Qu.percentL ⟨x.2.1.toArray⟩).2.2 = 0 then (true, putLow 1 (Qu.percentL ⟨x.2.1.toArray⟩).1 s2) else (false, failP s2 x (Qu.percentL ⟨x.2.1.toArray⟩).2.2) := by unfold shareP; rw [Ht.out]
        have KP := Lib.hid (fun w => Qu.percent_any ⟨x.2.1.toArray⟩ w)
        obtain ⟨kd, tx, ln, cl⟩ := x
        simp only at KP hE
        generalize Qu.percentL ⟨tx.toArray⟩ = p at KP hE
        obtain ⟨p1, p2, p3⟩ := p
        simp only at KP hE
        have HE := Lib.hid hE
        clear hE
        go_wp2_with fail
        refine HT1.out.mono ?_
        rintro e w3 ⟨rfl, hm3, hk3⟩
        have M3 := Lib.hid hm3
        have K3 := Lib.hid (HK'.out.trans hk3)
        clear hm3 hk3 HT1
        go_wp2_with fail
        have Q4 : Hid (Blk (w3.alloc (.cells #[.int .i64 kd, strV tx, .int .i64 (ln : Int), .int .i64 (cl : Int)] 83)) w3.heap.size #[.int .i64 kd, strV tx, .int .i64 (ln : Int), .int .i64 (cl : Int)] 83) := Lib.hid (Blk.new _ _ _)
        have M4 := Lib.hid (M3.out.below (below1 w3 (.cells #[.int .i64 kd, strV tx, .int .i64 (ln : Int), .int .i64 (cl : Int)] 83)))
        have K4 := Lib.hid (K3.out.fresh ((below1 w3 (.cells #[.int .i64 kd, strV tx, .int .i64 (ln : Int), .int .i64 (cl : Int)] 83)).mono K3.out.size))
        refine (KP.out _).mono ?_
        rintro e w5 ⟨rfl, hb⟩
        have Q5 := Lib.hid (Blk.below Q4.out hb (Blk.lt Q4.out))
        have M5 := Lib.hid (M4.out.below hb)
        have K5 := Lib.hid (K4.out.fresh (hb.mono K4.out.size))
        clear hb KP Q4 M4 K4 M3 K3
        have c0 : w5.cell? ⟨w3.heap.size, 0, none⟩ = some (.int .i64 kd) := Blk.cell Q5.out 0
        have c1' : w5.cell? ⟨w3.heap.size, 1, none⟩ = some (strV tx) := Blk.cell Q5.out 1
        have c2' : w5.cell? ⟨w3.heap.size, 2, none⟩ = some (.int .i64 (ln : Int)) := Blk.cell Q5.out 2
        have c3' : w5.cell? ⟨w3.heap.size, 3, none⟩ = some (.int .i64 (cl : Int)) := Blk.cell Q5.out 3
        by_cases hz : p3 = 0
        · subst hz
          have d4 : w5.cell? ⟨g, 4, none⟩ = some (.int .i64 s2.goal.l1) := Blk.cell M5.out.blk 4
          have f4 : w5.frozen? ⟨g, 4, none⟩ = false := Blk.free M5.out.blk 4
          go_wp2_with fail
          go_roundw
          case rel =>
            have hat := sharesLow_at 1 p1 s2
            refine ⟨2, putLow 1 p1 s2, by omega, by go_num, by rw [HS.out, HE.out]; simp, by rw [hat.1]; omega, M5.out.keep ((KeepR.refl g w5).setCell 4 (.int .i64 p1)) ?_ hat.2.1 hat.2.2.1 hat.2.2.2 (by rw [hat.1]; exact M5.out.le), K5.out.setCell 4 (.int .i64 p1)⟩
            exact Blk.set M5.out.blk 4 (.int .i64 p1)
          case measure => simp [intOf]
        · have HZ := Lib.hid (HN.out _ (by rw [HE.out, if_neg hz]))
          have e1 : decide (p3 = 0) = false := by simpa using hz
          have e2 : (p3 == 0) = false := by simpa using hz
          have KF1 := Lib.hid (KF.out s2 (kd, tx, ln, cl) p3 w5 M5.out)
          clear KF hz
          go_wp2_with fail
          refine KF1.out.mono ?_
          rintro e w6 ⟨rfl, hm6, hk6⟩
          have M6 := Lib.hid hm6
          have K6 := Lib.hid (K5.out.trans hk6)
          clear hm6 hk6
          go_wp2_with fail
          go_ret
          rw [HZ.out]
          exact ⟨rfl, M6.out, K6.out⟩
    · have HE : Hid (T = (true, s')) := Lib.hid (by rw [← HT.out]; exact Hp.out)
      go_wp2
      go_ret
      rw [HE.out]
      exact ⟨rfl, HM'.out, HK'.out⟩
    · omega

theorem low_any (g : Nat) (A1 : Option Addr) (c1 : Nat) (A2 : Option Addr) (c2 : Nat) (A3 : Option Addr) (c3 : Nat) (s : PR) (w : World) (hm : RdM w g A1 c1 A2 c2 A3 c3 s) (h1 : 1 ≤ s.at_) :
    Calls Tryz.prog 63 #[.pointer (some ⟨g, 0, none⟩)] w fun e w' => e = .returned (.bool (sharesP putLow s).1) ∧ RdM w' g A1 c1 A2 c2 A3 c3 (sharesP putLow s).2 ∧ KeepR g w w' := by
  have K := Lib.hid (sharesLow_any g A1 c1 A2 c2 A3 c3 s w hm h1)
  clear hm
  generalize sharesP putLow s = T at K ⊢
  go_enter Tryz.func63, Tryz.ntmps63
  go_wp2_with fail
  refine K.out.mono ?_
  rintro e w3 ⟨rfl, hm3, hk3⟩
  have M3 := Lib.hid hm3
  have K3 := Lib.hid hk3
  clear hm3 hk3
  go_wp2
  go_ret
  exact ⟨rfl, M3.out, K3.out⟩

theorem sharesHigh_at (i : Nat) (n : Int) (s : PR) : (putHigh i n s).at_ = s.at_ ∧ (putHigh i n s).line = s.line ∧ (putHigh i n s).rest = s.rest ∧ (putHigh i n s).goal.drain = s.goal.drain := by
  unfold putHigh
  split <;> exact ⟨rfl, rfl, rfl, rfl⟩
set_option maxRecDepth 100000 in
set_option maxHeartbeats 2000000 in
theorem sharesHigh_any (g : Nat) (A1 : Option Addr) (c1 : Nat) (A2 : Option Addr) (c2 : Nat) (A3 : Option Addr) (c3 : Nat) (s : PR) (w : World) (hm : RdM w g A1 c1 A2 c2 A3 c3 s) (h1 : 1 ≤ s.at_) :
    Calls Tryz.prog 99 #[.pointer (some ⟨g, 0, none⟩), .pointer (some ⟨g, 5, none⟩)] w fun e w' => e = .returned (.bool (sharesP putHigh s).1) ∧ RdM w' g A1 c1 A2 c2 A3 c3 (sharesP putHigh s).2 ∧ KeepR g w w' := by
  have KT := Lib.hid (fun s w hm h1 => gtake_any g A1 c1 A2 c2 A3 c3 s 2 w hm h1)
  have KF := Lib.hid (fun s x er w hm => gfail_any g A1 c1 A2 c2 A3 c3 s x er w hm)
  have HM := Lib.hid hm
  have hgl := Blk.lt hm.blk
  obtain ⟨T, hT⟩ : ∃ T, sharesP putHigh s = T := ⟨_, rfl⟩
  have HT := Lib.hid hT
  rw [hT]
  clear hT hm
  go_enter Tryz.func99, Tryz.ntmps99
  go_wp2_with fail
  go_loopw [11] (fun i wr => ∃ (k : Nat) (s' : PR), k ≤ 2 ∧ i = .int .i64 k ∧ sharesK putHigh s k = (true, s') ∧ 1 ≤ s'.at_ ∧ RdM wr g A1 c1 A2 c2 A3 c3 s' ∧ KeepR g w wr) (fun i _ => 2 - (intOf i).toNat)
  case atStart => exact ⟨0, s, by omega, rfl, rfl, h1, HM.out, KeepR.refl _ _⟩
  case round =>
    obtain ⟨k, s', hk, rfl, hp, h1', hm', hk'⟩ := hrel
    have Hp := Lib.hid hp
    have HM' := Lib.hid hm'
    have HK' := Lib.hid hk'
    have hgr := Blk.lt hm'.blk
    clear hp hm' hk' h1
    rcases k with _ | _ | _ | k
    · have HS : Hid (sharesK putHigh s 1 = shareP putHigh 0 s') := Lib.hid (by rw [sharesK, Hp.out])
      have HN : Hid (∀ z, shareP putHigh 0 s' = (false, z) → T = (false, z)) := Lib.hid (fun z hz => by rw [← HT.out]; unfold sharesP; rw [sharesK, HS.out, hz])
      cases ht : takeP s' 2 with
      | mk ox s2 =>
      have KT1 := KT.out s' wr HM'.out h1'
      rw [ht] at KT1
      have HT1 := Lib.hid KT1
      have Ht := Lib.hid ht
      clear KT1 KT ht
      cases ox with
      | none =>
        have HE := Lib.hid (HN.out s2 (by unfold shareP; rw [Ht.out]))
        go_wp2_with fail
        refine HT1.out.mono ?_
        rintro e w3 ⟨rfl, hm3, hk3⟩
        have M3 := Lib.hid hm3
        have K3 := Lib.hid (HK'.out.trans hk3)
        clear hm3 hk3
        go_wp2_with fail
        go_ret
        rw [HE.out]
        exact ⟨rfl, M3.out.below (below1 _ _), K3.out.fresh ((below1 _ _).mono K3.out.size)⟩
      | some x =>
        have ha := take_at Ht.out
        have ha1 : s2.at_ = s'.at_ + 1 := ha.1
        have HL : Hid (s2.line = s'.line ∧ s2.rest = s'.rest ∧ s2.goal = s'.goal) := Lib.hid ⟨ha.2.1, ha.2.2.1, ha.2.2.2.1⟩
        clear ha
        have hE : shareP putHigh 0 s' = if (Qu.percentL ⟨x.2.1.toArray⟩).2.2 = 0 then (true, putHigh 0 (Qu.percentL ⟨x.2.1.toArray⟩).1 s2) else (false, failP s2 x (Qu.percentL ⟨x.2.1.toArray⟩).2.2) := by unfold shareP; rw [Ht.out]
        have KP := Lib.hid (fun w => Qu.percent_any ⟨x.2.1.toArray⟩ w)
        obtain ⟨kd, tx, ln, cl⟩ := x
        simp only at KP hE
        generalize Qu.percentL ⟨tx.toArray⟩ = p at KP hE
        obtain ⟨p1, p2, p3⟩ := p
        simp only at KP hE
        have HE := Lib.hid hE
        clear hE
        go_wp2_with fail
        refine HT1.out.mono ?_
        rintro e w3 ⟨rfl, hm3, hk3⟩
        have M3 := Lib.hid hm3
        have K3 := Lib.hid (HK'.out.trans hk3)
        clear hm3 hk3 HT1
        go_wp2_with fail
        have Q4 : Hid (Blk (w3.alloc (.cells #[.int .i64 kd, strV tx, .int .i64 (ln : Int), .int .i64 (cl : Int)] 83)) w3.heap.size #[.int .i64 kd, strV tx, .int .i64 (ln : Int), .int .i64 (cl : Int)] 83) := Lib.hid (Blk.new _ _ _)
        have M4 := Lib.hid (M3.out.below (below1 w3 (.cells #[.int .i64 kd, strV tx, .int .i64 (ln : Int), .int .i64 (cl : Int)] 83)))
        have K4 := Lib.hid (K3.out.fresh ((below1 w3 (.cells #[.int .i64 kd, strV tx, .int .i64 (ln : Int), .int .i64 (cl : Int)] 83)).mono K3.out.size))
        refine (KP.out _).mono ?_
        rintro e w5 ⟨rfl, hb⟩
        have Q5 := Lib.hid (Blk.below Q4.out hb (Blk.lt Q4.out))
        have M5 := Lib.hid (M4.out.below hb)
        have K5 := Lib.hid (K4.out.fresh (hb.mono K4.out.size))
        clear hb KP Q4 M4 K4 M3 K3
        have c0 : w5.cell? ⟨w3.heap.size, 0, none⟩ = some (.int .i64 kd) := Blk.cell Q5.out 0
        have c1' : w5.cell? ⟨w3.heap.size, 1, none⟩ = some (strV tx) := Blk.cell Q5.out 1
        have c2' : w5.cell? ⟨w3.heap.size, 2, none⟩ = some (.int .i64 (ln : Int)) := Blk.cell Q5.out 2
        have c3' : w5.cell? ⟨w3.heap.size, 3, none⟩ = some (.int .i64 (cl : Int)) := Blk.cell Q5.out 3
        by_cases hz : p3 = 0
        · subst hz
          have d5 : w5.cell? ⟨g, 5, none⟩ = some (.int .i64 s2.goal.h0) := Blk.cell M5.out.blk 5
          have f5 : w5.frozen? ⟨g, 5, none⟩ = false := Blk.free M5.out.blk 5
          go_wp2_with fail
          go_roundw
          case rel =>
            have hat := sharesHigh_at 0 p1 s2
            refine ⟨1, putHigh 0 p1 s2, by omega, by go_num, by rw [HS.out, HE.out]; simp, by rw [hat.1]; omega, M5.out.keep ((KeepR.refl g w5).setCell 5 (.int .i64 p1)) ?_ hat.2.1 hat.2.2.1 hat.2.2.2 (by rw [hat.1]; exact M5.out.le), K5.out.setCell 5 (.int .i64 p1)⟩
            exact Blk.set M5.out.blk 5 (.int .i64 p1)
          case measure => simp [intOf]
        · have HZ := Lib.hid (HN.out _ (by rw [HE.out, if_neg hz]))
          have e1 : decide (p3 = 0) = false := by simpa using hz
          have e2 : (p3 == 0) = false := by simpa using hz
          have KF1 := Lib.hid (KF.out s2 (kd, tx, ln, cl) p3 w5 M5.out)
          clear KF hz
          go_wp2_with fail
          refine KF1.out.mono ?_
          rintro e w6 ⟨rfl, hm6, hk6⟩
          have M6 := Lib.hid hm6
          have K6 := Lib.hid (K5.out.trans hk6)
          clear hm6 hk6
          go_wp2_with fail
          go_ret
          rw [HZ.out]
          exact ⟨rfl, M6.out, K6.out⟩
    · have HS : Hid (sharesK putHigh s 2 = shareP putHigh 1 s') := Lib.hid (by rw [sharesK, Hp.out])
      have HN : Hid (∀ z, shareP putHigh 1 s' = (false, z) → T = (false, z)) := Lib.hid (fun z hz => by rw [← HT.out]; unfold sharesP; rw [HS.out, hz])
      cases ht : takeP s' 2 with
      | mk ox s2 =>
      have KT1 := KT.out s' wr HM'.out h1'
      rw [ht] at KT1
      have HT1 := Lib.hid KT1
      have Ht := Lib.hid ht
      clear KT1 KT ht
      cases ox with
      | none =>
        have HE := Lib.hid (HN.out s2 (by unfold shareP; rw [Ht.out]))
        go_wp2_with fail
        refine HT1.out.mono ?_
        rintro e w3 ⟨rfl, hm3, hk3⟩
        have M3 := Lib.hid hm3
        have K3 := Lib.hid (HK'.out.trans hk3)
        clear hm3 hk3
        go_wp2_with fail
        go_ret
        rw [HE.out]
        exact ⟨rfl, M3.out.below (below1 _ _), K3.out.fresh ((below1 _ _).mono K3.out.size)⟩
      | some x =>
        have ha := take_at Ht.out
        have ha1 : s2.at_ = s'.at_ + 1 := ha.1
        have HL : Hid (s2.line = s'.line ∧ s2.rest = s'.rest ∧ s2.goal = s'.goal) := Lib.hid ⟨ha.2.1, ha.2.2.1, ha.2.2.2.1⟩
        clear ha
        have hE : shareP putHigh 1 s' = if (Qu.percentL ⟨x.2.1.toArray⟩).2.2 = 0 then (true, putHigh 1 (Qu.percentL ⟨x.2.1.toArray⟩).1 s2) else (false, failP s2 x (Qu.percentL ⟨x.2.1.toArray⟩).2.2) := by unfold shareP; rw [Ht.out]
        have KP := Lib.hid (fun w => Qu.percent_any ⟨x.2.1.toArray⟩ w)
        obtain ⟨kd, tx, ln, cl⟩ := x
        simp only at KP hE
        generalize Qu.percentL ⟨tx.toArray⟩ = p at KP hE
        obtain ⟨p1, p2, p3⟩ := p
        simp only at KP hE
        have HE := Lib.hid hE
        clear hE
        go_wp2_with fail
        refine HT1.out.mono ?_
        rintro e w3 ⟨rfl, hm3, hk3⟩
        have M3 := Lib.hid hm3
        have K3 := Lib.hid (HK'.out.trans hk3)
        clear hm3 hk3 HT1
        go_wp2_with fail
        have Q4 : Hid (Blk (w3.alloc (.cells #[.int .i64 kd, strV tx, .int .i64 (ln : Int), .int .i64 (cl : Int)] 83)) w3.heap.size #[.int .i64 kd, strV tx, .int .i64 (ln : Int), .int .i64 (cl : Int)] 83) := Lib.hid (Blk.new _ _ _)
        have M4 := Lib.hid (M3.out.below (below1 w3 (.cells #[.int .i64 kd, strV tx, .int .i64 (ln : Int), .int .i64 (cl : Int)] 83)))
        have K4 := Lib.hid (K3.out.fresh ((below1 w3 (.cells #[.int .i64 kd, strV tx, .int .i64 (ln : Int), .int .i64 (cl : Int)] 83)).mono K3.out.size))
        refine (KP.out _).mono ?_
        rintro e w5 ⟨rfl, hb⟩
        have Q5 := Lib.hid (Blk.below Q4.out hb (Blk.lt Q4.out))
        have M5 := Lib.hid (M4.out.below hb)
        have K5 := Lib.hid (K4.out.fresh (hb.mono K4.out.size))
        clear hb KP Q4 M4 K4 M3 K3
        have c0 : w5.cell? ⟨w3.heap.size, 0, none⟩ = some (.int .i64 kd) := Blk.cell Q5.out 0
        have c1' : w5.cell? ⟨w3.heap.size, 1, none⟩ = some (strV tx) := Blk.cell Q5.out 1
        have c2' : w5.cell? ⟨w3.heap.size, 2, none⟩ = some (.int .i64 (ln : Int)) := Blk.cell Q5.out 2
        have c3' : w5.cell? ⟨w3.heap.size, 3, none⟩ = some (.int .i64 (cl : Int)) := Blk.cell Q5.out 3
        by_cases hz : p3 = 0
        · subst hz
          have d6 : w5.cell? ⟨g, 6, none⟩ = some (.int .i64 s2.goal.h1) := Blk.cell M5.out.blk 6
          have f6 : w5.frozen? ⟨g, 6, none⟩ = false := Blk.free M5.out.blk 6
          go_wp2_with fail
          go_roundw
          case rel =>
            have hat := sharesHigh_at 1 p1 s2
            refine ⟨2, putHigh 1 p1 s2, by omega, by go_num, by rw [HS.out, HE.out]; simp, by rw [hat.1]; omega, M5.out.keep ((KeepR.refl g w5).setCell 6 (.int .i64 p1)) ?_ hat.2.1 hat.2.2.1 hat.2.2.2 (by rw [hat.1]; exact M5.out.le), K5.out.setCell 6 (.int .i64 p1)⟩
            exact Blk.set M5.out.blk 6 (.int .i64 p1)
          case measure => simp [intOf]
        · have HZ := Lib.hid (HN.out _ (by rw [HE.out, if_neg hz]))
          have e1 : decide (p3 = 0) = false := by simpa using hz
          have e2 : (p3 == 0) = false := by simpa using hz
          have KF1 := Lib.hid (KF.out s2 (kd, tx, ln, cl) p3 w5 M5.out)
          clear KF hz
          go_wp2_with fail
          refine KF1.out.mono ?_
          rintro e w6 ⟨rfl, hm6, hk6⟩
          have M6 := Lib.hid hm6
          have K6 := Lib.hid (K5.out.trans hk6)
          clear hm6 hk6
          go_wp2_with fail
          go_ret
          rw [HZ.out]
          exact ⟨rfl, M6.out, K6.out⟩
    · have HE : Hid (T = (true, s')) := Lib.hid (by rw [← HT.out]; exact Hp.out)
      go_wp2
      go_ret
      rw [HE.out]
      exact ⟨rfl, HM'.out, HK'.out⟩
    · omega

theorem high_any (g : Nat) (A1 : Option Addr) (c1 : Nat) (A2 : Option Addr) (c2 : Nat) (A3 : Option Addr) (c3 : Nat) (s : PR) (w : World) (hm : RdM w g A1 c1 A2 c2 A3 c3 s) (h1 : 1 ≤ s.at_) :
    Calls Tryz.prog 64 #[.pointer (some ⟨g, 0, none⟩)] w fun e w' => e = .returned (.bool (sharesP putHigh s).1) ∧ RdM w' g A1 c1 A2 c2 A3 c3 (sharesP putHigh s).2 ∧ KeepR g w w' := by
  have K := Lib.hid (sharesHigh_any g A1 c1 A2 c2 A3 c3 s w hm h1)
  clear hm
  generalize sharesP putHigh s = T at K ⊢
  go_enter Tryz.func64, Tryz.ntmps64
  go_wp2_with fail
  refine K.out.mono ?_
  rintro e w3 ⟨rfl, hm3, hk3⟩
  have M3 := Lib.hid hm3
  have K3 := Lib.hid hk3
  clear hm3 hk3
  go_wp2
  go_ret
  exact ⟨rfl, M3.out, K3.out⟩
end Go.Proofs.YthbplchbolghjaaGreatDoor
