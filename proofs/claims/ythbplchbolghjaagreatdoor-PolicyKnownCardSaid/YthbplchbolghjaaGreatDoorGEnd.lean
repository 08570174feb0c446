/- A line's end. Condition: the words lie in memory. -/
import Derived.Test.YthbplchbolghjaaGreatDoorGRead
namespace Go.Proofs.YthbplchbolghjaaGreatDoor
open Go.RowKit

set_option maxRecDepth 100000 in
theorem atEnd_q (g : Nat) (A1 : Option Addr) (c1 : Nat) (A2 : Option Addr) (c2 : Nat) (A3 : Option Addr) (c3 : Nat) (s : PR) (w : World) (hm : RdM w g A1 c1 A2 c2 A3 c3 s) :
    Calls Tryz.prog 101 #[.pointer (some ⟨g, 0, none⟩)] w fun e w' => e = .returned (.bool (decide (s.at_ = s.line.length))) ∧ ∃ n, w' = w.drewN n := by
  have d0 : w.cell? ⟨g, 0, none⟩ = some (.slice A1 s.line.length c1) := Blk.cell hm.blk 0
  have d1 : w.cell? ⟨g, 1, none⟩ = some (.int .i64 (s.at_ : Int)) := Blk.cell hm.blk 1
  clear hm
  by_cases hq : s.at_ = s.line.length
  · have e1 : ((s.at_ : Int) == (s.line.length : Int)) = true := by simp [hq]
    rw [show decide (s.at_ = s.line.length) = true by simp [hq]]
    clear hq
    go_enter Tryz.func101, Tryz.ntmps101
    go_wp2
    go_quiet (fail)
    go_wp2
    go_ret
    exact ⟨rfl, _, rfl⟩
  · have e1 : ((s.at_ : Int) == (s.line.length : Int)) = false := by simp; omega
    have e2 : decide ((s.at_ : Int) = (s.line.length : Int)) = false := by simp; omega
    rw [show decide (s.at_ = s.line.length) = false by simp [hq]]
    clear hq
    go_enter Tryz.func101, Tryz.ntmps101
    go_wp2
    go_quiet (fail)
    go_wp2
    go_ret
    exact ⟨rfl, _, rfl⟩

/-- The line must end here. -/
def endP (s : PR) : Bool × PR := match s.line[s.at_]? with
  | none => (true, s)
  | some x => (false, failP s x 4)
set_option maxRecDepth 100000 in
set_option maxHeartbeats 2000000 in
theorem endLine_any (g : Nat) (A1 : Option Addr) (c1 : Nat) (A2 : Option Addr) (c2 : Nat) (A3 : Option Addr) (c3 : Nat) (s : PR) (w : World) (hm : RdM w g A1 c1 A2 c2 A3 c3 s) :
    Calls Tryz.prog 71 #[.pointer (some ⟨g, 0, none⟩)] w fun e w' => e = .returned (.bool (endP s).1) ∧ RdM w' g A1 c1 A2 c2 A3 c3 (endP s).2 ∧ KeepR g w w' := by
  have HM := Lib.hid hm
  have hgl := Blk.lt hm.blk
  have hlc := hm.lc
  have hle := hm.le
  have d0 : w.cell? ⟨g, 0, none⟩ = some (.slice A1 s.line.length c1) := Blk.cell hm.blk 0
  have d1 : w.cell? ⟨g, 1, none⟩ = some (.int .i64 (s.at_ : Int)) := Blk.cell hm.blk 1
  by_cases hlt : s.at_ < s.line.length
  · obtain ⟨x, hx⟩ : ∃ x, s.line[s.at_]? = some x := ⟨s.line[s.at_], List.getElem?_eq_getElem hlt⟩
    have HE : Hid (endP s = (false, failP s x 4)) := Lib.hid (by unfold endP; rw [hx])
    obtain ⟨b, o, hA, hbl, e0, e1, e2, e3⟩ := Sc.SlAt.wor hm.lw hx
    subst hA
    have KQ := Lib.hid (fun w hm => atEnd_q g (some ⟨b, o, none⟩) c1 A2 c2 A3 c3 s w hm)
    have KF := Lib.hid (fun w hm => gfail_any g (some ⟨b, o, none⟩) c1 A2 c2 A3 c3 s x 4 w hm)
    rw [show decide (s.at_ = s.line.length) = false by simp; omega] at KQ
    have k0 : (0 : Int) ≤ (s.at_ : Int) := by omega
    have k1 : (s.at_ : Int) < (s.line.length : Int) := by omega
    obtain ⟨kd, tx, ln, cl⟩ := x
    simp only at e0 e1 e2 e3
    have hbg := hm.ln b o rfl
    generalize endP s = T at HE ⊢
    clear hx hm hlt
    go_enter Tryz.func71, Tryz.ntmps71
    go_wp2_with fail
    go_region_held3 (fun w' => w'.cell? ⟨g, 0, none⟩ = some (.slice (some ⟨b, o, none⟩) s.line.length c1) ∧ w'.cell? ⟨g, 1, none⟩ = some (.int .i64 (s.at_ : Int)) ∧ w'.cell? ⟨b, o + s.at_ * 4, none⟩ = some (.int .i64 kd) ∧ w'.cell? ⟨b, o + s.at_ * 4 + 1, none⟩ = some (strV tx) ∧ w'.cell? ⟨b, o + s.at_ * 4 + 2, none⟩ = some (.int .i64 (ln : Int)) ∧ w'.cell? ⟨b, o + s.at_ * 4 + 3, none⟩ = some (.int .i64 (cl : Int)))
      (first | exact ⟨d0, d1, e0, e1, e2, e3⟩ | exact S4 | go_keep)
      (first
        | (go_at_call 101; refine (KQ.out _ (HM.out.below ((Below.refl _ _).drew))).mono ?_; rintro e w3 ⟨rfl, nn, rfl⟩; have S4 := (⟨d0, d1, e0, e1, e2, e3⟩ : (w.drew.drewN nn).cell? ⟨g, 0, none⟩ = some (.slice (some ⟨b, o, none⟩) s.line.length c1) ∧ (w.drew.drewN nn).cell? ⟨g, 1, none⟩ = some (.int .i64 (s.at_ : Int)) ∧ (w.drew.drewN nn).cell? ⟨b, o + s.at_ * 4, none⟩ = some (.int .i64 kd) ∧ (w.drew.drewN nn).cell? ⟨b, o + s.at_ * 4 + 1, none⟩ = some (strV tx) ∧ (w.drew.drewN nn).cell? ⟨b, o + s.at_ * 4 + 2, none⟩ = some (.int .i64 (ln : Int)) ∧ (w.drew.drewN nn).cell? ⟨b, o + s.at_ * 4 + 3, none⟩ = some (.int .i64 (cl : Int))))
        | (go_at_call 72; refine (KF.out _ (HM.out.below (below_drewN _ w _))).mono ?_; rintro e w4 ⟨rfl, hm4, hk4⟩; have M4 := Lib.hid hm4; have K4 := Lib.hid ((KeepR.of (g := g) (below_drewN _ w _)).trans hk4); have S4 := (⟨Blk.cell hm4.blk 0, Blk.cell hm4.blk 1, hk4.cell (p := ⟨b, o + s.at_ * 4, none⟩) e0 (Nat.ne_of_lt hbg), hk4.cell (p := ⟨b, o + s.at_ * 4 + 1, none⟩) e1 (Nat.ne_of_lt hbg), hk4.cell (p := ⟨b, o + s.at_ * 4 + 2, none⟩) e2 (Nat.ne_of_lt hbg), hk4.cell (p := ⟨b, o + s.at_ * 4 + 3, none⟩) e3 (Nat.ne_of_lt hbg)⟩ : w4.cell? ⟨g, 0, none⟩ = some (.slice (some ⟨b, o, none⟩) s.line.length c1) ∧ w4.cell? ⟨g, 1, none⟩ = some (.int .i64 (s.at_ : Int)) ∧ w4.cell? ⟨b, o + s.at_ * 4, none⟩ = some (.int .i64 kd) ∧ w4.cell? ⟨b, o + s.at_ * 4 + 1, none⟩ = some (strV tx) ∧ w4.cell? ⟨b, o + s.at_ * 4 + 2, none⟩ = some (.int .i64 (ln : Int)) ∧ w4.cell? ⟨b, o + s.at_ * 4 + 3, none⟩ = some (.int .i64 (cl : Int))); clear hm4 hk4)
        | skip)
    go_wp2_with fail
    go_ret
    rw [HE.out]
    exact ⟨rfl, M4.out, K4.out⟩
  · have HE : Hid (endP s = (true, s)) := Lib.hid (by unfold endP; rw [List.getElem?_eq_none (by omega)])
    have KQ := Lib.hid (fun w hm => atEnd_q g A1 c1 A2 c2 A3 c3 s w hm)
    rw [show decide (s.at_ = s.line.length) = true by simp; omega] at KQ
    generalize endP s = T at HE ⊢
    clear hm hlt
    go_enter Tryz.func71, Tryz.ntmps71
    go_wp2_with fail
    go_quiet ((go_at_call 101; exact Calls.quiet_of (KQ.out _ (HM.out.below (below_drewN _ _ _)))))
    go_wp2_with fail
    go_ret
    rw [HE.out]
    exact ⟨rfl, HM.out.below (below_drewN _ _ _), KeepR.of (below_drewN _ _ _)⟩
end Go.Proofs.YthbplchbolghjaaGreatDoor
