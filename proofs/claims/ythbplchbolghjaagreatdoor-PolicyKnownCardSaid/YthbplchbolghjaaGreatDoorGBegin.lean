/- Whether the next line has this first word. Condition: the words lie in memory. -/
import Derived.Test.YthbplchbolghjaaGreatDoorGEnd
import Derived.BigRegion
namespace Go.Proofs.YthbplchbolghjaaGreatDoor
open Go.RowKit

/-- Does the next line begin so? It goes on behind that word, if it does. -/
def beginP (s : PR) (key : List UInt8) : Bool × PR := match s.rest[0]? with
  | none => (false, s)
  | some x => if x.1 = 1 ∧ x.2.1 = key then (true, { s with line := s.rest.take (Sc.lineF s.rest 0), at_ := 1, rest := s.rest.drop (Sc.lineF s.rest 0) }) else (false, s)
theorem lineF_pos {l : List Sc.W4} {x : Sc.W4} (h : l[0]? = some x) : 1 ≤ Sc.lineF l 0 ∧ Sc.lineF l 0 ≤ l.length := by
  cases l with
  | nil => simp at h
  | cons y t =>
    simp at h
    subst h
    have e : Sc.lineF (y :: t) 0 = ((y :: t).filter (Sc.lineB y.2.2.1)).length := by simp [Sc.lineF]
    rw [e]
    refine ⟨?_, List.length_filter_le _ _⟩
    rw [List.filter_cons_of_pos (by simp [Sc.lineB])]
    simp
theorem cellsW_take (l : List Sc.W4) (n : Nat) : Sc.cellsW (l.take n) = (Sc.cellsW l).take (n * 4) := by
  induction l generalizing n with
  | nil => simp [Sc.cellsW]
  | cons y t ih =>
    cases n with
    | zero => simp [Sc.cellsW]
    | succ n =>
      have e : Sc.cellsW (y :: t) = .int .i64 y.1 :: strV y.2.1 :: .int .i64 (y.2.2.1 : Int) :: .int .i64 (y.2.2.2 : Int) :: Sc.cellsW t := rfl
      have e2 : Sc.cellsW ((y :: t).take (n + 1)) = .int .i64 y.1 :: strV y.2.1 :: .int .i64 (y.2.2.1 : Int) :: .int .i64 (y.2.2.2 : Int) :: Sc.cellsW (t.take n) := rfl
      rw [e2, e, ih, show (n + 1) * 4 = n * 4 + 1 + 1 + 1 + 1 by omega]
      simp
theorem cellsW_drop (l : List Sc.W4) (n : Nat) : Sc.cellsW (l.drop n) = (Sc.cellsW l).drop (n * 4) := by
  induction l generalizing n with
  | nil => simp [Sc.cellsW]
  | cons y t ih =>
    cases n with
    | zero => simp
    | succ n =>
      have e : Sc.cellsW (y :: t) = .int .i64 y.1 :: strV y.2.1 :: .int .i64 (y.2.2.1 : Int) :: .int .i64 (y.2.2.2 : Int) :: Sc.cellsW t := rfl
      have e2 : (y :: t).drop (n + 1) = t.drop n := rfl
      rw [e2, e, ih, show (n + 1) * 4 = n * 4 + 1 + 1 + 1 + 1 by omega]
      simp
theorem slat_take {w : World} {A : Option Addr} {l : List Sc.W4} (h : Sc.SlAt w A (Sc.cellsW l)) (n : Nat) : Sc.SlAt w A (Sc.cellsW (l.take n)) := by
  intro j y hj
  rw [cellsW_take, List.getElem?_take] at hj
  split at hj
  · exact h j y hj
  · cases hj
theorem slat_drop {w : World} {b o : Nat} {l : List Sc.W4} (h : Sc.SlAt w (some ⟨b, o, none⟩) (Sc.cellsW l)) (n : Nat) : Sc.SlAt w (some ⟨b, o + n * 4, none⟩) (Sc.cellsW (l.drop n)) := by
  intro j y hj
  rw [cellsW_drop, List.getElem?_drop] at hj
  obtain ⟨b', o', hA, hc⟩ := h _ _ hj
  cases hA
  exact ⟨b, o + n * 4, rfl, by rw [Nat.add_assoc]; exact hc⟩

set_option maxRecDepth 100000 in
set_option maxHeartbeats 2000000 in
theorem begins_any (g : Nat) (A1 : Option Addr) (c1 : Nat) (A2 : Option Addr) (c2 : Nat) (A3 : Option Addr) (c3 : Nat) (s : PR) (key : List UInt8) (w : World) (hm : RdM w g A1 c1 A2 c2 A3 c3 s) :
    Calls Tryz.prog 70 #[.pointer (some ⟨g, 0, none⟩), strV key] w fun e w' => e = .returned (.bool (beginP s key).1) ∧ (∃ A1' c1' A2' c2', RdM w' g A1' c1' A2' c2' A3 c3 (beginP s key).2) ∧ KeepR g w w' := by
  have HM := Lib.hid hm
  have hgl := Blk.lt hm.blk
  have hrc := hm.rc
  have d2 : w.cell? ⟨g, 2, none⟩ = some (.slice A2 s.rest.length c2) := Blk.cell hm.blk 2
  by_cases hlt : 0 < s.rest.length
  · obtain ⟨x, hx⟩ : ∃ x, s.rest[0]? = some x := ⟨s.rest[0], List.getElem?_eq_getElem hlt⟩
    have hE : beginP s key = if x.1 = 1 ∧ x.2.1 = key then (true, { s with line := s.rest.take (Sc.lineF s.rest 0), at_ := 1, rest := s.rest.drop (Sc.lineF s.rest 0) }) else (false, s) := by unfold beginP; rw [hx]
    obtain ⟨b, o, hA, hbl, e0, e1, e2, e3⟩ := Sc.SlAt.wor hm.rw hx
    subst hA
    have hn := lineF_pos hx
    have KL := Lib.hid (fun w' (hb : Below w.heap.size w w') => Sc.line_any (some ⟨b, o, none⟩) c2 0 s.rest w' hrc.1 hrc.2 (by omega) (hm.rw.below hb))
    obtain ⟨kd, tx, ln, cl⟩ := x
    simp only [Nat.zero_mul, Nat.add_zero] at e0 e1 e2 e3
    have hbg := hm.rn b o rfl
    have k1 : (0 : Int) < (s.rest.length : Int) := by omega
    have k2 : ((s.rest.length : Int) == 0) = false := beq_eq_false_iff_ne.2 (by omega)
    have k3 : decide ((s.rest.length : Int) = 0) = false := decide_eq_false (by omega)
    generalize beginP s key = T at hE ⊢
    generalize Sc.lineF s.rest 0 = n at hE hn KL
    clear hx hm
    by_cases h1 : kd = 1
    · subst h1
      by_cases h2 : tx = key
      · subst h2
        rw [if_pos ⟨rfl, rfl⟩] at hE
        have HE := Lib.hid hE
        clear hE
        go_enter Tryz.func70, Tryz.ntmps70
        go_wp2_with fail
        refine (KL.out _ (Below.refl _ _)).mono ?_
        rintro e w2 ⟨rfl, hb⟩
        have M2 := Lib.hid (HM.out.below hb)
        have HB := Lib.hid hb
        clear hb KL e0 e1 e2 e3 d2
        have d2 : w2.cell? ⟨g, 2, none⟩ = some (.slice (some ⟨b, o, none⟩) s.rest.length c2) := Blk.cell M2.out.blk 2
        have d0 : w2.cell? ⟨g, 0, none⟩ = some (.slice A1 s.line.length c1) := Blk.cell M2.out.blk 0
        have d1 : w2.cell? ⟨g, 1, none⟩ = some (.int .i64 (s.at_ : Int)) := Blk.cell M2.out.blk 1
        have f0 : w2.frozen? ⟨g, 0, none⟩ = false := Blk.free M2.out.blk 0
        have f1 : w2.frozen? ⟨g, 1, none⟩ = false := Blk.free M2.out.blk 1
        have f2 : w2.frozen? ⟨g, 2, none⟩ = false := Blk.free M2.out.blk 2
        have n0 : (0 : Int) ≤ (n : Int) := by omega
        have n1 : (n : Int) ≤ (s.rest.length : Int) := by omega
        have n2 : (n : Int) ≤ (c2 : Int) := by omega
        have n3 : (s.rest.length : Int) ≤ (c2 : Int) := by omega
        go_wp2_with fail
        go_region
        obtain ⟨A2', hA2⟩ : ∃ A2' : Option Addr, (if c2 = n then some ⟨b, o, none⟩ else some ⟨b, o + n * 4, none⟩) = A2' := ⟨_, rfl⟩
        rw [hA2]
        have HA := Lib.hid hA2
        clear hA2
        go_wp2
        go_ret
        rw [HE.out]
        have l1 : (s.rest.take n).length = n := by rw [List.length_take]; omega
        have l2 : (s.rest.drop n).length = s.rest.length - n := by rw [List.length_drop]
        have KK : ∀ v0 v2 v1 : Value, KeepR g w2 (((((w2.setCell ⟨g, 0, none⟩ v0).setCell ⟨g, 2, none⟩ v2).drew)).setCell ⟨g, 1, none⟩ v1) := fun v0 v2 v1 => (((((KeepR.refl g w2).setCell 0 v0).setCell 2 v2)).fresh ((Below.refl _ _).drew)).setCell 1 v1
        have hsl : Sc.SlAt w2 A2' (Sc.cellsW (s.rest.drop n)) := by
          rw [← HA.out]
          split
          · rw [List.drop_eq_nil_of_le (by omega)]
            exact Sc.SlAt.nil _ _
          · exact slat_drop M2.out.rw n
        have hbl2 : ∀ b' o', A2' = some ⟨b', o', none⟩ → b' < g := by
          intro b' o' he
          rw [← HA.out] at he
          split at he <;> (cases he; exact hbg)
        have hkeep : ∀ {A : Option Addr} {l : List Sc.W4}, Sc.SlAt w2 A (Sc.cellsW l) → (∀ b' o', A = some ⟨b', o', none⟩ → b' < g) → ∀ v0 v2 v1 : Value, Sc.SlAt (((((w2.setCell ⟨g, 0, none⟩ v0).setCell ⟨g, 2, none⟩ v2).drew)).setCell ⟨g, 1, none⟩ v1) A (Sc.cellsW l) := by
          intro A l h1 h2 v0 v2 v1 j y hj
          obtain ⟨b', o', hA', hc⟩ := h1 j y hj
          exact ⟨b', o', hA', (KK v0 v2 v1).cell hc (Nat.ne_of_lt (h2 b' o' hA'))⟩
        refine ⟨rfl, ⟨some ⟨b, o, none⟩, c2, A2', c2 - n, ⟨?_, hkeep (slat_take M2.out.rw n) (fun b' o' he => by cases he; exact hbg) _ _ _, fun b' o' he => by cases he; exact hbg, hkeep hsl hbl2 _ _ _, hbl2, (KK _ _ _).own M2.out.own (Nat.lt_succ_self g), by simp only [l1]; omega, by simp only [l1]; omega, by simp only [l2]; omega⟩⟩, (KeepR.of HB.out).trans (KK _ _ _)⟩
        have hb := Blk.set (show Blk (((w2.setCell ⟨g, 0, none⟩ (.slice (some ⟨b, o, none⟩) n c2)).setCell ⟨g, 2, none⟩ (.slice A2' (s.rest.length - n) (c2 - n))).drew) g _ _ from Blk.set (Blk.set M2.out.blk 0 (.slice (some ⟨b, o, none⟩) n c2)) 2 (.slice A2' (s.rest.length - n) (c2 - n))) 1 (.int .i64 1)
        have e : cellsPR (some ⟨b, o, none⟩) c2 A2' (c2 - n) A3 c3 { s with line := s.rest.take n, at_ := 1, rest := s.rest.drop n } = ((((cellsPR A1 c1 (some ⟨b, o, none⟩) c2 A3 c3 s).setIfInBounds 0 (.slice (some ⟨b, o, none⟩) n c2)).setIfInBounds 2 (.slice A2' (s.rest.length - n) (c2 - n))).setIfInBounds 1 (.int .i64 1)) := by
          simp [cellsPR, l1, l2]
        rw [e]
        exact hb
      · rw [if_neg (by simp [h2])] at hE
        have HE := Lib.hid hE
        have e4 : decide (tx = key) = false := by simpa using h2
        have e5 : (tx == key) = false := by simpa using h2
        clear hE
        go_enter Tryz.func70, Tryz.ntmps70
        go_wp2
        go_ret
        rw [HE.out]
        exact ⟨rfl, ⟨_, _, _, _, HM.out⟩, KeepR.refl _ _⟩
    · rw [if_neg (by simp [h1])] at hE
      have HE := Lib.hid hE
      have e4 : decide (kd = 1) = false := by simpa using h1
      have e5 : (kd == 1) = false := by simpa using h1
      clear hE
      go_enter Tryz.func70, Tryz.ntmps70
      go_wp2
      go_ret
      rw [HE.out]
      exact ⟨rfl, ⟨_, _, _, _, HM.out⟩, KeepR.refl _ _⟩
  · have hz : s.rest.length = 0 := by omega
    have HE : Hid (beginP s key = (false, s)) := Lib.hid (by unfold beginP; rw [List.getElem?_eq_none (by omega)])
    generalize beginP s key = T at HE ⊢
    rw [hz] at d2
    clear hm hlt hz
    go_enter Tryz.func70, Tryz.ntmps70
    go_wp2
    go_ret
    rw [HE.out]
    exact ⟨rfl, ⟨_, _, _, _, HM.out⟩, KeepR.refl _ _⟩
end Go.Proofs.YthbplchbolghjaaGreatDoor
