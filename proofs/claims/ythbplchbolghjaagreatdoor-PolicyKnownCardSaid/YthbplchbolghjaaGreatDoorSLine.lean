/- What Line answers, as a plain function. Condition: a list that can lie in memory. -/
import Derived.Test.YthbplchbolghjaaGreatDoorSMem
namespace Go.Proofs.YthbplchbolghjaaGreatDoor.Sc
open Go.RowKit

def lineB (a : Nat) (x : W4) : Bool := decide (x.2.2.1 = a)
def lineF (l : List W4) (fr : Nat) : Nat :=
  match l[fr]? with
  | none => 0
  | some x => ((l.drop fr).filter (lineB x.2.2.1)).length
theorem slat_at {w : World} {A : Option Addr} {l : List W4} (h : SlAt w A (cellsW l)) {b o : Nat} (hA : A = some ⟨b, o, none⟩) {k : Nat} {x : W4} (hk : l[k]? = some x) :
    b < w.heap.size ∧ w.cell? ⟨b, o + k * 4, none⟩ = some (.int .i64 x.1) ∧ w.cell? ⟨b, o + k * 4 + 1, none⟩ = some (strV x.2.1) ∧ w.cell? ⟨b, o + k * 4 + 2, none⟩ = some (.int .i64 (x.2.2.1 : Int)) ∧ w.cell? ⟨b, o + k * 4 + 3, none⟩ = some (.int .i64 (x.2.2.2 : Int)) := by
  obtain ⟨b', o', hA', h1, h2, h3, h4, h5⟩ := SlAt.wor h hk
  rw [hA] at hA'
  cases hA'
  exact ⟨h1, h2, h3, h4, h5⟩

set_option maxRecDepth 100000 in
set_option maxHeartbeats 2000000 in
theorem line_any (A : Option Addr) (c fr : Nat) (l : List W4) (w : World) (hc : l.length ≤ c) (hcm : c ≤ maxLen) (hf : fr ≤ 4611686018427387904) (hs : SlAt w A (cellsW l)) :
    Calls Tryz.prog 103 #[.slice A l.length c, .int .i64 (fr : Int)] w fun e w' => e = .returned (.int .i64 (lineF l fr : Int)) ∧ Below w.heap.size w w' := by
  unfold maxLen at hcm
  unfold lineF
  have h0 : ¬ ((fr : Int) < 0) := by omega
  by_cases hlt : fr < l.length
  · obtain ⟨x, hx⟩ : ∃ x, l[fr]? = some x := ⟨l[fr], List.getElem?_eq_getElem hlt⟩
    obtain ⟨b, o, hA, hb, y0, y1, y2, y3⟩ := SlAt.wor hs hx
    subst hA
    rw [hx]
    simp only
    have hge : decide (l.length ≤ fr) = false := by simp; omega
    have hge2 : ¬ ((l.length : Int) ≤ (fr : Int)) := by omega
    have hn1 : (fr : Int) < (l.length : Int) := by omega
    have hfc : ¬ c = fr := by omega
    have hfc2 : ¬ fr = c := by omega
    have hle : (fr : Int) ≤ (l.length : Int) := by omega
    have HS := Lib.hid hs
    have HX := Lib.hid hx
    have Hy2 := Lib.hid y2
    clear hs hx y0 y1 y2 y3
    go_enter Tryz.func103, Tryz.ntmps103
    go_wp2_with fail
    obtain ⟨m, hm⟩ : ∃ m, l.length - fr = m := ⟨_, rfl⟩
    rw [hm]
    have hdl : (l.drop fr).length = m := by rw [List.length_drop]; exact hm
    have hmi : fr + m = l.length := by omega
    have HD := Lib.hid hdl
    clear hm hdl
    go_loopw [5, 20] (fun n i wr => ∃ k : Nat, k ≤ m ∧ i = .int .i64 k ∧ n = .int .i64 ((((l.drop fr).take k).filter (lineB x.2.2.1)).length : Int) ∧ Below w.heap.size w wr) (fun _ i _ => m - (intOf i).toNat)
    case atStart => exact ⟨0, by omega, rfl, rfl, Below.refl _ _⟩
    case round =>
      obtain ⟨k, hk, rfl, rfl, hbw⟩ := hrel
      have HB := Lib.hid hbw
      clear hbw
      by_cases hk2 : k < m
      · obtain ⟨y, hy⟩ : ∃ y, l[fr + k]? = some y := ⟨l[fr + k]'(by omega), List.getElem?_eq_getElem (by omega)⟩
        obtain ⟨_, z0, z1, z2, z3⟩ := slat_at (HS.out.below HB.out) rfl hy
        have e4 : o + (fr + k) * 4 = o + fr * 4 + k * 4 := by omega
        rw [e4] at z0 z1 z2 z3
        have u2 : wr.cell? ⟨b, o + fr * 4 + 2, none⟩ = some (.int .i64 (x.2.2.1 : Int)) := (HB.out.cell (p := ⟨b, o + fr * 4 + 2, none⟩) hb).trans Hy2.out
        have ht : ((l.drop fr).take (k + 1)).filter (lineB x.2.2.1) = ((l.drop fr).take k).filter (lineB x.2.2.1) ++ (if lineB x.2.2.1 y = true then [y] else []) := by
          rw [List.take_add_one, List.getElem?_drop, hy, List.filter_append]
          simp [List.filter_cons]
        have HT := Lib.hid ht
        have hcl : (((l.drop fr).take k).filter (lineB x.2.2.1)).length ≤ k := Nat.le_trans (List.length_filter_le _ _) (List.length_take_le _ _)
        have hbl : b < wr.heap.size := by have := HB.out.size; omega
        have k0 : (0 : Int) ≤ (k : Int) := by omega
        have k1 : (k : Int) < (m : Int) := by omega
        have hb2 := Lib.hid (HB.out.alloc HB.out.size (.cells #[.int .i64 y.1, strV y.2.1, .int .i64 (y.2.2.1 : Int), .int .i64 (y.2.2.2 : Int)] 83))
        generalize hcv : (((l.drop fr).take k).filter (lineB x.2.2.1)).length = cv at hcl
        have HCV := Lib.hid hcv
        clear hy e4 ht hcv
        by_cases hq : y.2.2.1 = x.2.2.1
        · have hqb : ((y.2.2.1 : Int) == (x.2.2.1 : Int)) = true := by simp [hq]
          have HQ := Lib.hid hq
          clear hq
          go_wp2_with fail
          go_quiet (fail)
          go_wp2
          go_roundw
          case rel => exact ⟨k + 1, by omega, by go_num, by rw [HT.out, if_pos (by simp [lineB, HQ.out]), List.length_append, HCV.out]; go_num, belowN hb2.out _⟩
          case measure => simp [intOf]; omega
        · have hqb : ((y.2.2.1 : Int) == (x.2.2.1 : Int)) = false := by simp; omega
          have HQ := Lib.hid hq
          clear hq
          go_wp2_with fail
          go_quiet (fail)
          go_wp2
          go_roundw
          case rel => exact ⟨k + 1, by omega, by go_num, by rw [HT.out, if_neg (by simp [lineB]; exact HQ.out), List.append_nil, HCV.out], belowN hb2.out _⟩
          case measure => simp [intOf]; omega
      · obtain rfl : k = m := by omega
        have e : (l.drop fr).take k = l.drop fr := List.take_of_length_le (by rw [HD.out]; exact Nat.le_refl _)
        rw [e]
        clear e
        go_wp2
        go_ret
        exact ⟨rfl, HB.out⟩
  · have hge : decide (l.length ≤ fr) = true := by simp; omega
    have hge2 : ((l.length : Int) ≤ (fr : Int)) := by omega
    rw [List.getElem?_eq_none (by omega)]
    simp only
    clear hlt hs
    go_enter Tryz.func103, Tryz.ntmps103
    go_wp2
    go_ret
    exact ⟨rfl, Below.refl _ _⟩
end Go.Proofs.YthbplchbolghjaaGreatDoor.Sc
