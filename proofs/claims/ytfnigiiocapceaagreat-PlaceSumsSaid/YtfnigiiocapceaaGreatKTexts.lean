/- Two lists of texts held against each other. Condition: they lie in memory. -/
import Derived.Test.YtfnigiiocapceaaGreatKa
namespace Go.Proofs.YtfnigiiocapceaaGreat
open Go.RowKit

/-- A list of texts as a value. -/
structure TextsAt (w : World) (A : Option Addr) (c : Nat) (l : List (List UInt8)) : Prop where
  cells : La.SlAt w A (l.map strV)
  le : l.length ≤ c
  most : c ≤ 9223372036854775807
theorem TextsAt.below {w w' : World} {A : Option Addr} {c : Nat} {l : List (List UInt8)} (h : TextsAt w A c l) (hb : Below w.heap.size w w') : TextsAt w' A c l := ⟨h.cells.below hb, h.le, h.most⟩
theorem TextsAt.own {w : World} {base : Nat} {A : Option Addr} {c : Nat} {l : List (List UInt8)} (h : w.ownsRow base 9 1 (.slice A l.length c) l.length (l.map strV)) : TextsAt w A c l := by
  have hc := capOwn h
  have hm : maxLen ≤ 9223372036854775807 := by unfold maxLen; omega
  exact ⟨La.own_slat h, hc.1, Nat.le_trans hc.2 hm⟩
theorem atT {w : World} {A : Option Addr} {l : List (List UInt8)} (h : La.SlAt w A (l.map strV)) {k : Nat} {x : List UInt8} (hk : l[k]? = some x) :
    ∃ b o, A = some ⟨b, o, none⟩ ∧ b < w.heap.size ∧ w.cell? ⟨b, o + k, none⟩ = some (strV x) := by
  obtain ⟨b, o, hA, h0⟩ := h k (strV x) (by rw [List.getElem?_map, hk]; rfl)
  exact ⟨b, o, hA, World.block_lt_of_cell? w _ h0, h0⟩

set_option maxRecDepth 100000 in
set_option maxHeartbeats 2000000 in
theorem eqTexts_any (A B : Option Addr) (ca cb : Nat) (l m : List (List UInt8)) (w : World) (hl : l.length ≤ 1000) (ha : TextsAt w A ca l) (hb : TextsAt w B cb m) :
    Calls Tryz.prog 25 #[.slice A l.length ca, .slice B m.length cb] w fun e w' => e = .returned (.bool (decide (l = m))) ∧ Below w.heap.size w w' := by
  by_cases hn : l.length = m.length
  case neg =>
    have hni : ¬ (l.length : Int) = (m.length : Int) := by omega
    have hnb : ((l.length : Int) != (m.length : Int)) = true := by simpa using hni
    have hne : decide (l = m) = false := decide_eq_false (fun e => hn (by rw [e]))
    rw [hne]
    clear ha hb
    go_enter Tryz.func25, Tryz.ntmps25
    go_wp2
    go_ret
    exact ⟨rfl, Below.refl _ _⟩
  have hni : (l.length : Int) = (m.length : Int) := by omega
  have hnb : ((l.length : Int) != (m.length : Int)) = false := by simpa using hni
  have HA := Lib.hid ha
  have HB := Lib.hid hb
  clear ha hb
  obtain ⟨R, hR⟩ : ∃ R, decide (l = m) = R := ⟨_, rfl⟩
  have HR := Lib.hid hR
  rw [hR]
  clear hR
  go_enter Tryz.func25, Tryz.ntmps25
  go_wp2_with fail
  go_loopw [5] (fun i wr => ∃ k : Nat, k ≤ l.length ∧ i = .int .i64 k ∧ (∀ j, j < k → l[j]? = m[j]?) ∧ Below w.heap.size w wr) (fun i _ => l.length - (intOf i).toNat)
  case atStart => exact ⟨0, by omega, rfl, fun j h => by omega, Below.refl _ _⟩
  case round =>
    obtain ⟨k, hk, rfl, hnk, hbw⟩ := hrel
    have HN := Lib.hid hnk
    have HW := Lib.hid hbw
    clear hnk hbw
    by_cases hlt : k < l.length
    · obtain ⟨x, hx⟩ : ∃ x, l[k]? = some x := ⟨l[k], List.getElem?_eq_getElem hlt⟩
      obtain ⟨y, hy⟩ : ∃ y, m[k]? = some y := ⟨m[k]'(by omega), List.getElem?_eq_getElem (by omega)⟩
      obtain ⟨b1, o1, hA1, hbl1, c1⟩ := atT (HA.out.below HW.out).cells hx
      obtain ⟨b2, o2, hA2, hbl2, c2⟩ := atT (HB.out.below HW.out).cells hy
      subst hA1 hA2
      have HX := Lib.hid hx
      have HY := Lib.hid hy
      have k0 : (0 : Int) ≤ (k : Int) := by omega
      have k1 : (k : Int) < (l.length : Int) := by omega
      have k2 : (k : Int) < (m.length : Int) := by omega
      clear hx hy
      by_cases hxy : x = y
      · subst hxy
        have hxb : (x != x) = false := by simp
        have hxc : (x == x) = true := by simp
        go_wp2_with fail
        go_region
        go_wp2
        go_roundw
        case rel =>
          refine ⟨k + 1, by omega, by go_num, fun j hj => ?_, by first | exact HW.out | exact HW.out.drew | exact La.belowN HW.out _⟩
          by_cases hjk : j = k
          · subst hjk
            rw [HX.out, HY.out]
          · exact HN.out j (by omega)
        case measure => simp [intOf]; omega
      · have hxb : (x != y) = true := by simpa using hxy
        have hxc : (x == y) = false := by simpa using hxy
        have HE : Hid (false = R) := Lib.hid (by
          rw [← HR.out]
          symm
          refine decide_eq_false (fun e => hxy ?_)
          have h1 := HX.out
          rw [e, HY.out] at h1
          exact (Option.some.inj h1).symm)
        go_wp2_with fail
        go_region
        go_wp2
        go_ret
        exact ⟨La.retB HE.out, by first | exact HW.out | exact HW.out.drew | exact La.belowN HW.out _⟩
    · obtain rfl : k = l.length := by omega
      have HE : Hid (true = R) := Lib.hid (by
        rw [← HR.out]
        symm
        refine decide_eq_true (List.ext_getElem? fun j => ?_)
        by_cases hj : j < l.length
        · exact HN.out j hj
        · rw [List.getElem?_eq_none (by omega), List.getElem?_eq_none (by omega)])
      go_wp2
      go_ret
      exact ⟨La.retB HE.out, HW.out⟩
end Go.Proofs.YtfnigiiocapceaaGreat
