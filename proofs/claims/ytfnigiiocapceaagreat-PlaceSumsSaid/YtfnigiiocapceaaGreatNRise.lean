/- Are names names, and do they rise? A contract. Condition: the list lies in memory. -/
import Derived.Test.YtfnigiiocapceaaGreatNEachS
namespace Go.Proofs.YtfnigiiocapceaaGreat
open Go.RowKit

abbrev strC (l : List (List UInt8)) : List Value := l.map strV
/-- Does one stand ahead of another? -/
def ltS (y x : List UInt8) : Bool := !(Op.bytesLess x y || x == y)
/-- Names that rise. -/
def namesB (l : List (List UInt8)) : Bool := La.chkK La.nameB ltS l l.length
theorem strC_at {w : World} {A : Option Addr} {l : List (List UInt8)} (h : La.SlAt w A (strC l)) {k : Nat} {x : List UInt8} (hk : l[k]? = some x) : ∃ b o, A = some ⟨b, o, none⟩ ∧ b < w.heap.size ∧ w.cell? ⟨b, o + k, none⟩ = some (strV x) := by
  obtain ⟨b, o, hA, hc⟩ := h k (strV x) (by simp [strC, hk])
  exact ⟨b, o, hA, World.block_lt_of_cell? w _ hc, hc⟩

set_option maxRecDepth 100000 in
set_option maxHeartbeats 2000000 in
theorem mayBeNames_any (A : Option Addr) (c : Nat) (l : List (List UInt8)) (w : World) (hl : l.length ≤ 1000) (hc : l.length ≤ c) (hcm : c ≤ 9223372036854775807) (hs : La.SlAt w A (strC l)) (hbig : ∀ x ∈ l, x.length ≤ 9223372036854775807) :
    Calls Tryz.prog 73 #[.slice A l.length c] w fun e w' => e = .returned (.bool (namesB l)) ∧ Below w.heap.size w w' := by
  have HS := Lib.hid hs
  have Hbig := Lib.hid hbig
  clear hs hbig
  obtain ⟨R, hR⟩ : ∃ R, namesB l = R := ⟨_, rfl⟩
  rw [hR]
  have HR := Lib.hid hR
  clear hR
  go_enter Tryz.func73, Tryz.ntmps73
  go_wp2
  go_loopw [7] (fun i wr => ∃ k : Nat, k ≤ l.length ∧ i = .int .i64 k ∧ La.chkK La.nameB ltS l k = true ∧ Below w.heap.size w wr) (fun i _ => l.length - (intOf i).toNat)
  case atStart => exact ⟨0, by omega, rfl, rfl, Below.refl _ _⟩
  case round =>
    obtain ⟨k, hk, rfl, hp, hbw⟩ := hrel
    have Hp := Lib.hid hp
    have HB := Lib.hid hbw
    clear hp hbw
    by_cases hlt : k < l.length
    · obtain ⟨x, hxk⟩ : ∃ x, l[k]? = some x := ⟨l[k], List.getElem?_eq_getElem hlt⟩
      obtain ⟨b, o, hA, hb0, hx⟩ := strC_at (HS.out.below HB.out) hxk
      subst hA
      have hstep : La.chkK La.nameB ltS l (k + 1) = La.okAt La.nameB ltS l k x := by rw [La.chkK, Hp.out, hxk]; rfl
      have Hstep := Lib.hid hstep
      have KN := Lib.hid (La.nameB_any x wr (Hbig.out x (List.mem_of_getElem? hxk)))
      have Hxk := Lib.hid hxk
      have k0 : (0 : Int) ≤ (k : Int) := by omega
      have k1 : (k : Int) < (l.length : Int) := by omega
      clear hxk hstep
      go_wp2_with fail
      refine KN.out.mono ?_
      rintro e w3 ⟨rfl, hb3⟩
      have B3 := Lib.hid (HB.out.trans (hb3.mono HB.out.size))
      have Hb3 := Lib.hid hb3
      clear hb3 KN hx
      cases hnb : La.nameB x
      · have hno : R = false := by
          rw [← HR.out]
          exact La.chkK_false (k := k + 1) (by rw [Hstep.out]; exact La.okAt_no hnb) (by omega)
        have HNo := Lib.hid hno
        clear hno
        go_wp2
        go_ret
        exact ⟨La.retB HNo.out.symm, B3.out⟩
      · by_cases hz : k = 0
        · have hok := La.okAt_zero (mb := La.nameB) (ri := ltS) (l := l) (k := k) hnb hz
          have HO := Lib.hid hok
          have hz1 : ¬ (0 : Int) < (k : Int) := by omega
          have hz2 : decide ((0 : Int) < (k : Int)) = false := by simp; omega
          clear hok hz
          go_wp2_with fail
          go_roundw
          case rel => exact ⟨k + 1, by omega, by go_num, by rw [Hstep.out, HO.out], B3.out⟩
          case measure => simp [intOf]; omega
        · obtain ⟨y, hy⟩ : ∃ y, l[k - 1]? = some y := ⟨l[k - 1]'(by omega), List.getElem?_eq_getElem (by omega)⟩
          obtain ⟨b', o', hA', _, hyc⟩ := strC_at (HS.out.below B3.out) hy
          simp only [Option.some.injEq, Addr.mk.injEq] at hA'
          obtain ⟨rfl, rfl, _⟩ := hA'
          have hok := La.okAt_pos (mb := La.nameB) (ri := ltS) (l := l) (k := k) hnb hz hy
          have HO := Lib.hid hok
          have hz1 : (0 : Int) < (k : Int) := by omega
          obtain ⟨m, hm⟩ : ∃ m, k = m + 1 := ⟨k - 1, by omega⟩
          subst hm
          rw [Nat.add_sub_cancel] at hyc
          have m0 : (0 : Int) ≤ (m : Int) := by omega
          have m1 : (m : Int) < (l.length : Int) := by omega
          have m2 : ((m + 1 : Nat) : Int) - 1 = (m : Int) := by omega
          clear hok hz hy
          have hno0 : ltS y x = false → R = false := fun hls => by
            rw [← HR.out]
            exact La.chkK_false (k := m + 1 + 1) (by rw [Hstep.out, HO.out, hls]) (by omega)
          have HN0 := Lib.hid hno0
          clear hno0
          cases h1 : Op.bytesLess x y
          · cases h2 : (x == y)
            · have HL : Hid (ltS y x = true) := Lib.hid (by unfold ltS; rw [h1, h2]; rfl)
              go_wp2
              go_roundw
              case rel => exact ⟨m + 1 + 1, by omega, by go_num, by rw [Hstep.out, HO.out, HL.out], B3.out⟩
              case measure => simp [intOf]; omega
            · have HNo := Lib.hid (HN0.out (by unfold ltS; rw [h1, h2]; rfl))
              go_wp2
              go_ret
              exact ⟨La.retB HNo.out.symm, B3.out⟩
          · have HNo := Lib.hid (HN0.out (by unfold ltS; rw [h1]; rfl))
            go_wp2
            go_ret
            exact ⟨La.retB HNo.out.symm, B3.out⟩
    · obtain rfl : k = l.length := by omega
      have hyes : R = true := by rw [← HR.out]; exact Hp.out
      have HY := Lib.hid hyes
      clear hyes
      go_wp2
      go_ret
      exact ⟨La.retB HY.out.symm, HB.out⟩
end Go.Proofs.YtfnigiiocapceaaGreat
