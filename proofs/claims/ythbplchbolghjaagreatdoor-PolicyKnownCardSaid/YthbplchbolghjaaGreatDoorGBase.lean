/- What a policy is, and whether one may be: contracts of Check and Drains. Condition: its names lie in memory. -/
import Derived.Test.YthbplchbolghjaaGreatDoorLCheck
namespace Go.Proofs.YthbplchbolghjaaGreatDoor
open Go.RowKit

/-- A policy. -/
structure Pol where
  l0 : Int
  l1 : Int
  h0 : Int
  h1 : Int
  on : Int
  drain : List (List UInt8)
  mx : Int
  tr : Int
  rb : Bool
/-- Its value, with the list of names at A. -/
abbrev valG (g : Pol) (A : Option Addr) (c : Nat) : Value := .agg #[.int .i64 g.l0, .int .i64 g.l1, .int .i64 g.h0, .int .i64 g.h1, .int .i64 g.on, .slice A g.drain.length c, .int .i64 g.mx, .int .i64 g.tr, .bool g.rb]
abbrev strC (l : List (List UInt8)) : List Value := l.map strV
/-- Does one stand ahead of another? -/
def ltS (y x : List UInt8) : Bool := !(Op.bytesLess x y || x == y)
/-- Names that rise. -/
def namesB (l : List (List UInt8)) : Bool := La.chkK La.nameB ltS l l.length
theorem strC_at {w : World} {A : Option Addr} {l : List (List UInt8)} (h : La.SlAt w A (strC l)) {k : Nat} {x : List UInt8} (hk : l[k]? = some x) : ∃ b o, A = some ⟨b, o, none⟩ ∧ b < w.heap.size ∧ w.cell? ⟨b, o + k, none⟩ = some (strV x) := by
  obtain ⟨b, o, hA, hc⟩ := h k (strV x) (by simp [strC, hk])
  exact ⟨b, o, hA, World.block_lt_of_cell? w _ hc, hc⟩
/-- A list of names lies in memory. -/
structure NamesAt (w : World) (A : Option Addr) (c : Nat) (l : List (List UInt8)) : Prop where
  cells : La.SlAt w A (strC l)
  le : l.length ≤ c
  most : c ≤ 9223372036854775807
  big : ∀ x ∈ l, x.length ≤ 9223372036854775807
theorem NamesAt.below {w w' : World} {A : Option Addr} {c : Nat} {l : List (List UInt8)} (h : NamesAt w A c l) (hb : Below w.heap.size w w') : NamesAt w' A c l := ⟨h.cells.below hb, h.le, h.most, h.big⟩

def upB (n m : Int) : Bool := decide (0 ≤ n) && decide (n ≤ m)
def sharesB (l0 l1 h0 h1 : Int) : Bool := upB h0 1000 && upB l0 h0 && (upB h1 1000 && upB l1 h1)
def drainB (l : List (List UInt8)) : Bool := decide (l.length ≤ 8) && namesB l
/-- May a policy be? -/
def polB (g : Pol) : Bool := sharesB g.l0 g.l1 g.h0 g.h1 && upB g.on 31 && drainB g.drain && upB g.mx 48 && upB g.tr 8
def checkG (g : Pol) : Int := if polB g then 0 else 60

theorem upTo_any (n m : Int) (w : World) :
    Calls Tryz.prog 33 #[.int .i64 n, .int .i64 m] w fun e w' => e = .returned (.bool (upB n m)) ∧ w' = w := by
  by_cases h0 : (0 : Int) ≤ n
  · by_cases h1 : n ≤ m
    · have hv : upB n m = true := by simp [upB, h0, h1]
      rw [hv]
      go_enter Tryz.func33, Tryz.ntmps33
      go_wp2
      go_ret
      exact ⟨rfl, rfl⟩
    · have hv : upB n m = false := by simp [upB, h1]
      rw [hv]
      go_enter Tryz.func33, Tryz.ntmps33
      go_wp2
      go_ret
      exact ⟨rfl, rfl⟩
  · have hv : upB n m = false := by simp [upB, h0]
    rw [hv]
    go_enter Tryz.func33, Tryz.ntmps33
    go_wp2
    go_ret
    exact ⟨rfl, rfl⟩

set_option maxRecDepth 100000 in
set_option maxHeartbeats 1000000 in
theorem shares2_any (l0 l1 h0 h1 : Int) (w : World) :
    Calls Tryz.prog 32 #[.agg #[.int .i64 l0, .int .i64 l1], .agg #[.int .i64 h0, .int .i64 h1]] w fun e w' => e = .returned (.bool (sharesB l0 l1 h0 h1)) ∧ Below w.heap.size w w' := by
  have K := Lib.hid (fun n m w => upTo_any n m w)
  have Hl0 := Lib.hid (show sharesB l0 l1 h0 h1 = (upB h0 1000 && upB l0 h0 && (upB h1 1000 && upB l1 h1)) from rfl)
  obtain ⟨R, hR⟩ : ∃ R, sharesB l0 l1 h0 h1 = R := ⟨_, rfl⟩
  rw [hR]
  have HR0 := Lib.hid hR
  clear hR
  obtain ⟨sv1, hu1⟩ : ∃ u, upB h0 1000 = u := ⟨_, rfl⟩
  obtain ⟨sv2, hu2⟩ : ∃ u, upB l0 h0 = u := ⟨_, rfl⟩
  obtain ⟨sv3, hu3⟩ : ∃ u, upB h1 1000 = u := ⟨_, rfl⟩
  obtain ⟨sv4, hu4⟩ : ∃ u, upB l1 h1 = u := ⟨_, rfl⟩
  have K1 : Hid (∀ w, Calls Tryz.prog 33 #[.int .i64 h0, .int .i64 1000] w fun e w' => e = .returned (.bool sv1) ∧ w' = w) := Lib.hid (fun w => by rw [← hu1]; exact upTo_any _ _ _)
  have K2 : Hid (∀ w, Calls Tryz.prog 33 #[.int .i64 l0, .int .i64 h0] w fun e w' => e = .returned (.bool sv2) ∧ w' = w) := Lib.hid (fun w => by rw [← hu2]; exact upTo_any _ _ _)
  have K3 : Hid (∀ w, Calls Tryz.prog 33 #[.int .i64 h1, .int .i64 1000] w fun e w' => e = .returned (.bool sv3) ∧ w' = w) := Lib.hid (fun w => by rw [← hu3]; exact upTo_any _ _ _)
  have K4 : Hid (∀ w, Calls Tryz.prog 33 #[.int .i64 l1, .int .i64 h1] w fun e w' => e = .returned (.bool sv4) ∧ w' = w) := Lib.hid (fun w => by rw [← hu4]; exact upTo_any _ _ _)
  have HR : Hid (R = (sv1 && sv2 && (sv3 && sv4))) := Lib.hid (by rw [← HR0.out, Hl0.out, hu1, hu2, hu3, hu4])
  clear hu1 hu2 hu3 hu4 K Hl0 HR0
  have B0 : Hid (Below w.heap.size w ((w.alloc (.cells #[.int .i64 l0, .int .i64 l1] 22)).alloc (.cells #[.int .i64 h0, .int .i64 h1] 22))) := Lib.hid ((below1 w _).alloc (by simp) _)
  go_enter Tryz.func32, Tryz.ntmps32
  go_wp2_with fail
  have QL : Hid (Blk ((w.alloc (.cells #[.int .i64 l0, .int .i64 l1] 22)).alloc (.cells #[.int .i64 h0, .int .i64 h1] 22)) w.heap.size #[.int .i64 l0, .int .i64 l1] 22) := Lib.hid (Blk.alloc (Blk.new w _ _) _)
  have QH : Hid (Blk ((w.alloc (.cells #[.int .i64 l0, .int .i64 l1] 22)).alloc (.cells #[.int .i64 h0, .int .i64 h1] 22)) (w.heap.size + 1) #[.int .i64 h0, .int .i64 h1] 22) := Lib.hid (by have := Blk.new (w.alloc (.cells #[.int .i64 l0, .int .i64 l1] 22)) #[.int .i64 h0, .int .i64 h1] 22; simpa using this)
  generalize ((w.alloc (.cells #[.int .i64 l0, .int .i64 l1] 22)).alloc (.cells #[.int .i64 h0, .int .i64 h1] 22)) = W at B0 QL QH ⊢
  have hWl := Blk.lt QH.out
  go_loopw [6] (fun i wr => ∃ k : Nat, k ≤ 2 ∧ i = .int .i64 k ∧ (1 ≤ k → sv1 = true ∧ sv2 = true) ∧ (2 ≤ k → sv3 = true ∧ sv4 = true) ∧ Below W.heap.size W wr) (fun i _ => 2 - (intOf i).toNat)
  case atStart => exact ⟨0, by omega, rfl, fun h => by omega, fun h => by omega, Below.refl _ _⟩
  case round =>
    obtain ⟨k, hk, rfl, hp1, hp2, hbw⟩ := hrel
    have QL2 := Lib.hid (Blk.below QL.out hbw (by omega))
    have QH2 := Lib.hid (Blk.below QH.out hbw hWl)
    have HB := Lib.hid hbw
    have B2 := Lib.hid (B0.out.trans (hbw.mono B0.out.size))
    clear hbw
    have a0 : wr.cell? ⟨w.heap.size, 0, none⟩ = some (.int .i64 l0) := Blk.cell QL2.out 0
    have a1 : wr.cell? ⟨w.heap.size, 1, none⟩ = some (.int .i64 l1) := Blk.cell QL2.out 1
    have b0 : wr.cell? ⟨w.heap.size + 1, 0, none⟩ = some (.int .i64 h0) := Blk.cell QH2.out 0
    have b1 : wr.cell? ⟨w.heap.size + 1, 1, none⟩ = some (.int .i64 h1) := Blk.cell QH2.out 1
    rcases k with _ | _ | _ | k
    · clear a1 b1 K3 K4 hp1 hp2
      cases sv1
      · have HN : Hid (R = false) := Lib.hid (by rw [HR.out]; simp)
        go_wp2_with fail
        go_quiet ((go_at_call 33; exact Calls.quiet_of_same (K1.out _)))
        go_wp2
        go_ret
        exact ⟨La.retB HN.out.symm, belowN B2.out _⟩
      · cases sv2
        · have HN : Hid (R = false) := Lib.hid (by rw [HR.out]; simp)
          go_wp2_with fail
          go_quiet ((go_at_call 33; first | with_reducible exact Calls.quiet_of_same (K1.out _) | with_reducible exact Calls.quiet_of_same (K2.out _)))
          go_wp2
          go_ret
          exact ⟨La.retB HN.out.symm, belowN B2.out _⟩
        · go_wp2_with fail
          go_quiet ((go_at_call 33; first | with_reducible exact Calls.quiet_of_same (K1.out _) | with_reducible exact Calls.quiet_of_same (K2.out _)))
          go_wp2
          go_roundw
          case rel => exact ⟨1, by omega, by go_num, fun _ => by simp, fun h => by omega, belowN HB.out _⟩
          case measure => simp [intOf]
    · obtain ⟨e1, e2⟩ := hp1 (by omega)
      clear a0 b0 K1 K2 hp1 hp2
      subst e1 e2
      cases sv3
      · have HN : Hid (R = false) := Lib.hid (by rw [HR.out]; simp)
        go_wp2_with fail
        go_quiet ((go_at_call 33; exact Calls.quiet_of_same (K3.out _)))
        go_wp2
        go_ret
        exact ⟨La.retB HN.out.symm, belowN B2.out _⟩
      · cases sv4
        · have HN : Hid (R = false) := Lib.hid (by rw [HR.out]; simp)
          go_wp2_with fail
          go_quiet ((go_at_call 33; first | with_reducible exact Calls.quiet_of_same (K3.out _) | with_reducible exact Calls.quiet_of_same (K4.out _)))
          go_wp2
          go_ret
          exact ⟨La.retB HN.out.symm, belowN B2.out _⟩
        · go_wp2_with fail
          go_quiet ((go_at_call 33; first | with_reducible exact Calls.quiet_of_same (K3.out _) | with_reducible exact Calls.quiet_of_same (K4.out _)))
          go_wp2
          go_roundw
          case rel => exact ⟨2, by omega, by go_num, fun _ => by simp, fun _ => by simp, belowN HB.out _⟩
          case measure => simp [intOf]
    · obtain ⟨e1, e2⟩ := hp1 (by omega)
      obtain ⟨e3, e4⟩ := hp2 (by omega)
      subst e1 e2 e3 e4
      have HN : Hid (R = true) := Lib.hid (by rw [HR.out]; simp)
      clear hp1 hp2 a0 a1 b0 b1
      go_wp2
      go_ret
      exact ⟨La.retB HN.out.symm, B2.out⟩
    · omega

set_option maxRecDepth 100000 in
set_option maxHeartbeats 2000000 in
theorem drained_any (A : Option Addr) (c : Nat) (l : List (List UInt8)) (w : World) (hc : l.length ≤ c) (hcm : c ≤ 9223372036854775807) (hs : La.SlAt w A (strC l)) (hbig : ∀ x ∈ l, x.length ≤ 9223372036854775807) :
    Calls Tryz.prog 34 #[.slice A l.length c] w fun e w' => e = .returned (.bool (drainB l)) ∧ Below w.heap.size w w' := by
  have HS := Lib.hid hs
  have Hbig := Lib.hid hbig
  clear hs hbig
  by_cases h8 : 8 < l.length
  · have hv : drainB l = false := by simp [drainB]; omega
    rw [hv]
    have h8i : (8 : Int) < (l.length : Int) := by omega
    go_enter Tryz.func34, Tryz.ntmps34
    go_wp2
    go_ret
    exact ⟨rfl, Below.refl _ _⟩
  have hv : drainB l = namesB l := by simp [drainB]; omega
  rw [hv]
  have hl : l.length ≤ 8 := by omega
  have h8i : ¬ (8 : Int) < (l.length : Int) := by omega
  clear hv h8
  obtain ⟨R, hR⟩ : ∃ R, namesB l = R := ⟨_, rfl⟩
  rw [hR]
  have HR := Lib.hid hR
  clear hR
  go_enter Tryz.func34, Tryz.ntmps34
  go_wp2
  go_loopw [10] (fun i wr => ∃ k : Nat, k ≤ l.length ∧ i = .int .i64 k ∧ La.chkK La.nameB ltS l k = true ∧ Below w.heap.size w wr) (fun i _ => l.length - (intOf i).toNat)
  case atStart => exact ⟨0, by omega, rfl, rfl, Below.refl _ _⟩
  case round =>
    obtain ⟨k, hk, rfl, hp, hbw⟩ := hrel
    have Hp := Lib.hid hp
    have HB := Lib.hid hbw
    clear hp hbw
    by_cases hlt : k < l.length
    · obtain ⟨x, hxk⟩ : ∃ x, l[k]? = some x := ⟨l[k], List.getElem?_eq_getElem hlt⟩
      obtain ⟨b, o, hA, hb0, hx⟩ := strC_at (HS.out.below HB.out) hxk
      subst hA
      have hstep : La.chkK La.nameB ltS l (k + 1) = La.okAt La.nameB ltS l k x := by rw [La.chkK, Hp.out, hxk]; rfl
      have Hstep := Lib.hid hstep
      have KN := Lib.hid (La.nameB_any x wr (Hbig.out x (List.mem_of_getElem? hxk)))
      have Hxk := Lib.hid hxk
      have k0 : (0 : Int) ≤ (k : Int) := by omega
      have k1 : (k : Int) < (l.length : Int) := by omega
      clear hxk hstep
      go_wp2_with fail
      refine KN.out.mono ?_
      rintro e w3 ⟨rfl, hb3⟩
      have B3 := Lib.hid (HB.out.trans (hb3.mono HB.out.size))
      have Hb3 := Lib.hid hb3
      clear hb3 KN hx
      cases hnb : La.nameB x
      · have hno : R = false := by
          rw [← HR.out]
          exact La.chkK_false (k := k + 1) (by rw [Hstep.out]; exact La.okAt_no hnb) (by omega)
        have HNo := Lib.hid hno
        clear hno
        go_wp2
        go_ret
        exact ⟨La.retB HNo.out.symm, B3.out⟩
      · by_cases hz : k = 0
        · have hok := La.okAt_zero (mb := La.nameB) (ri := ltS) (l := l) (k := k) hnb hz
          have HO := Lib.hid hok
          have hz1 : ¬ (0 : Int) < (k : Int) := by omega
          have hz2 : decide ((0 : Int) < (k : Int)) = false := by simp; omega
          clear hok hz
          go_wp2_with fail
          go_roundw
          case rel => exact ⟨k + 1, by omega, by go_num, by rw [Hstep.out, HO.out], B3.out⟩
          case measure => simp [intOf]; omega
        · obtain ⟨y, hy⟩ : ∃ y, l[k - 1]? = some y := ⟨l[k - 1]'(by omega), List.getElem?_eq_getElem (by omega)⟩
          obtain ⟨b', o', hA', _, hyc⟩ := strC_at (HS.out.below B3.out) hy
          simp only [Option.some.injEq, Addr.mk.injEq] at hA'
          obtain ⟨rfl, rfl, _⟩ := hA'
          have hok := La.okAt_pos (mb := La.nameB) (ri := ltS) (l := l) (k := k) hnb hz hy
          have HO := Lib.hid hok
          have hz1 : (0 : Int) < (k : Int) := by omega
          obtain ⟨m, hm⟩ : ∃ m, k = m + 1 := ⟨k - 1, by omega⟩
          subst hm
          rw [Nat.add_sub_cancel] at hyc
          have m0 : (0 : Int) ≤ (m : Int) := by omega
          have m1 : (m : Int) < (l.length : Int) := by omega
          have m2 : ((m + 1 : Nat) : Int) - 1 = (m : Int) := by omega
          clear hok hz hy
          have hno0 : ltS y x = false → R = false := fun hls => by
            rw [← HR.out]
            exact La.chkK_false (k := m + 1 + 1) (by rw [Hstep.out, HO.out, hls]) (by omega)
          have HN0 := Lib.hid hno0
          clear hno0
          cases h1 : Op.bytesLess x y
          · cases h2 : (x == y)
            · have HL : Hid (ltS y x = true) := Lib.hid (by unfold ltS; rw [h1, h2]; rfl)
              go_wp2
              go_roundw
              case rel => exact ⟨m + 1 + 1, by omega, by go_num, by rw [Hstep.out, HO.out, HL.out], B3.out⟩
              case measure => simp [intOf]; omega
            · have HNo := Lib.hid (HN0.out (by unfold ltS; rw [h1, h2]; rfl))
              go_wp2
              go_ret
              exact ⟨La.retB HNo.out.symm, B3.out⟩
          · have HNo := Lib.hid (HN0.out (by unfold ltS; rw [h1]; rfl))
            go_wp2
            go_ret
            exact ⟨La.retB HNo.out.symm, B3.out⟩
    · obtain rfl : k = l.length := by omega
      have hyes : R = true := by rw [← HR.out]; exact Hp.out
      have HY := Lib.hid hyes
      clear hyes
      go_wp2
      go_ret
      exact ⟨La.retB HY.out.symm, HB.out⟩
end Go.Proofs.YthbplchbolghjaaGreatDoor
