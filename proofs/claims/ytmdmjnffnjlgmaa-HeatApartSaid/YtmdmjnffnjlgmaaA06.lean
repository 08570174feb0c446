/- May a policy be? The contract of its Check; policies as values. Condition: its names lie in memory. Who has pods; which nodes are low, high, idle: the contracts of heat's hasPods and of the closures that pick asks. Condition: the cluster, the numbers and the policy lie in memory. Which nodes are low, high, idle; the pods on a node: the contracts of heat's Low, High, Idle, Pods. Condition: the cluster, the numbers and the policy lie in memory. The chapter's cluster of layer 12, and what the plain functions tell of it. No conditions. A copy of numbers: the contract of CopyInts. Condition: the numbers lie in memory, and are no more than a machine's memory holds. (KRefA has its own copies: never take both.) The chapter's examples of layer 12 hold. No conditions. -/
import Derived.Test.YtmdmjnffnjlgmaaA05
import Derived.Shelf.SlIterI.Collect
import Derived.Laws.AppendOwnNone

namespace Go.Proofs.Ytmdmjnffnjlgmaa
open Go.RowKit

/-- A policy. -/
structure Pol where
  l0 : Int
  l1 : Int
  h0 : Int
  h1 : Int
  on : Int
  drain : List (List UInt8)
  mx : Int
  tr : Int
  rb : Bool
/-- Its value, with the list of names at A. -/
abbrev valG (g : Pol) (A : Option Addr) (c : Nat) : Value := .agg #[.int .i64 g.l0, .int .i64 g.l1, .int .i64 g.h0, .int .i64 g.h1, .int .i64 g.on, .slice A g.drain.length c, .int .i64 g.mx, .int .i64 g.tr, .bool g.rb]
/-- A list of names lies in memory. -/
structure NamesAt (w : World) (A : Option Addr) (c : Nat) (l : List (List UInt8)) : Prop where
  cells : La.SlAt w A (strC l)
  le : l.length ≤ c
  most : c ≤ 9223372036854775807
  big : ∀ x ∈ l, x.length ≤ 9223372036854775807
theorem NamesAt.below {w w' : World} {A : Option Addr} {c : Nat} {l : List (List UInt8)} (h : NamesAt w A c l) (hb : Below w.heap.size w w') : NamesAt w' A c l := ⟨h.cells.below hb, h.le, h.most, h.big⟩

def upB (n m : Int) : Bool := decide (0 ≤ n) && decide (n ≤ m)
def sharesB (l0 l1 h0 h1 : Int) : Bool := upB h0 1000 && upB l0 h0 && (upB h1 1000 && upB l1 h1)
def drainB (l : List (List UInt8)) : Bool := decide (l.length ≤ 8) && namesB l
/-- May a policy be? -/
def polB (g : Pol) : Bool := sharesB g.l0 g.l1 g.h0 g.h1 && upB g.on 31 && drainB g.drain && upB g.mx 48 && upB g.tr 8
def checkG (g : Pol) : Int := if polB g then 0 else 60

theorem upTo_any (n m : Int) (w : World) :
    Calls Try.prog 44 #[.int .i64 n, .int .i64 m] w fun e w' => e = .returned (.bool (upB n m)) ∧ w' = w := by
  by_cases h0 : (0 : Int) ≤ n
  · by_cases h1 : n ≤ m
    · have hv : upB n m = true := by simp [upB, h0, h1]
      rw [hv]
      go_enter Try.func44, Try.ntmps44
      go_wp2
      go_ret
      exact ⟨rfl, rfl⟩
    · have hv : upB n m = false := by simp [upB, h1]
      rw [hv]
      go_enter Try.func44, Try.ntmps44
      go_wp2
      go_ret
      exact ⟨rfl, rfl⟩
  · have hv : upB n m = false := by simp [upB, h0]
    rw [hv]
    go_enter Try.func44, Try.ntmps44
    go_wp2
    go_ret
    exact ⟨rfl, rfl⟩

set_option maxRecDepth 100000 in
set_option maxHeartbeats 1000000 in
theorem shares2_any (l0 l1 h0 h1 : Int) (w : World) :
    Calls Try.prog 43 #[.agg #[.int .i64 l0, .int .i64 l1], .agg #[.int .i64 h0, .int .i64 h1]] w fun e w' => e = .returned (.bool (sharesB l0 l1 h0 h1)) ∧ Below w.heap.size w w' := by
  have K := Lib.hid (fun n m w => upTo_any n m w)
  have Hl0 := Lib.hid (show sharesB l0 l1 h0 h1 = (upB h0 1000 && upB l0 h0 && (upB h1 1000 && upB l1 h1)) from rfl)
  obtain ⟨R, hR⟩ : ∃ R, sharesB l0 l1 h0 h1 = R := ⟨_, rfl⟩
  rw [hR]
  have HR0 := Lib.hid hR
  clear hR
  obtain ⟨sv1, hu1⟩ : ∃ u, upB h0 1000 = u := ⟨_, rfl⟩
  obtain ⟨sv2, hu2⟩ : ∃ u, upB l0 h0 = u := ⟨_, rfl⟩
  obtain ⟨sv3, hu3⟩ : ∃ u, upB h1 1000 = u := ⟨_, rfl⟩
  obtain ⟨sv4, hu4⟩ : ∃ u, upB l1 h1 = u := ⟨_, rfl⟩
  have K1 : Hid (∀ w, Calls Try.prog 44 #[.int .i64 h0, .int .i64 1000] w fun e w' => e = .returned (.bool sv1) ∧ w' = w) := Lib.hid (fun w => by rw [← hu1]; exact upTo_any _ _ _)
  have K2 : Hid (∀ w, Calls Try.prog 44 #[.int .i64 l0, .int .i64 h0] w fun e w' => e = .returned (.bool sv2) ∧ w' = w) := Lib.hid (fun w => by rw [← hu2]; exact upTo_any _ _ _)
  have K3 : Hid (∀ w, Calls Try.prog 44 #[.int .i64 h1, .int .i64 1000] w fun e w' => e = .returned (.bool sv3) ∧ w' = w) := Lib.hid (fun w => by rw [← hu3]; exact upTo_any _ _ _)
  have K4 : Hid (∀ w, Calls Try.prog 44 #[.int .i64 l1, .int .i64 h1] w fun e w' => e = .returned (.bool sv4) ∧ w' = w) := Lib.hid (fun w => by rw [← hu4]; exact upTo_any _ _ _)
  have HR : Hid (R = (sv1 && sv2 && (sv3 && sv4))) := Lib.hid (by rw [← HR0.out, Hl0.out, hu1, hu2, hu3, hu4])
  clear hu1 hu2 hu3 hu4 K Hl0 HR0
  have B0 : Hid (Below w.heap.size w ((w.alloc (.cells #[.int .i64 l0, .int .i64 l1] 31)).alloc (.cells #[.int .i64 h0, .int .i64 h1] 31))) := Lib.hid ((below1 w _).alloc (by simp) _)
  go_enter Try.func43, Try.ntmps43
  go_wp2_with fail
  have QL : Hid (Blk ((w.alloc (.cells #[.int .i64 l0, .int .i64 l1] 31)).alloc (.cells #[.int .i64 h0, .int .i64 h1] 31)) w.heap.size #[.int .i64 l0, .int .i64 l1] 31) := Lib.hid (Blk.alloc (Blk.new w _ _) _)
  have QH : Hid (Blk ((w.alloc (.cells #[.int .i64 l0, .int .i64 l1] 31)).alloc (.cells #[.int .i64 h0, .int .i64 h1] 31)) (w.heap.size + 1) #[.int .i64 h0, .int .i64 h1] 31) := Lib.hid (by have := Blk.new (w.alloc (.cells #[.int .i64 l0, .int .i64 l1] 31)) #[.int .i64 h0, .int .i64 h1] 31; simpa using this)
  generalize ((w.alloc (.cells #[.int .i64 l0, .int .i64 l1] 31)).alloc (.cells #[.int .i64 h0, .int .i64 h1] 31)) = W at B0 QL QH ⊢
  have hWl := Blk.lt QH.out
  go_loopw [6] (fun i wr => ∃ k : Nat, k ≤ 2 ∧ i = .int .i64 k ∧ (1 ≤ k → sv1 = true ∧ sv2 = true) ∧ (2 ≤ k → sv3 = true ∧ sv4 = true) ∧ Below W.heap.size W wr) (fun i _ => 2 - (intOf i).toNat)
  case atStart => exact ⟨0, by omega, rfl, fun h => by omega, fun h => by omega, Below.refl _ _⟩
  case round =>
    obtain ⟨k, hk, rfl, hp1, hp2, hbw⟩ := hrel
    have QL2 := Lib.hid (Blk.below QL.out hbw (by omega))
    have QH2 := Lib.hid (Blk.below QH.out hbw hWl)
    have HB := Lib.hid hbw
    have B2 := Lib.hid (B0.out.trans (hbw.mono B0.out.size))
    clear hbw
    have a0 : wr.cell? ⟨w.heap.size, 0, none⟩ = some (.int .i64 l0) := Blk.cell QL2.out 0
    have a1 : wr.cell? ⟨w.heap.size, 1, none⟩ = some (.int .i64 l1) := Blk.cell QL2.out 1
    have b0 : wr.cell? ⟨w.heap.size + 1, 0, none⟩ = some (.int .i64 h0) := Blk.cell QH2.out 0
    have b1 : wr.cell? ⟨w.heap.size + 1, 1, none⟩ = some (.int .i64 h1) := Blk.cell QH2.out 1
    rcases k with _ | _ | _ | k
    · clear a1 b1 K3 K4 hp1 hp2
      cases sv1
      · have HN : Hid (R = false) := Lib.hid (by rw [HR.out]; simp)
        go_wp2_with fail
        go_quiet ((go_at_call 44; exact Calls.quiet_of_same (K1.out _)))
        go_wp2
        go_ret
        exact ⟨La.retB HN.out.symm, belowN B2.out _⟩
      · cases sv2
        · have HN : Hid (R = false) := Lib.hid (by rw [HR.out]; simp)
          go_wp2_with fail
          go_quiet ((go_at_call 44; first | with_reducible exact Calls.quiet_of_same (K1.out _) | with_reducible exact Calls.quiet_of_same (K2.out _)))
          go_wp2
          go_ret
          exact ⟨La.retB HN.out.symm, belowN B2.out _⟩
        · go_wp2_with fail
          go_quiet ((go_at_call 44; first | with_reducible exact Calls.quiet_of_same (K1.out _) | with_reducible exact Calls.quiet_of_same (K2.out _)))
          go_wp2
          go_roundw
          case rel => exact ⟨1, by omega, by go_num, fun _ => by simp, fun h => by omega, belowN HB.out _⟩
          case measure => simp [intOf]
    · obtain ⟨e1, e2⟩ := hp1 (by omega)
      clear a0 b0 K1 K2 hp1 hp2
      subst e1 e2
      cases sv3
      · have HN : Hid (R = false) := Lib.hid (by rw [HR.out]; simp)
        go_wp2_with fail
        go_quiet ((go_at_call 44; exact Calls.quiet_of_same (K3.out _)))
        go_wp2
        go_ret
        exact ⟨La.retB HN.out.symm, belowN B2.out _⟩
      · cases sv4
        · have HN : Hid (R = false) := Lib.hid (by rw [HR.out]; simp)
          go_wp2_with fail
          go_quiet ((go_at_call 44; first | with_reducible exact Calls.quiet_of_same (K3.out _) | with_reducible exact Calls.quiet_of_same (K4.out _)))
          go_wp2
          go_ret
          exact ⟨La.retB HN.out.symm, belowN B2.out _⟩
        · go_wp2_with fail
          go_quiet ((go_at_call 44; first | with_reducible exact Calls.quiet_of_same (K3.out _) | with_reducible exact Calls.quiet_of_same (K4.out _)))
          go_wp2
          go_roundw
          case rel => exact ⟨2, by omega, by go_num, fun _ => by simp, fun _ => by simp, belowN HB.out _⟩
          case measure => simp [intOf]
    · obtain ⟨e1, e2⟩ := hp1 (by omega)
      obtain ⟨e3, e4⟩ := hp2 (by omega)
      subst e1 e2 e3 e4
      have HN : Hid (R = true) := Lib.hid (by rw [HR.out]; simp)
      clear hp1 hp2 a0 a1 b0 b1
      go_wp2
      go_ret
      exact ⟨La.retB HN.out.symm, B2.out⟩
    · omega

set_option maxRecDepth 100000 in
set_option maxHeartbeats 2000000 in
theorem drained_any (A : Option Addr) (c : Nat) (l : List (List UInt8)) (w : World) (hc : l.length ≤ c) (hcm : c ≤ 9223372036854775807) (hs : La.SlAt w A (strC l)) (hbig : ∀ x ∈ l, x.length ≤ 9223372036854775807) :
    Calls Try.prog 45 #[.slice A l.length c] w fun e w' => e = .returned (.bool (drainB l)) ∧ Below w.heap.size w w' := by
  have HS := Lib.hid hs
  have Hbig := Lib.hid hbig
  clear hs hbig
  by_cases h8 : 8 < l.length
  · have hv : drainB l = false := by simp [drainB]; omega
    rw [hv]
    have h8i : (8 : Int) < (l.length : Int) := by omega
    go_enter Try.func45, Try.ntmps45
    go_wp2
    go_ret
    exact ⟨rfl, Below.refl _ _⟩
  have hv : drainB l = namesB l := by simp [drainB]; omega
  rw [hv]
  have hl : l.length ≤ 8 := by omega
  have h8i : ¬ (8 : Int) < (l.length : Int) := by omega
  clear hv h8
  obtain ⟨R, hR⟩ : ∃ R, namesB l = R := ⟨_, rfl⟩
  rw [hR]
  have HR := Lib.hid hR
  clear hR
  go_enter Try.func45, Try.ntmps45
  go_wp2
  go_loopw [10] (fun i wr => ∃ k : Nat, k ≤ l.length ∧ i = .int .i64 k ∧ La.chkK La.nameB ltS l k = true ∧ Below w.heap.size w wr) (fun i _ => l.length - (intOf i).toNat)
  case atStart => exact ⟨0, by omega, rfl, rfl, Below.refl _ _⟩
  case round =>
    obtain ⟨k, hk, rfl, hp, hbw⟩ := hrel
    have Hp := Lib.hid hp
    have HB := Lib.hid hbw
    clear hp hbw
    by_cases hlt : k < l.length
    · obtain ⟨x, hxk⟩ : ∃ x, l[k]? = some x := ⟨l[k], List.getElem?_eq_getElem hlt⟩
      obtain ⟨b, o, hA, hb0, hx⟩ := strC_at (HS.out.below HB.out) hxk
      subst hA
      have hstep : La.chkK La.nameB ltS l (k + 1) = La.okAt La.nameB ltS l k x := by rw [La.chkK, Hp.out, hxk]; rfl
      have Hstep := Lib.hid hstep
      have KN := Lib.hid (La.nameB_any x wr (Hbig.out x (List.mem_of_getElem? hxk)))
      have Hxk := Lib.hid hxk
      have k0 : (0 : Int) ≤ (k : Int) := by omega
      have k1 : (k : Int) < (l.length : Int) := by omega
      clear hxk hstep
      go_wp2_with fail
      refine KN.out.mono ?_
      rintro e w3 ⟨rfl, hb3⟩
      have B3 := Lib.hid (HB.out.trans (hb3.mono HB.out.size))
      have Hb3 := Lib.hid hb3
      clear hb3 KN hx
      cases hnb : La.nameB x
      · have hno : R = false := by
          rw [← HR.out]
          exact La.chkK_false (k := k + 1) (by rw [Hstep.out]; exact La.okAt_no hnb) (by omega)
        have HNo := Lib.hid hno
        clear hno
        go_wp2
        go_ret
        exact ⟨La.retB HNo.out.symm, B3.out⟩
      · by_cases hz : k = 0
        · have hok := La.okAt_zero (mb := La.nameB) (ri := ltS) (l := l) (k := k) hnb hz
          have HO := Lib.hid hok
          have hz1 : ¬ (0 : Int) < (k : Int) := by omega
          have hz2 : decide ((0 : Int) < (k : Int)) = false := by simp; omega
          clear hok hz
          go_wp2_with fail
          go_roundw
          case rel => exact ⟨k + 1, by omega, by go_num, by rw [Hstep.out, HO.out], B3.out⟩
          case measure => simp [intOf]; omega
        · obtain ⟨y, hy⟩ : ∃ y, l[k - 1]? = some y := ⟨l[k - 1]'(by omega), List.getElem?_eq_getElem (by omega)⟩
          obtain ⟨b', o', hA', _, hyc⟩ := strC_at (HS.out.below B3.out) hy
          simp only [Option.some.injEq, Addr.mk.injEq] at hA'
          obtain ⟨rfl, rfl, _⟩ := hA'
          have hok := La.okAt_pos (mb := La.nameB) (ri := ltS) (l := l) (k := k) hnb hz hy
          have HO := Lib.hid hok
          have hz1 : (0 : Int) < (k : Int) := by omega
          obtain ⟨m, hm⟩ : ∃ m, k = m + 1 := ⟨k - 1, by omega⟩
          subst hm
          rw [Nat.add_sub_cancel] at hyc
          have m0 : (0 : Int) ≤ (m : Int) := by omega
          have m1 : (m : Int) < (l.length : Int) := by omega
          have m2 : ((m + 1 : Nat) : Int) - 1 = (m : Int) := by omega
          clear hok hz hy
          have hno0 : ltS y x = false → R = false := fun hls => by
            rw [← HR.out]
            exact La.chkK_false (k := m + 1 + 1) (by rw [Hstep.out, HO.out, hls]) (by omega)
          have HN0 := Lib.hid hno0
          clear hno0
          cases h1 : Op.bytesLess x y
          · cases h2 : (x == y)
            · have HL : Hid (ltS y x = true) := Lib.hid (by unfold ltS; rw [h1, h2]; rfl)
              go_wp2
              go_roundw
              case rel => exact ⟨m + 1 + 1, by omega, by go_num, by rw [Hstep.out, HO.out, HL.out], B3.out⟩
              case measure => simp [intOf]; omega
            · have HNo := Lib.hid (HN0.out (by unfold ltS; rw [h1, h2]; rfl))
              go_wp2
              go_ret
              exact ⟨La.retB HNo.out.symm, B3.out⟩
          · have HNo := Lib.hid (HN0.out (by unfold ltS; rw [h1]; rfl))
            go_wp2
            go_ret
            exact ⟨La.retB HNo.out.symm, B3.out⟩
    · obtain rfl : k = l.length := by omega
      have hyes : R = true := by rw [← HR.out]; exact Hp.out
      have HY := Lib.hid hyes
      clear hyes
      go_wp2
      go_ret
      exact ⟨La.retB HY.out.symm, HB.out⟩
abbrev cellsG (g : Pol) (A : Option Addr) (c : Nat) : Array Value := #[.int .i64 g.l0, .int .i64 g.l1, .int .i64 g.h0, .int .i64 g.h1, .int .i64 g.on, .slice A g.drain.length c, .int .i64 g.mx, .int .i64 g.tr, .bool g.rb]
set_option maxRecDepth 100000 in
set_option maxHeartbeats 1000000 in
theorem gcheck_any (g : Pol) (A : Option Addr) (c : Nat) (w : World) (h : NamesAt w A c g.drain) :
    Calls Try.prog 23 #[valG g A c] w fun e w' => e = .returned (.int .i64 (checkG g)) ∧ Below w.heap.size w w' := by
  obtain ⟨s1, h1⟩ : ∃ s, sharesB g.l0 g.l1 g.h0 g.h1 = s := ⟨_, rfl⟩
  obtain ⟨s2, h2⟩ : ∃ s, upB g.on 31 = s := ⟨_, rfl⟩
  obtain ⟨s3, h3⟩ : ∃ s, drainB g.drain = s := ⟨_, rfl⟩
  obtain ⟨s4, h4⟩ : ∃ s, upB g.mx 48 = s := ⟨_, rfl⟩
  obtain ⟨s5, h5⟩ : ∃ s, upB g.tr 8 = s := ⟨_, rfl⟩
  obtain ⟨R, hR⟩ : ∃ R, checkG g = R := ⟨_, rfl⟩
  have HR : Hid (R = if s1 && s2 && s3 && s4 && s5 then 0 else 60) := Lib.hid (by rw [← hR, ← h1, ← h2, ← h3, ← h4, ← h5]; rfl)
  have K1 : Hid (∀ w, Calls Try.prog 43 #[.agg #[.int .i64 g.l0, .int .i64 g.l1], .agg #[.int .i64 g.h0, .int .i64 g.h1]] w fun e w' => e = .returned (.bool s1) ∧ Below w.heap.size w w') := Lib.hid (fun w => by rw [← h1]; exact shares2_any _ _ _ _ _)
  have K2 : Hid (∀ w, Calls Try.prog 44 #[.int .i64 g.on, .int .i64 31] w fun e w' => e = .returned (.bool s2) ∧ w' = w) := Lib.hid (fun w => by rw [← h2]; exact upTo_any _ _ _)
  have K3 : Hid (∀ w', Below w.heap.size w w' → Calls Try.prog 45 #[.slice A g.drain.length c] w' fun e w'' => e = .returned (.bool s3) ∧ Below w'.heap.size w' w'') := Lib.hid (fun w' hb => by
    have h := h.below hb
    rw [← h3]
    exact drained_any A c g.drain w' h.le h.most h.cells h.big)
  have K4 : Hid (∀ w, Calls Try.prog 44 #[.int .i64 g.mx, .int .i64 48] w fun e w' => e = .returned (.bool s4) ∧ w' = w) := Lib.hid (fun w => by rw [← h4]; exact upTo_any _ _ _)
  have K5 : Hid (∀ w, Calls Try.prog 44 #[.int .i64 g.tr, .int .i64 8] w fun e w' => e = .returned (.bool s5) ∧ w' = w) := Lib.hid (fun w => by rw [← h5]; exact upTo_any _ _ _)
  rw [hR]
  clear hR h1 h2 h3 h4 h5
  have B0 : Hid (Below w.heap.size w (w.alloc (.cells (cellsG g A c) 34))) := Lib.hid (below1 w _)
  have Q0 : Hid (Blk (w.alloc (.cells (cellsG g A c) 34)) w.heap.size (cellsG g A c) 34) := Lib.hid (Blk.new w _ _)
  have hlt0 : w.heap.size < (w.alloc (.cells (cellsG g A c) 34)).heap.size := Blk.lt Q0.out
  clear h
  go_enter Try.func23, Try.ntmps23
  go_wp2_with fail
  refine (K1.out _).mono ?_
  rintro e w2 ⟨rfl, hb⟩
  have Q2 := Lib.hid (Q0.out.below hb hlt0)
  have B2 := Lib.hid (B0.out.trans (hb.mono (Nat.le_of_lt hlt0)))
  clear hb K1
  have hl2 := Blk.lt Q2.out
  have c4 : w2.cell? ⟨w.heap.size, 4, none⟩ = some (.int .i64 g.on) := Blk.cell Q2.out 4
  have c5 : w2.cell? ⟨w.heap.size, 5, none⟩ = some (.slice A g.drain.length c) := Blk.cell Q2.out 5
  cases s1
  · have HE : Hid (R = 60) := Lib.hid (by rw [HR.out]; simp)
    go_wp2
    go_ret
    exact ⟨congrArg (fun z => Ending.returned (.int .i64 z)) HE.out.symm, B2.out⟩
  · go_wp2_with fail
    refine (K2.out _).mono ?_
    rintro e w3 ⟨rfl, rfl⟩
    cases s2
    · have HE : Hid (R = 60) := Lib.hid (by rw [HR.out]; simp)
      go_wp2
      go_ret
      exact ⟨congrArg (fun z => Ending.returned (.int .i64 z)) HE.out.symm, B2.out⟩
    · go_wp2_with fail
      refine (K3.out _ B2.out).mono ?_
      rintro e w4 ⟨rfl, hb⟩
      have Q4 := Lib.hid (Q2.out.below hb hl2)
      have B4 := Lib.hid (B2.out.trans (hb.mono (Nat.le_of_lt hl2)))
      clear hb K3 c4 c5
      have c6 : w4.cell? ⟨w.heap.size, 6, none⟩ = some (.int .i64 g.mx) := Blk.cell Q4.out 6
      have c7 : w4.cell? ⟨w.heap.size, 7, none⟩ = some (.int .i64 g.tr) := Blk.cell Q4.out 7
      cases s3
      · have HE : Hid (R = 60) := Lib.hid (by rw [HR.out]; simp)
        go_wp2
        go_ret
        exact ⟨congrArg (fun z => Ending.returned (.int .i64 z)) HE.out.symm, B4.out⟩
      · go_wp2_with fail
        refine (K4.out _).mono ?_
        rintro e w5 ⟨rfl, rfl⟩
        cases s4
        · have HE : Hid (R = 60) := Lib.hid (by rw [HR.out]; simp)
          go_wp2
          go_ret
          exact ⟨congrArg (fun z => Ending.returned (.int .i64 z)) HE.out.symm, B4.out⟩
        · go_wp2_with fail
          refine (K5.out _).mono ?_
          rintro e w6 ⟨rfl, rfl⟩
          cases s5
          · have HE : Hid (R = 60) := Lib.hid (by rw [HR.out]; simp)
            go_wp2
            go_ret
            exact ⟨congrArg (fun z => Ending.returned (.int .i64 z)) HE.out.symm, B4.out⟩
          · have HE : Hid (R = 0) := Lib.hid (by rw [HR.out]; simp)
            go_wp2
            go_ret
            exact ⟨congrArg (fun z => Ending.returned (.int .i64 z)) HE.out.symm, B4.out⟩

end Go.Proofs.Ytmdmjnffnjlgmaa

namespace Go.Proofs.Ytmdmjnffnjlgmaa
open Go.RowKit Go.Maps Go.Shelf
attribute [local go_sem] Oper.semAt_some

theorem has_any (P : Option Addr) (cp : Nat) (p : List Int) (node : Int) (w : World) (hp : IntsAt w P cp p) :
    Calls Try.prog 27 #[.slice P p.length cp, .int .i64 node] w fun e w' => e = .returned (.bool (p.contains node)) ∧ Below w.heap.size w w' := by
  have KC : Hid (Calls Try.prog 48 #[.slice P p.length cp, .int .i64 node] w fun e w' => e = .returned (.bool (p.contains node)) ∧ w' = w) := Lib.hid (by
    cases p with
    | nil => exact Try.slices_Contains_int_empty P cp node w
    | cons x t =>
      obtain ⟨b, o, rfl, hb, hc⟩ := atI hp.cells (k := 0) (x := x) rfl
      have K := Try.slices_Contains_int b o (x :: t).length cp (x :: t) node w (Nat.le_refl _) (by have := hp.le; have := hp.most; omega) (fun j hj => by
        obtain ⟨b', o', hA, _, hc'⟩ := atI hp.cells (k := j) (x := (x :: t)[j]) (List.getElem?_eq_getElem hj)
        cases hA
        rw [List.getD_eq_getElem?_getD, List.getElem?_eq_getElem hj]
        exact hc')
      rw [List.take_length] at K
      exact K)
  generalize p.contains node = R at KC ⊢
  clear hp
  go_enter Try.func27, Try.ntmps27
  go_wp2_with fail
  refine (KC.out).mono ?_
  rintro e w1 ⟨rfl, rfl⟩
  go_wp2
  go_ret
  exact ⟨rfl, Below.refl _ _⟩
/-- Is a node low, high, idle? -/
def lowB (ns : List NodeD) (ps : List PodD) (p : List Int) (g : Pol) (n : Nat) : Bool := p.contains (n : Int) && decide (sharesU ns ps p n 0 < g.l0) && decide (sharesU ns ps p n 1 < g.l1)
def highB (ns : List NodeD) (ps : List PodD) (p : List Int) (g : Pol) (n : Nat) : Bool := decide (g.h0 ≠ 0 ∧ g.h0 < sharesU ns ps p n 0) || decide (g.h1 ≠ 0 ∧ g.h1 < sharesU ns ps p n 1)
def idleB (p : List Int) (n : Nat) : Bool := !p.contains (n : Int)

set_option maxRecDepth 100000 in
set_option maxHeartbeats 1000000 in
theorem idle1_any (Pb : Nat) (P : Option Addr) (cp : Nat) (p : List Int) (n : Nat) (w : World) (hP : Blk w Pb #[.slice P p.length cp] 29) (hp : IntsAt w P cp p) :
    Calls Try.prog 30 #[.int .i64 (n : Int), .pointer (some ⟨Pb, 0, none⟩)] w fun e w' => e = .returned (.bool (idleB p n)) ∧ Below w.heap.size w w' := by
  have KH := Lib.hid (has_any P cp p (n : Int) w hp)
  have E : Hid (idleB p n = !p.contains (n : Int)) := Lib.hid rfl
  have p0 : w.cell? ⟨Pb, 0, none⟩ = some (.slice P p.length cp) := Blk.cell hP 0
  generalize idleB p n = R at E ⊢
  generalize p.contains (n : Int) = b at KH E
  clear hp hP
  go_enter Try.func30, Try.ntmps30
  go_wp2_with fail
  refine (KH.out).mono ?_
  rintro e w1 ⟨rfl, hb⟩
  have D := Lib.hid hb
  clear hb
  go_wp2
  go_ret
  rw [E.out]
  exact ⟨rfl, D.out⟩

set_option maxRecDepth 100000 in
set_option maxHeartbeats 2000000 in
theorem low1_any (Sb Pb Gb : Nat) (A B C P G : Option Addr) (ca cb cc cp cg : Nat) (ns : List NodeD) (ps : List PodD) (os : List OwnD) (p : List Int) (g : Pol) (n : Nat) (w : World) (hS : Blk w Sb (snapC A B C ca cb cc ns ps os) 26) (hP : Blk w Pb #[.slice P p.length cp] 29) (hG : Blk w Gb (cellsG g G cg) 34)
    (h : SnapIn w A B C ca cb cc ns ps os) (hp : IntsAt w P cp p) (hE : placeE ns ps os p = 0) (hn : n < ns.length) :
    Calls Try.prog 25 #[.int .i64 (n : Int), .pointer (some ⟨Sb, 0, none⟩), .pointer (some ⟨Pb, 0, none⟩), .pointer (some ⟨Gb, 0, none⟩)] w fun e w' => e = .returned (.bool (lowB ns ps p g n)) ∧ Below w.heap.size w w' := by
  have KS := Lib.hid (shares_any A B C P ca cb cc cp ns ps os p n w (h.at (placeE_few hE)) hp hE hn)
  have KH := Lib.hid (fun W' (hb : Below w.heap.size w W') => has_any P cp p (n : Int) W' (hp.below hb))
  have E : Hid (lowB ns ps p g n = (p.contains (n : Int) && decide (sharesU ns ps p n 0 < g.l0) && decide (sharesU ns ps p n 1 < g.l1))) := Lib.hid rfl
  generalize lowB ns ps p g n = R at E ⊢
  generalize p.contains (n : Int) = b at KH E
  generalize sharesU ns ps p n 0 = x at KS E
  generalize sharesU ns ps p n 1 = y at KS E
  have HS := Lib.hid hS
  have HP := Lib.hid hP
  have HG := Lib.hid hG
  have s0 : w.cell? ⟨Sb, 0, none⟩ = some (.slice A ns.length ca) := Blk.cell hS 0
  have s1 : w.cell? ⟨Sb, 1, none⟩ = some (.slice B ps.length cb) := Blk.cell hS 1
  have s2 : w.cell? ⟨Sb, 2, none⟩ = some (.slice C os.length cc) := Blk.cell hS 2
  have p0 : w.cell? ⟨Pb, 0, none⟩ = some (.slice P p.length cp) := Blk.cell hP 0
  clear h hp hE hn hS hP hG
  go_enter Try.func25, Try.ntmps25
  go_wp2_with fail
  refine (KS.out).mono ?_
  rintro e w1 ⟨rfl, hb⟩
  have B1 : Hid (Below w.heap.size w (w1.alloc (.cells (row2 x y) 31))) := Lib.hid (hb.alloc hb.size _)
  have X1 := Lib.hid (Blk.new w1 (row2 x y) 31)
  clear hb KS s0 s1 s2 p0
  go_upto_region 2 with fail
  try change Code.wp _ _ _ _ (w1.alloc (.cells (row2 x y) 31))
  generalize (w1.alloc (.cells (row2 x y) 31)) = W at B1 X1 ⊢
  generalize w1.heap.size = Xb at X1 ⊢
  have KH1 := Lib.hid (KH.out _ B1.out)
  have p0 : W.cell? ⟨Pb, 0, none⟩ = some (.slice P p.length cp) := Blk.cell (HP.out.below B1.out HP.out.lt) 0
  clear KH HS
  go_wp2_with fail
  refine (KH1.out).mono ?_
  rintro e w2 ⟨rfl, hb⟩
  have B2 := Lib.hid (B1.out.trans (hb.mono B1.out.size))
  have X2 := Lib.hid (X1.out.below hb X1.out.lt)
  clear hb p0 KH1 B1 X1
  have x0 : w2.cell? ⟨Xb, 0, none⟩ = some (.int .i64 x) := Blk.cell X2.out 0
  have x1 : w2.cell? ⟨Xb, 1, none⟩ = some (.int .i64 y) := Blk.cell X2.out 1
  have g0 : w2.cell? ⟨Gb, 0, none⟩ = some (.int .i64 g.l0) := Blk.cell (HG.out.below B2.out HG.out.lt) 0
  have g1 : w2.cell? ⟨Gb, 1, none⟩ = some (.int .i64 g.l1) := Blk.cell (HG.out.below B2.out HG.out.lt) 1
  cases b with
  | false =>
    have HE : Hid (R = false) := Lib.hid (by rw [E.out]; rfl)
    clear E
    go_wp2
    go_ret
    rw [HE.out]
    exact ⟨rfl, B2.out⟩
  | true =>
    by_cases h0 : x < g.l0
    · have h0d : decide (x < g.l0) = true := decide_eq_true h0
      by_cases h1 : y < g.l1
      · have h1d : decide (y < g.l1) = true := decide_eq_true h1
        have HE : Hid (R = true) := Lib.hid (by rw [E.out, h0d, h1d]; rfl)
        clear E
        go_wp2
        go_ret
        rw [HE.out]
        exact ⟨rfl, B2.out⟩
      · have h1d : decide (y < g.l1) = false := decide_eq_false h1
        have HE : Hid (R = false) := Lib.hid (by rw [E.out, h1d]; simp)
        clear E
        go_wp2
        go_ret
        rw [HE.out]
        exact ⟨rfl, B2.out⟩
    · have h0d : decide (x < g.l0) = false := decide_eq_false h0
      have HE : Hid (R = false) := Lib.hid (by rw [E.out, h0d]; rfl)
      clear E
      go_wp2
      go_ret
      rw [HE.out]
      exact ⟨rfl, B2.out⟩

set_option maxRecDepth 100000 in
set_option maxHeartbeats 2000000 in
theorem high1_any (Sb Pb Gb : Nat) (A B C P G : Option Addr) (ca cb cc cp cg : Nat) (ns : List NodeD) (ps : List PodD) (os : List OwnD) (p : List Int) (g : Pol) (n : Nat) (w : World) (hS : Blk w Sb (snapC A B C ca cb cc ns ps os) 26) (hP : Blk w Pb #[.slice P p.length cp] 29) (hG : Blk w Gb (cellsG g G cg) 34)
    (h : SnapIn w A B C ca cb cc ns ps os) (hp : IntsAt w P cp p) (hE : placeE ns ps os p = 0) (hn : n < ns.length) :
    Calls Try.prog 28 #[.int .i64 (n : Int), .pointer (some ⟨Sb, 0, none⟩), .pointer (some ⟨Pb, 0, none⟩), .pointer (some ⟨Gb, 0, none⟩)] w fun e w' => e = .returned (.bool (highB ns ps p g n)) ∧ Below w.heap.size w w' := by
  have KS := Lib.hid (shares_any A B C P ca cb cc cp ns ps os p n w (h.at (placeE_few hE)) hp hE hn)
  have E : Hid (highB ns ps p g n = (decide (g.h0 ≠ 0 ∧ g.h0 < sharesU ns ps p n 0) || decide (g.h1 ≠ 0 ∧ g.h1 < sharesU ns ps p n 1))) := Lib.hid rfl
  generalize highB ns ps p g n = R at E ⊢
  generalize sharesU ns ps p n 0 = x at KS E
  generalize sharesU ns ps p n 1 = y at KS E
  have K0 := Lib.hid (fun W' => above_any x g.h0 W')
  have K1 := Lib.hid (fun W' => above_any y g.h1 W')
  generalize decide (g.h0 ≠ 0 ∧ g.h0 < x) = b0 at K0 E
  generalize decide (g.h1 ≠ 0 ∧ g.h1 < y) = b1 at K1 E
  have HS := Lib.hid hS
  have HP := Lib.hid hP
  have HG := Lib.hid hG
  have s0 : w.cell? ⟨Sb, 0, none⟩ = some (.slice A ns.length ca) := Blk.cell hS 0
  have s1 : w.cell? ⟨Sb, 1, none⟩ = some (.slice B ps.length cb) := Blk.cell hS 1
  have s2 : w.cell? ⟨Sb, 2, none⟩ = some (.slice C os.length cc) := Blk.cell hS 2
  have p0 : w.cell? ⟨Pb, 0, none⟩ = some (.slice P p.length cp) := Blk.cell hP 0
  clear h hp hE hn hS hP hG
  go_enter Try.func28, Try.ntmps28
  go_wp2_with fail
  refine (KS.out).mono ?_
  rintro e w1 ⟨rfl, hb⟩
  have B1 : Hid (Below w.heap.size w (w1.alloc (.cells (row2 x y) 31))) := Lib.hid (hb.alloc hb.size _)
  have X1 := Lib.hid (Blk.new w1 (row2 x y) 31)
  clear hb KS s0 s1 s2 p0
  go_upto_region 2 with fail
  try change Code.wp _ _ _ _ (w1.alloc (.cells (row2 x y) 31))
  generalize (w1.alloc (.cells (row2 x y) 31)) = W at B1 X1 ⊢
  generalize w1.heap.size = Xb at X1 ⊢
  have x0 : W.cell? ⟨Xb, 0, none⟩ = some (.int .i64 x) := Blk.cell X1.out 0
  have g0 : W.cell? ⟨Gb, 2, none⟩ = some (.int .i64 g.h0) := Blk.cell (HG.out.below B1.out HG.out.lt) 2
  clear HS HP
  go_wp2_with fail
  refine (K0.out _).mono ?_
  rintro e w2 ⟨rfl, hb⟩
  have B2 := Lib.hid (B1.out.trans (hb.mono B1.out.size))
  have X2 := Lib.hid (X1.out.below hb X1.out.lt)
  clear hb x0 g0 K0 B1 X1
  have x1 : w2.cell? ⟨Xb, 1, none⟩ = some (.int .i64 y) := Blk.cell X2.out 1
  have g1 : w2.cell? ⟨Gb, 3, none⟩ = some (.int .i64 g.h1) := Blk.cell (HG.out.below B2.out HG.out.lt) 3
  cases b0 with
  | true =>
    have HE : Hid (R = true) := Lib.hid (by rw [E.out]; rfl)
    clear E
    go_wp2
    go_ret
    rw [HE.out]
    exact ⟨rfl, B2.out⟩
  | false =>
    have HE : Hid (R = b1) := Lib.hid (by rw [E.out]; rfl)
    clear E
    go_wp2_with fail
    refine (K1.out _).mono ?_
    rintro e w3 ⟨rfl, hb⟩
    have B3 := Lib.hid (B2.out.trans (hb.mono B2.out.size))
    clear hb
    go_wp2
    go_ret
    rw [HE.out]
    exact ⟨rfl, B3.out⟩
end Go.Proofs.Ytmdmjnffnjlgmaa

namespace Go.Proofs.Ytmdmjnffnjlgmaa
open Go.RowKit Go.Maps Go.Shelf
attribute [local go_sem] Oper.semAt_some

theorem pick_any (A B C P : Option Addr) (ca cb cc cp : Nat) (ns : List NodeD) (ps : List PodD) (os : List OwnD) (p : List Int) (f : FuncId) (lb : Array Value) (F : Nat → Bool) (hfe : ∀ args w, (callFunc f args).run Try.prog w = .ok (.enter f args) w) (w : World) (h : SnapIn w A B C ca cb cc ns ps os) (hp : IntsAt w P cp p)
    (hF : placeE ns ps os p = 0 → ∀ (k : Nat) W', k < ns.length → Below w.heap.size w W' → Calls Try.prog f (#[.int .i64 (k : Int)] ++ lb) W' fun e W'' => e = .returned (.bool (F k)) ∧ Below W'.heap.size W' W'') :
    Calls Try.prog 24 #[snapV A B C ca cb cc ns ps os, .slice P p.length cp, .func (.func f) #[] lb] w fun e w' => ∃ v, e = .returned v ∧ w'.ownsRow w.heap.size 3 1 v (pickF ns ps os p F).length (intsC (pickF ns ps os p F)) ∧ Below w.heap.size w w' := by
  by_cases hE : placeE ns ps os p = 0
  · have e : pickF ns ps os p F = (thatU ns F ns.length).map (fun k : Nat => (k : Int)) := by unfold pickF; rw [if_pos hE]
    rw [e, List.length_map]
    exact pick_ok A B C P ca cb cc cp ns ps os p f lb F hfe w h hp hE (hF hE)
  · have e : pickF ns ps os p F = [] := by unfold pickF; rw [if_neg hE]
    rw [e]
    refine (pick_no A B C P ca cb cc cp ns ps os p _ w h hp hE).mono ?_
    rintro e w' ⟨rfl, hb⟩
    exact ⟨_, rfl, World.ownsRow_nil _ _ _ _, hb⟩
/-- What Low, High, Idle tell. -/
def lowF (ns : List NodeD) (ps : List PodD) (os : List OwnD) (p : List Int) (g : Pol) : List Int := if checkG g = 0 then pickF ns ps os p (lowB ns ps p g) else []
def highF (ns : List NodeD) (ps : List PodD) (os : List OwnD) (p : List Int) (g : Pol) : List Int := if checkG g = 0 then pickF ns ps os p (highB ns ps p g) else []
def idleF (ns : List NodeD) (ps : List PodD) (os : List OwnD) (p : List Int) : List Int := pickF ns ps os p (idleB p)
theorem own_moreH {w : World} {base base' : Nat} {e : TypeId} {size n : Nat} {v : Value} {xs : List Value} (h : w.ownsRow base e size v n xs) (hb : base' ≤ base) : w.ownsRow base' e size v n xs := by
  obtain ⟨hl, h1 | ⟨g, cap, cur, hv, h0, r⟩⟩ := h
  · exact ⟨hl, .inl h1⟩
  · exact ⟨hl, .inr ⟨g, cap, cur, hv, Nat.le_trans hb h0, r⟩⟩

set_option maxRecDepth 100000 in
set_option maxHeartbeats 2000000 in
theorem hLow_in (A B C P G : Option Addr) (ca cb cc cp cg : Nat) (ns : List NodeD) (ps : List PodD) (os : List OwnD) (p : List Int) (g : Pol) (w : World) (h : SnapIn w A B C ca cb cc ns ps os) (hp : IntsAt w P cp p) (hg : NamesAt w G cg g.drain) :
    Calls Try.prog 9 #[snapV A B C ca cb cc ns ps os, .slice P p.length cp, valG g G cg] w fun e w' => ∃ v, e = .returned v ∧ w'.ownsRow w.heap.size 3 1 v (lowF ns ps os p g).length (intsC (lowF ns ps os p g)) ∧ Below w.heap.size w w' := by
  have B0 : Hid (Below w.heap.size w (((w.alloc (.cells (snapC A B C ca cb cc ns ps os) 26)).alloc (.cells #[.slice P p.length cp] 29)).alloc (.cells (cellsG g G cg) 34))) := Lib.hid ((Qu.below2 w _ _).alloc (by simp; omega) _)
  have S0 : Hid (Blk (((w.alloc (.cells (snapC A B C ca cb cc ns ps os) 26)).alloc (.cells #[.slice P p.length cp] 29)).alloc (.cells (cellsG g G cg) 34)) w.heap.size (snapC A B C ca cb cc ns ps os) 26) := Lib.hid (Blk.alloc (Blk.alloc (Blk.new w _ _) _) _)
  have P0 : Hid (Blk (((w.alloc (.cells (snapC A B C ca cb cc ns ps os) 26)).alloc (.cells #[.slice P p.length cp] 29)).alloc (.cells (cellsG g G cg) 34)) (w.heap.size + 1) #[.slice P p.length cp] 29) := Lib.hid (Blk.alloc (blk2 w _ _ _) _)
  have G0 : Hid (Blk (((w.alloc (.cells (snapC A B C ca cb cc ns ps os) 26)).alloc (.cells #[.slice P p.length cp] 29)).alloc (.cells (cellsG g G cg) 34)) (w.heap.size + 1 + 1) (cellsG g G cg) 34) := Lib.hid (blk3 w _ _ _ _)
  have KG := Lib.hid (gcheck_any g G cg _ (hg.below B0.out))
  have H := Lib.hid h
  have HP := Lib.hid hp
  have KP := Lib.hid (fun W' (hb : Below w.heap.size w W') (hS : Blk W' w.heap.size (snapC A B C ca cb cc ns ps os) 26) (hP : Blk W' (w.heap.size + 1) #[.slice P p.length cp] 29) (hG : Blk W' (w.heap.size + 1 + 1) (cellsG g G cg) 34) =>
    pick_any A B C P ca cb cc cp ns ps os p 25 #[.pointer (some ⟨w.heap.size, 0, none⟩), .pointer (some ⟨w.heap.size + 1, 0, none⟩), .pointer (some ⟨w.heap.size + 1 + 1, 0, none⟩)] (lowB ns ps p g) (fun _ _ => by kernel_rfl) W' (h.low hb) (hp.below hb)
      (fun hE k W'' hk hb2 => low1_any w.heap.size (w.heap.size + 1) (w.heap.size + 1 + 1) A B C P G ca cb cc cp cg ns ps os p g k W'' (hS.below hb2 hS.lt) (hP.below hb2 hP.lt) (hG.below hb2 hG.lt) (h.low (hb.trans (hb2.mono hb.size))) (hp.below (hb.trans (hb2.mono hb.size))) hE hk))
  have E : Hid (lowF ns ps os p g = if checkG g = 0 then pickF ns ps os p (lowB ns ps p g) else []) := Lib.hid rfl
  generalize lowF ns ps os p g = R at E ⊢
  generalize pickF ns ps os p (lowB ns ps p g) = Q at KP E
  generalize checkG g = c at KG E
  clear h hp hg
  go_enter Try.func9, Try.ntmps9
  go_upto_region 1 with fail
  try change Code.wp _ _ _ _ (((w.alloc (.cells (snapC A B C ca cb cc ns ps os) 26)).alloc (.cells #[.slice P p.length cp] 29)).alloc (.cells (cellsG g G cg) 34))
  generalize (((w.alloc (.cells (snapC A B C ca cb cc ns ps os) 26)).alloc (.cells #[.slice P p.length cp] 29)).alloc (.cells (cellsG g G cg) 34)) = W at B0 S0 P0 G0 KG ⊢
  have g0 : W.cell? ⟨w.heap.size + 1 + 1, 0, none⟩ = some (.int .i64 g.l0) := Blk.cell G0.out 0
  have g1 : W.cell? ⟨w.heap.size + 1 + 1, 1, none⟩ = some (.int .i64 g.l1) := Blk.cell G0.out 1
  have g2 : W.cell? ⟨w.heap.size + 1 + 1, 2, none⟩ = some (.int .i64 g.h0) := Blk.cell G0.out 2
  have g3 : W.cell? ⟨w.heap.size + 1 + 1, 3, none⟩ = some (.int .i64 g.h1) := Blk.cell G0.out 3
  have g4 : W.cell? ⟨w.heap.size + 1 + 1, 4, none⟩ = some (.int .i64 g.on) := Blk.cell G0.out 4
  have g5 : W.cell? ⟨w.heap.size + 1 + 1, 5, none⟩ = some (.slice G g.drain.length cg) := Blk.cell G0.out 5
  have g6 : W.cell? ⟨w.heap.size + 1 + 1, 6, none⟩ = some (.int .i64 g.mx) := Blk.cell G0.out 6
  have g7 : W.cell? ⟨w.heap.size + 1 + 1, 7, none⟩ = some (.int .i64 g.tr) := Blk.cell G0.out 7
  have g8 : W.cell? ⟨w.heap.size + 1 + 1, 8, none⟩ = some (.bool g.rb) := Blk.cell G0.out 8
  go_wp2_with fail
  refine (KG.out).mono ?_
  rintro e w1 ⟨rfl, hb⟩
  have B1 := Lib.hid (B0.out.trans (hb.mono B0.out.size))
  have S1 := Lib.hid (S0.out.below hb S0.out.lt)
  have P1 := Lib.hid (P0.out.below hb P0.out.lt)
  have G1 := Lib.hid (G0.out.below hb G0.out.lt)
  clear hb KG B0 S0 P0 G0 g0 g1 g2 g3 g4 g5 g6 g7 g8
  by_cases hc : c = 0
  · subst hc
    have HE : Hid (R = Q) := Lib.hid E.out
    have s0 : w1.cell? ⟨w.heap.size, 0, none⟩ = some (.slice A ns.length ca) := Blk.cell S1.out 0
    have s1 : w1.cell? ⟨w.heap.size, 1, none⟩ = some (.slice B ps.length cb) := Blk.cell S1.out 1
    have s2 : w1.cell? ⟨w.heap.size, 2, none⟩ = some (.slice C os.length cc) := Blk.cell S1.out 2
    have p0 : w1.cell? ⟨w.heap.size + 1, 0, none⟩ = some (.slice P p.length cp) := Blk.cell P1.out 0
    have KP1 := Lib.hid (KP.out _ B1.out S1.out P1.out G1.out)
    clear KP E
    go_wp2_with fail
    refine (KP1.out).mono ?_
    rintro e w2 ⟨v, rfl, ho, hb⟩
    obtain ⟨V, cv, rfl, _⟩ := La.own_slice ho
    have D := Lib.hid (B1.out.trans (hb.mono B1.out.size))
    have HO := Lib.hid (own_moreH ho B1.out.size)
    clear ho hb s0 s1 s2 p0
    go_wp2
    go_ret
    rw [HE.out]
    exact ⟨_, rfl, HO.out, D.out⟩
  · have hcb : (c != 0) = true := by simpa using hc
    have HE : Hid (R = []) := Lib.hid (by rw [E.out, if_neg hc])
    clear E hc KP
    go_wp2
    go_ret
    rw [HE.out]
    exact ⟨_, rfl, World.ownsRow_nil _ _ _ _, B1.out⟩

set_option maxRecDepth 100000 in
set_option maxHeartbeats 2000000 in
theorem hHigh_in (A B C P G : Option Addr) (ca cb cc cp cg : Nat) (ns : List NodeD) (ps : List PodD) (os : List OwnD) (p : List Int) (g : Pol) (w : World) (h : SnapIn w A B C ca cb cc ns ps os) (hp : IntsAt w P cp p) (hg : NamesAt w G cg g.drain) :
    Calls Try.prog 10 #[snapV A B C ca cb cc ns ps os, .slice P p.length cp, valG g G cg] w fun e w' => ∃ v, e = .returned v ∧ w'.ownsRow w.heap.size 3 1 v (highF ns ps os p g).length (intsC (highF ns ps os p g)) ∧ Below w.heap.size w w' := by
  have B0 : Hid (Below w.heap.size w (((w.alloc (.cells (snapC A B C ca cb cc ns ps os) 26)).alloc (.cells #[.slice P p.length cp] 29)).alloc (.cells (cellsG g G cg) 34))) := Lib.hid ((Qu.below2 w _ _).alloc (by simp; omega) _)
  have S0 : Hid (Blk (((w.alloc (.cells (snapC A B C ca cb cc ns ps os) 26)).alloc (.cells #[.slice P p.length cp] 29)).alloc (.cells (cellsG g G cg) 34)) w.heap.size (snapC A B C ca cb cc ns ps os) 26) := Lib.hid (Blk.alloc (Blk.alloc (Blk.new w _ _) _) _)
  have P0 : Hid (Blk (((w.alloc (.cells (snapC A B C ca cb cc ns ps os) 26)).alloc (.cells #[.slice P p.length cp] 29)).alloc (.cells (cellsG g G cg) 34)) (w.heap.size + 1) #[.slice P p.length cp] 29) := Lib.hid (Blk.alloc (blk2 w _ _ _) _)
  have G0 : Hid (Blk (((w.alloc (.cells (snapC A B C ca cb cc ns ps os) 26)).alloc (.cells #[.slice P p.length cp] 29)).alloc (.cells (cellsG g G cg) 34)) (w.heap.size + 1 + 1) (cellsG g G cg) 34) := Lib.hid (blk3 w _ _ _ _)
  have KG := Lib.hid (gcheck_any g G cg _ (hg.below B0.out))
  have H := Lib.hid h
  have HP := Lib.hid hp
  have KP := Lib.hid (fun W' (hb : Below w.heap.size w W') (hS : Blk W' w.heap.size (snapC A B C ca cb cc ns ps os) 26) (hP : Blk W' (w.heap.size + 1) #[.slice P p.length cp] 29) (hG : Blk W' (w.heap.size + 1 + 1) (cellsG g G cg) 34) =>
    pick_any A B C P ca cb cc cp ns ps os p 28 #[.pointer (some ⟨w.heap.size, 0, none⟩), .pointer (some ⟨w.heap.size + 1, 0, none⟩), .pointer (some ⟨w.heap.size + 1 + 1, 0, none⟩)] (highB ns ps p g) (fun _ _ => by kernel_rfl) W' (h.low hb) (hp.below hb)
      (fun hE k W'' hk hb2 => high1_any w.heap.size (w.heap.size + 1) (w.heap.size + 1 + 1) A B C P G ca cb cc cp cg ns ps os p g k W'' (hS.below hb2 hS.lt) (hP.below hb2 hP.lt) (hG.below hb2 hG.lt) (h.low (hb.trans (hb2.mono hb.size))) (hp.below (hb.trans (hb2.mono hb.size))) hE hk))
  have E : Hid (highF ns ps os p g = if checkG g = 0 then pickF ns ps os p (highB ns ps p g) else []) := Lib.hid rfl
  generalize highF ns ps os p g = R at E ⊢
  generalize pickF ns ps os p (highB ns ps p g) = Q at KP E
  generalize checkG g = c at KG E
  clear h hp hg
  go_enter Try.func10, Try.ntmps10
  go_upto_region 1 with fail
  try change Code.wp _ _ _ _ (((w.alloc (.cells (snapC A B C ca cb cc ns ps os) 26)).alloc (.cells #[.slice P p.length cp] 29)).alloc (.cells (cellsG g G cg) 34))
  generalize (((w.alloc (.cells (snapC A B C ca cb cc ns ps os) 26)).alloc (.cells #[.slice P p.length cp] 29)).alloc (.cells (cellsG g G cg) 34)) = W at B0 S0 P0 G0 KG ⊢
  have g0 : W.cell? ⟨w.heap.size + 1 + 1, 0, none⟩ = some (.int .i64 g.l0) := Blk.cell G0.out 0
  have g1 : W.cell? ⟨w.heap.size + 1 + 1, 1, none⟩ = some (.int .i64 g.l1) := Blk.cell G0.out 1
  have g2 : W.cell? ⟨w.heap.size + 1 + 1, 2, none⟩ = some (.int .i64 g.h0) := Blk.cell G0.out 2
  have g3 : W.cell? ⟨w.heap.size + 1 + 1, 3, none⟩ = some (.int .i64 g.h1) := Blk.cell G0.out 3
  have g4 : W.cell? ⟨w.heap.size + 1 + 1, 4, none⟩ = some (.int .i64 g.on) := Blk.cell G0.out 4
  have g5 : W.cell? ⟨w.heap.size + 1 + 1, 5, none⟩ = some (.slice G g.drain.length cg) := Blk.cell G0.out 5
  have g6 : W.cell? ⟨w.heap.size + 1 + 1, 6, none⟩ = some (.int .i64 g.mx) := Blk.cell G0.out 6
  have g7 : W.cell? ⟨w.heap.size + 1 + 1, 7, none⟩ = some (.int .i64 g.tr) := Blk.cell G0.out 7
  have g8 : W.cell? ⟨w.heap.size + 1 + 1, 8, none⟩ = some (.bool g.rb) := Blk.cell G0.out 8
  go_wp2_with fail
  refine (KG.out).mono ?_
  rintro e w1 ⟨rfl, hb⟩
  have B1 := Lib.hid (B0.out.trans (hb.mono B0.out.size))
  have S1 := Lib.hid (S0.out.below hb S0.out.lt)
  have P1 := Lib.hid (P0.out.below hb P0.out.lt)
  have G1 := Lib.hid (G0.out.below hb G0.out.lt)
  clear hb KG B0 S0 P0 G0 g0 g1 g2 g3 g4 g5 g6 g7 g8
  by_cases hc : c = 0
  · subst hc
    have HE : Hid (R = Q) := Lib.hid E.out
    have s0 : w1.cell? ⟨w.heap.size, 0, none⟩ = some (.slice A ns.length ca) := Blk.cell S1.out 0
    have s1 : w1.cell? ⟨w.heap.size, 1, none⟩ = some (.slice B ps.length cb) := Blk.cell S1.out 1
    have s2 : w1.cell? ⟨w.heap.size, 2, none⟩ = some (.slice C os.length cc) := Blk.cell S1.out 2
    have p0 : w1.cell? ⟨w.heap.size + 1, 0, none⟩ = some (.slice P p.length cp) := Blk.cell P1.out 0
    have KP1 := Lib.hid (KP.out _ B1.out S1.out P1.out G1.out)
    clear KP E
    go_wp2_with fail
    refine (KP1.out).mono ?_
    rintro e w2 ⟨v, rfl, ho, hb⟩
    obtain ⟨V, cv, rfl, _⟩ := La.own_slice ho
    have D := Lib.hid (B1.out.trans (hb.mono B1.out.size))
    have HO := Lib.hid (own_moreH ho B1.out.size)
    clear ho hb s0 s1 s2 p0
    go_wp2
    go_ret
    rw [HE.out]
    exact ⟨_, rfl, HO.out, D.out⟩
  · have hcb : (c != 0) = true := by simpa using hc
    have HE : Hid (R = []) := Lib.hid (by rw [E.out, if_neg hc])
    clear E hc KP
    go_wp2
    go_ret
    rw [HE.out]
    exact ⟨_, rfl, World.ownsRow_nil _ _ _ _, B1.out⟩

set_option maxRecDepth 100000 in
set_option maxHeartbeats 2000000 in
theorem hIdle_in (A B C P : Option Addr) (ca cb cc cp : Nat) (ns : List NodeD) (ps : List PodD) (os : List OwnD) (p : List Int) (w : World) (h : SnapIn w A B C ca cb cc ns ps os) (hp : IntsAt w P cp p) :
    Calls Try.prog 11 #[snapV A B C ca cb cc ns ps os, .slice P p.length cp] w fun e w' => ∃ v, e = .returned v ∧ w'.ownsRow w.heap.size 3 1 v (idleF ns ps os p).length (intsC (idleF ns ps os p)) ∧ Below w.heap.size w w' := by
  have KP := Lib.hid (fun W' (Pb : Nat) (hb : Below w.heap.size w W') (hP : Blk W' Pb #[.slice P p.length cp] 29) =>
    pick_any A B C P ca cb cc cp ns ps os p 30 #[.pointer (some ⟨Pb, 0, none⟩)] (idleB p) (fun _ _ => by kernel_rfl) W' (h.low hb) (hp.below hb)
      (fun hE k W'' hk hb2 => idle1_any Pb P cp p k W'' (hP.below hb2 hP.lt) (hp.below (hb.trans (hb2.mono hb.size)))))
  unfold idleF
  generalize pickF ns ps os p (idleB p) = Q at KP ⊢
  clear h hp
  go_enter Try.func11, Try.ntmps11
  go_upto_region 1 with fail
  try change Code.wp _ _ _ _ (((w.alloc (.cells (snapC A B C ca cb cc ns ps os) 26)).alloc (.cells #[.slice P p.length cp] 29)))
  have B0 : Hid (Below w.heap.size w (((w.alloc (.cells (snapC A B C ca cb cc ns ps os) 26)).alloc (.cells #[.slice P p.length cp] 29)))) := Lib.hid (Qu.below2 w _ _)
  have S0 : Hid (Blk (((w.alloc (.cells (snapC A B C ca cb cc ns ps os) 26)).alloc (.cells #[.slice P p.length cp] 29))) w.heap.size (snapC A B C ca cb cc ns ps os) 26) := Lib.hid (Blk.alloc (Blk.new w _ _) _)
  have P0 : Hid (Blk (((w.alloc (.cells (snapC A B C ca cb cc ns ps os) 26)).alloc (.cells #[.slice P p.length cp] 29))) (w.heap.size + 1) #[.slice P p.length cp] 29) := Lib.hid (blk2 w _ _ _)
  generalize (((w.alloc (.cells (snapC A B C ca cb cc ns ps os) 26)).alloc (.cells #[.slice P p.length cp] 29))) = W at B0 S0 P0 ⊢
  have s0 : W.cell? ⟨w.heap.size, 0, none⟩ = some (.slice A ns.length ca) := Blk.cell S0.out 0
  have s1 : W.cell? ⟨w.heap.size, 1, none⟩ = some (.slice B ps.length cb) := Blk.cell S0.out 1
  have s2 : W.cell? ⟨w.heap.size, 2, none⟩ = some (.slice C os.length cc) := Blk.cell S0.out 2
  have p0 : W.cell? ⟨w.heap.size + 1, 0, none⟩ = some (.slice P p.length cp) := Blk.cell P0.out 0
  have KP1 := Lib.hid (KP.out _ (w.heap.size + 1) B0.out P0.out)
  clear KP
  go_wp2_with fail
  refine (KP1.out).mono ?_
  rintro e w2 ⟨v, rfl, ho, hb⟩
  obtain ⟨V, cv, rfl, _⟩ := La.own_slice ho
  have D := Lib.hid (B0.out.trans (hb.mono B0.out.size))
  have HO := Lib.hid (own_moreH ho B0.out.size)
  clear ho hb s0 s1 s2 p0
  go_wp2
  go_ret
  exact ⟨_, rfl, HO.out, D.out⟩
end Go.Proofs.Ytmdmjnffnjlgmaa

namespace Go.Proofs.Ytmdmjnffnjlgmaa
open Go.RowKit

abbrev row5H (a b : Int) : Nat → Int := fun k => if k = 0 then a else if k = 1 then b else 0
def heNode (c : UInt8) (a b : Int) : NodeD := { name := [c], cap := row5H a b, labels := [], taints := [], cordon := false, lost := false, al := none, cl := 0, at_ := none, ct := 0 }
def hePod (c : UInt8) (a b : Int) : PodD := { name := [c], owner := [], req := row5H a b, labels := [], whr := [], bears := [], wt := [], wtm := [], ap := [], apm := [], on := [], al := none, cl := 0, aw := none, cw := 0, ab := none, cb := 0, awt := none, cwt := 0, aap := none, cap := 0 }
def heN : List NodeD := [heNode 97 100 100, heNode 98 100 0]
def heP : List PodD := [hePod 112 30 10, hePod 113 90 1]
def heG : Pol := { l0 := 400, l1 := 400, h0 := 1000, h1 := 1000, on := 0, drain := [], mx := 0, tr := 0, rb := false }
def heH : Pol := { l0 := 0, l1 := 0, h0 := 500, h1 := 0, on := 0, drain := [], mx := 0, tr := 0, rb := false }

theorem he1 : row2 (shareF heN heP [] [0, -1] 0 0) (shareF heN heP [] [0, -1] 0 1) = row2 300 100 := by kernel_rfl
theorem he2 : row2 (shareF heN heP [] [1, 1] 1 0) (shareF heN heP [] [1, 1] 1 1) = row2 1200 1000 := by kernel_rfl
theorem he3 : row2 (shareF heN heP [] [0, 0] 2 0) (shareF heN heP [] [0, 0] 2 1) = row2 0 0 := by kernel_rfl
theorem he4 : lowF heN heP [] [0, 1] heG = [0] := by kernel_rfl
theorem he5 : highF heN heP [] [0, 1] heH = [1] := by kernel_rfl
theorem he6 : idleF heN heP [] [0, -1] = [1] := by kernel_rfl

theorem part2_0 (a b : Int) (w : World) : (Go.part 3 #[.int .i64 a, .int .i64 b] 0).run Try.prog w = .ok (.int .i64 a) w := by kernel_rfl
theorem part2_1 (a b : Int) (w : World) : (Go.part 3 #[.int .i64 a, .int .i64 b] 1).run Try.prog w = .ok (.int .i64 b) w := by kernel_rfl
theorem eq2_in (n : Nat) (a b : Int) (w : World) : (Op.equalIn (n + 2) 31 (.agg #[.int .i64 a, .int .i64 b]) (.agg #[.int .i64 a, .int .i64 b])).run Try.prog w = .ok true w := by
  rw [Op.equalIn]
  simp only [Sem.run_bind, run_underlying Try.underlying31, Result.andThen_ok, Qu.int_size]
  simp [Std.Legacy.Range.forIn_eq_forIn_range', Std.Legacy.Range.size, List.range', Sem.run_bind, part2_0, part2_1, Qu.eq_int]
theorem eq2 (a b : Int) (w : World) : (Op.equalIn 10000 31 (.agg #[.int .i64 a, .int .i64 b]) (.agg #[.int .i64 a, .int .i64 b])).run Try.prog w = .ok true w := eq2_in 9998 a b w
theorem guard2 : Try.prog.eqGuardType Try.prog.depth 31 = false := by kernel_rfl

/-- The cluster and its box lie in memory, from block N on. -/
structure HwAt (w W : World) (N : Nat) : Prop where
  s : SnapIn W (some ⟨N, 0, none⟩) (some ⟨N + 1, 0, none⟩) none 2 2 0 heN heP []
  b : Blk W (N + 2) #[.slice (some ⟨N, 0, none⟩) 2 2, .slice (some ⟨N + 1, 0, none⟩) 2 2, .slice none 0 0] 26
  w : Below w.heap.size w W
theorem HwAt.below {w W W' : World} {N : Nat} (h : HwAt w W N) (hb : Below W.heap.size W W') : HwAt w W' N := ⟨h.s.low hb, h.b.below hb h.b.lt, h.w.trans (hb.mono h.w.size)⟩
theorem HwAt.c0 {w W : World} {N : Nat} (h : HwAt w W N) : W.cell? ⟨N + 2, 0, none⟩ = some (.slice (some ⟨N, 0, none⟩) 2 2) ∧ W.cell? ⟨N + 2, 1, none⟩ = some (.slice (some ⟨N + 1, 0, none⟩) 2 2) ∧ W.cell? ⟨N + 2, 2, none⟩ = some (.slice none 0 0) :=
  ⟨Blk.cell h.b 0, Blk.cell h.b 1, Blk.cell h.b 2⟩
theorem HwAt.new (w : World) : HwAt w (((w.alloc (.cells (cellsN heN).toArray 46)).alloc (.cells (cellsP heP).toArray 58)).alloc (.cells #[.slice (some ⟨w.heap.size, 0, none⟩) 2 2, .slice (some ⟨w.heap.size + 1, 0, none⟩) 2 2, .slice none 0 0] 26)) w.heap.size := by
  have hN : Blk (((w.alloc (.cells (cellsN heN).toArray 46)).alloc (.cells (cellsP heP).toArray 58)).alloc (.cells #[.slice (some ⟨w.heap.size, 0, none⟩) 2 2, .slice (some ⟨w.heap.size + 1, 0, none⟩) 2 2, .slice none 0 0] 26)) w.heap.size (cellsN heN).toArray 46 := Blk.alloc (Blk.alloc (Blk.new w _ _) _) _
  have hP : Blk (((w.alloc (.cells (cellsN heN).toArray 46)).alloc (.cells (cellsP heP).toArray 58)).alloc (.cells #[.slice (some ⟨w.heap.size, 0, none⟩) 2 2, .slice (some ⟨w.heap.size + 1, 0, none⟩) 2 2, .slice none 0 0] 26)) (w.heap.size + 1) (cellsP heP).toArray 58 := Blk.alloc (blk2 w _ _ _) _
  have hS : Blk (((w.alloc (.cells (cellsN heN).toArray 46)).alloc (.cells (cellsP heP).toArray 58)).alloc (.cells #[.slice (some ⟨w.heap.size, 0, none⟩) 2 2, .slice (some ⟨w.heap.size + 1, 0, none⟩) 2 2, .slice none 0 0] 26)) (w.heap.size + 2) #[.slice (some ⟨w.heap.size, 0, none⟩) 2 2, .slice (some ⟨w.heap.size + 1, 0, none⟩) 2 2, .slice none 0 0] 26 := by
    have := Blk.new ((w.alloc (.cells (cellsN heN).toArray 46)).alloc (.cells (cellsP heP).toArray 58)) #[.slice (some ⟨w.heap.size, 0, none⟩) 2 2, .slice (some ⟨w.heap.size + 1, 0, none⟩) 2 2, .slice none 0 0] 26
    rwa [World.size_alloc, World.size_alloc] at this
  have hB : Below w.heap.size w (((w.alloc (.cells (cellsN heN).toArray 46)).alloc (.cells (cellsP heP).toArray 58)).alloc (.cells #[.slice (some ⟨w.heap.size, 0, none⟩) 2 2, .slice (some ⟨w.heap.size + 1, 0, none⟩) 2 2, .slice none 0 0] 26)) := (Qu.below2 w _ _).alloc (by simp; omega) _
  generalize (((w.alloc (.cells (cellsN heN).toArray 46)).alloc (.cells (cellsP heP).toArray 58)).alloc (.cells #[.slice (some ⟨w.heap.size, 0, none⟩) 2 2, .slice (some ⟨w.heap.size + 1, 0, none⟩) 2 2, .slice none 0 0] 26)) = W at hN hP hS hB ⊢
  have nolab : ListL W none 0 [] := ⟨by simp, by omega, fun j y hj => by simp [La.cellsL] at hj, fun x hx => by cases hx⟩
  have noter : ListT W none 0 [] := ⟨by simp, by omega, fun j y hj => by simp [La.cellsT] at hj, fun x hx => by cases hx⟩
  refine ⟨⟨⟨fun j y hj => ⟨w.heap.size, 0, rfl, ?_⟩, fun x hx => ?_⟩, ⟨fun j y hj => ⟨w.heap.size + 1, 0, rfl, ?_⟩, fun x hx => ?_⟩, fun j y hj => (by simp [cellsO] at hj), fun x hx => (by cases hx), ⟨by simp [heN], by omega⟩, ⟨by simp [heP], by omega⟩, ⟨by simp, by omega⟩⟩, hS, hB⟩
  · rw [Nat.zero_add, Blk.cell hN j, ← hj, ← List.getElem?_toArray]
  · simp only [heN, List.mem_cons, List.not_mem_nil, or_false] at hx
    rcases hx with rfl | rfl <;> exact ⟨nolab, nolab, by simp [heNode]⟩
  · rw [Nat.zero_add, Blk.cell hP j, ← hj, ← List.getElem?_toArray]
  · simp only [heP, List.mem_cons, List.not_mem_nil, or_false] at hx
    rcases hx with rfl | rfl <;> exact ⟨nolab, noter, nolab, noter, noter, by simp [hePod]⟩
theorem ints_newH (W : World) (l : List Int) (hl : l.length ≤ 1000) : IntsAt (W.alloc (.cells (intsC l).toArray 3)) (some ⟨W.heap.size, 0, none⟩) l.length l := by
  refine ⟨fun j y hj => ⟨W.heap.size, 0, rfl, ?_⟩, Nat.le_refl _, by omega⟩
  rw [Nat.zero_add, Blk.cell (Blk.new W _ _) j, ← hj, ← List.getElem?_toArray]
theorem NamesAt.nilH (w : World) : NamesAt w none 0 [] := ⟨fun j y hj => (by simp [strC] at hj), Nat.le_refl _, by omega, fun x hx => (by cases hx)⟩
end Go.Proofs.Ytmdmjnffnjlgmaa

namespace Go.Proofs.Ytmdmjnffnjlgmaa
open Go.RowKit

/-- Numbers that can be copied. -/
structure NumsIn (w : World) (P : Option Addr) (cp : Nat) (l : List Int) : Prop where
  ints : IntsAt w P cp l
  nil : P = none → cp = 0
  few : l.length * 8 ≤ 140737488355328
theorem NumsIn.below {w w' : World} {P : Option Addr} {cp : Nat} {l : List Int} (h : NumsIn w P cp l) (hb : Below w.heap.size w w') : NumsIn w' P cp l := ⟨h.ints.below hb, h.nil, h.few⟩
theorem NumsIn.own {w : World} {base : Nat} {A : Option Addr} {c : Nat} {l : List Int} (h : w.ownsRow base 3 1 (.slice A l.length c) l.length (intsC l)) (hl : l.length * 8 ≤ 140737488355328) : NumsIn w A c l := by
  refine ⟨IntsAt.own h, fun e => ?_, hl⟩
  subst e
  rcases h.2 with ⟨hv, _⟩ | ⟨g, cap, cur, hv, _⟩
  · simp only [Value.slice.injEq] at hv
    exact hv.2.2
  · cases hv
theorem noneI {w : World} {l : List Int} (h : La.SlAt w none (intsC l)) : l = [] := by
  cases l with
  | nil => rfl
  | cons x t =>
    obtain ⟨b, o, hA, _⟩ := atI h (k := 0) (x := x) rfl
    cases hA
set_option maxHeartbeats 1000000 in
theorem copyInts_any (P : Option Addr) (cp : Nat) (l : List Int) (w : World) (h : NumsIn w P cp l) :
    Calls Try.prog 16 #[.slice P l.length cp] w fun e w' => ∃ v, e = .returned v ∧ w'.ownsRow w.heap.size 3 1 v l.length (intsC l) ∧ Below w.heap.size w w' := by
  obtain ⟨i0, hi0, hz0, hz1, hz2⟩ := info_parts Qu.int_info
  have hf := h.few
  cases P with
  | none =>
    obtain rfl := noneI h.ints.cells
    obtain rfl := h.nil rfl
    clear h
    go_enter Try.func16, Try.ntmps16
    go_wp2_with (at_builtin; refine wpList_append_own_none rfl _ _ 29 rfl w.heap.size 3 i0 1 Try.underlying29 hi0 _ _ _ rfl (World.ownsRow_nil _ _ _ _) rfl ?_)
    go_ret
    exact ⟨_, rfl, World.ownsRow_nil _ _ _ _, Below.refl _ _⟩
  | some ad =>
    have HC := Lib.hid h.ints.cells
    clear h
    go_enter Try.func16, Try.ntmps16
    go_wp2_with (at_builtin; refine wpList_append_own _ rfl _ _ 29 rfl w.heap.size 3 i0 (.int .i64 0) 1 8 Try.underlying29 hi0 hz0 hz1 hz2 rfl (by decide) _ _ _ rfl (World.ownsRow_nil _ _ _ _) ad l.length cp (intsC l) rfl ?c0 ?c1 ?c2 ?c3 ?c4 ?c5 ?_)
    case c0 => simp [intsC]
    case c1 =>
      intro j u hj
      obtain ⟨b, o, hA, hc⟩ := HC.out j u hj
      cases hA
      rw [WideShapes.add_plain]
      exact hc
    case c2 =>
      intro u hu
      obtain ⟨x, _, rfl⟩ := List.mem_map.1 hu
      rfl
    case c3 => unfold maxLen; omega
    case c4 => omega
    case c5 => omega
    intro v' w2 hown' hgrow' _
    have HO := Lib.hid hown'
    have HB := Lib.hid ((Below.refl w.heap.size w).grown hgrow' (Nat.le_refl _) (fun j hj => by cases hj))
    clear hown' hgrow'
    go_wp2
    go_ret
    refine ⟨_, rfl, ?_, HB.out⟩
    have := HO.out
    first | exact this | rwa [Nat.zero_add, List.nil_append] at this

end Go.Proofs.Ytmdmjnffnjlgmaa

namespace Go.Proofs.Ytmdmjnffnjlgmaa
open Go.RowKit

set_option maxRecDepth 100000 in
set_option maxHeartbeats 8000000 in
theorem works12_any (w : World) :
    Calls Try.prog 5 #[] w fun e w' => e = .returned (.bool true) ∧ Below w.heap.size w w' := by
  have H0 := Lib.hid (HwAt.new w)
  have hg2 := guard2
  have heq2 := eq2
  go_enter Try.func5, Try.ntmps5
  go_upto_region 2 with fail
  change Code.wp _ _ _ _ (((w.alloc (.cells (cellsN heN).toArray 46)).alloc (.cells (cellsP heP).toArray 58)).alloc (.cells #[.slice (some ⟨w.heap.size, 0, none⟩) 2 2, .slice (some ⟨w.heap.size + 1, 0, none⟩) 2 2, .slice none 0 0] 26))
  generalize (((w.alloc (.cells (cellsN heN).toArray 46)).alloc (.cells (cellsP heP).toArray 58)).alloc (.cells #[.slice (some ⟨w.heap.size, 0, none⟩) 2 2, .slice (some ⟨w.heap.size + 1, 0, none⟩) 2 2, .slice none 0 0] 26)) = V0 at H0 ⊢
  have I1 := Lib.hid (ints_newH V0 [0, -1] (by simp))
  have H1 := Lib.hid (H0.out.below (below1 V0 (.cells (intsC [0, -1]).toArray 3)))
  have KS := Lib.hid (hShare_in _ _ _ _ 2 2 0 2 heN heP [] [0, -1] 0 _ H1.out.s I1.out)
  rw [he1] at KS
  obtain ⟨b0, b1, b2⟩ := H0.out.c0
  go_wp2_with fail
  refine (KS.out).mono ?_
  rintro e W1 ⟨rfl, hb⟩
  have G1 := Lib.hid (H1.out.below hb)
  clear hb KS H0 H1 I1 b0 b1 b2
  generalize W1 = V1 at G1 ⊢
  have H1 := G1
  clear G1
  have I2 := Lib.hid (ints_newH V1 [1, 1] (by simp))
  have H2 := Lib.hid (H1.out.below (below1 V1 (.cells (intsC [1, 1]).toArray 3)))
  have KS := Lib.hid (hShare_in _ _ _ _ 2 2 0 2 heN heP [] [1, 1] 1 _ H2.out.s I2.out)
  rw [he2] at KS
  obtain ⟨b0, b1, b2⟩ := H1.out.c0
  go_wp2_with fail
  refine (KS.out).mono ?_
  rintro e W2 ⟨rfl, hb⟩
  have G2 := Lib.hid (H2.out.below hb)
  clear hb KS H1 H2 I2 b0 b1 b2
  generalize W2 = V2 at G2 ⊢
  have H2 := G2
  clear G2
  have I3 := Lib.hid (ints_newH V2 [0, 0] (by simp))
  have H3 := Lib.hid (H2.out.below (below1 V2 (.cells (intsC [0, 0]).toArray 3)))
  have KS := Lib.hid (hShare_in _ _ _ _ 2 2 0 2 heN heP [] [0, 0] 2 _ H3.out.s I3.out)
  rw [he3] at KS
  obtain ⟨b0, b1, b2⟩ := H2.out.c0
  go_wp2_with fail
  refine (KS.out).mono ?_
  rintro e W3 ⟨rfl, hb⟩
  have G3 := Lib.hid (H3.out.below hb)
  clear hb KS H2 H3 I3 b0 b1 b2
  generalize W3 = V3 at G3 ⊢
  have H3 := G3
  clear G3
  have I4 := Lib.hid (ints_newH V3 [0, 1] (by simp))
  have H4 := Lib.hid (H3.out.below (below1 V3 (.cells (intsC [0, 1]).toArray 3)))
  have KL := Lib.hid (hLow_in _ _ _ _ none 2 2 0 2 0 heN heP [] [0, 1] heG _ H4.out.s I4.out (NamesAt.nilH _))
  rw [he4] at KL
  obtain ⟨b0, b1, b2⟩ := H3.out.c0
  go_wp2_with fail
  refine (KL.out).mono ?_
  rintro e W4 ⟨v, rfl, ho, hb⟩
  have G4 := Lib.hid (H4.out.below hb)
  obtain ⟨Ua, Uc, rfl, _⟩ := La.own_slice ho
  have L_4 := Lib.hid (IntsAt.own ho)
  clear ho hb KL H3 H4 I4 b0 b1 b2
  generalize W4 = V4 at G4 L_4 ⊢
  have H4 := G4
  clear G4
  have I5 := Lib.hid (ints_newH V4 [0, 1] (by simp))
  have H5 := Lib.hid (H4.out.below (below1 V4 (.cells (intsC [0, 1]).toArray 3)))
  have KL := Lib.hid (hHigh_in _ _ _ _ none 2 2 0 2 0 heN heP [] [0, 1] heH _ H5.out.s I5.out (NamesAt.nilH _))
  rw [he5] at KL
  obtain ⟨b0, b1, b2⟩ := H4.out.c0
  go_wp2_with fail
  refine (KL.out).mono ?_
  rintro e W5 ⟨v, rfl, ho, hb⟩
  have L_5 := Lib.hid (L_4.out.below ((below1 V4 (.cells (intsC [0, 1]).toArray 3)).trans (hb.mono (below1 V4 (.cells (intsC [0, 1]).toArray 3)).size)))
  have G5 := Lib.hid (H5.out.below hb)
  obtain ⟨Ma, Mc, rfl, _⟩ := La.own_slice ho
  have M_5 := Lib.hid (IntsAt.own ho)
  clear ho hb KL H4 H5 I5 b0 b1 b2 L_4
  generalize W5 = V5 at G5 M_5 L_5 ⊢
  have H5 := G5
  clear G5
  have I6 := Lib.hid (ints_newH V5 [0] (by simp))
  have H6 := Lib.hid (H5.out.below (below1 V5 (.cells (intsC [0]).toArray 3)))
  have KQ := Lib.hid (eqInts_any _ _ Uc 1 [0] [0] _ (by simp) (L_5.out.below (below1 V5 (.cells (intsC [0]).toArray 3))) I6.out)
  rw [decide_eq_true (rfl : ([0] : List Int) = [0])] at KQ
  obtain ⟨b0, b1, b2⟩ := H5.out.c0
  go_wp2_with fail
  refine (KQ.out).mono ?_
  rintro e W6 ⟨rfl, hb⟩
  have M_6 := Lib.hid (M_5.out.below ((below1 V5 (.cells (intsC [0]).toArray 3)).trans (hb.mono (below1 V5 (.cells (intsC [0]).toArray 3)).size)))
  have G6 := Lib.hid (H6.out.below hb)
  clear hb KQ H5 H6 I6 b0 b1 b2 L_5 M_5
  generalize W6 = V6 at G6 M_6 ⊢
  have H6 := G6
  clear G6
  have I7 := Lib.hid (ints_newH V6 [1] (by simp))
  have H7 := Lib.hid (H6.out.below (below1 V6 (.cells (intsC [1]).toArray 3)))
  have KQ := Lib.hid (eqInts_any _ _ Mc 1 [1] [1] _ (by simp) (M_6.out.below (below1 V6 (.cells (intsC [1]).toArray 3))) I7.out)
  rw [decide_eq_true (rfl : ([1] : List Int) = [1])] at KQ
  obtain ⟨b0, b1, b2⟩ := H6.out.c0
  go_wp2_with fail
  refine (KQ.out).mono ?_
  rintro e W7 ⟨rfl, hb⟩
  have G7 := Lib.hid (H7.out.below hb)
  clear hb KQ H6 H7 I7 b0 b1 b2 M_6
  generalize W7 = V7 at G7 ⊢
  have H7 := G7
  clear G7
  have I8 := Lib.hid (ints_newH V7 [0, -1] (by simp))
  have H8 := Lib.hid (H7.out.below (below1 V7 (.cells (intsC [0, -1]).toArray 3)))
  have KL := Lib.hid (hIdle_in _ _ _ _ 2 2 0 2 heN heP [] [0, -1] _ H8.out.s I8.out)
  rw [he6] at KL
  obtain ⟨b0, b1, b2⟩ := H7.out.c0
  go_wp2_with fail
  refine (KL.out).mono ?_
  rintro e W8 ⟨v, rfl, ho, hb⟩
  have G8 := Lib.hid (H8.out.below hb)
  obtain ⟨Qa, Qc, rfl, _⟩ := La.own_slice ho
  have Q_8 := Lib.hid (IntsAt.own ho)
  clear ho hb KL H7 H8 I8 b0 b1 b2
  generalize W8 = V8 at G8 Q_8 ⊢
  have H8 := G8
  clear G8
  have I9 := Lib.hid (ints_newH V8 [1] (by simp))
  have H9 := Lib.hid (H8.out.below (below1 V8 (.cells (intsC [1]).toArray 3)))
  have KQ := Lib.hid (eqInts_any _ _ Qc 1 [1] [1] _ (by simp) (Q_8.out.below (below1 V8 (.cells (intsC [1]).toArray 3))) I9.out)
  rw [decide_eq_true (rfl : ([1] : List Int) = [1])] at KQ
  obtain ⟨b0, b1, b2⟩ := H8.out.c0
  go_wp2_with fail
  refine (KQ.out).mono ?_
  rintro e W9 ⟨rfl, hb⟩
  have G9 := Lib.hid (H9.out.below hb)
  clear hb KQ H8 H9 I9 b0 b1 b2 Q_8
  generalize W9 = V9 at G9 ⊢
  have H9 := G9
  clear G9
  go_wp2
  go_ret
  exact ⟨rfl, H9.out.w⟩
end Go.Proofs.Ytmdmjnffnjlgmaa
