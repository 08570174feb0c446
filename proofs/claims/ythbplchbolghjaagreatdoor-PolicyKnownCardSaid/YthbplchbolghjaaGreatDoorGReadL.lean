/- All lines, one behind the other. Conditions: the words lie in memory; the variables hold what was laid. -/
import Derived.Test.YthbplchbolghjaaGreatDoorGLines
namespace Go.Proofs.YthbplchbolghjaaGreatDoor
open Go.RowKit

theorem lines_stop {s z : PR} : ∀ {j n : Nat}, j ≤ n → linesK s j = (false, z) → linesK s n = (false, z)
  | j, 0, h, hj => by
    obtain rfl : j = 0 := by omega
    exact hj
  | j, n + 1, h, hj => by
    by_cases e : j = n + 1
    · rw [e] at hj
      exact hj
    · rw [linesK, lines_stop (j := j) (n := n) (by omega) hj]
theorem read_stop {s z : PR} {j : Nat} (h : j ≤ 7) (hj : linesK s j = (false, z)) : readP s = (false, z) := by
  unfold readP
  rw [lines_stop h hj]
theorem own_lt {w : World} {base : Nat} {e : TypeId} {size : Nat} {A : Option Addr} {c n : Nat} {xs : List Value} (h : w.ownsRow base e size (.slice A n c) n xs) {b o : Nat} (hA : A = some ⟨b, o, none⟩) : b < w.heap.size := by
  rcases h.2 with ⟨h1, _⟩ | ⟨g, cap, cur, h1, hb, hg, _⟩
  · cases h1
    cases hA
  · cases h1
    cases hA
    exact (Array.getElem?_eq_some_iff.1 hg).1

set_option maxRecDepth 100000 in
set_option maxHeartbeats 4000000 in
theorem readLines_any (W0 : World) (g : Nat) (A1 : Option Addr) (c1 : Nat) (A2 : Option Addr) (c2 : Nat) (A3 : Option Addr) (c3 : Nat) (s : PR) (w : World) (he : Env W0) (hw : Below W0.heap.size W0 w) (hg : W0.heap.size ≤ g) (hm : RdM w g A1 c1 A2 c2 A3 c3 s) (hv : Inv 0 s) :
    Calls Tryz.prog 40 #[.pointer (some ⟨g, 0, none⟩)] w fun e w' => e = .returned (.bool (readP s).1) ∧ (∃ A1' c1' A2' c2' A3' c3', RdM w' g A1' c1' A2' c2' A3' c3' (readP s).2) ∧ Below g w w' := by
  have hgl := Blk.lt hm.blk
  have HE := Lib.hid he
  have HW := Lib.hid hw
  have HM := Lib.hid (hm.below (below1 w (.cells #[.func (Fn.func 63) #[.pointer (some ⟨g, 0, none⟩)] #[], .func (Fn.func 64) #[.pointer (some ⟨g, 0, none⟩)] #[], .func (Fn.func 65) #[.pointer (some ⟨g, 0, none⟩)] #[], .func (Fn.func 66) #[.pointer (some ⟨g, 0, none⟩)] #[], .func (Fn.func 67) #[.pointer (some ⟨g, 0, none⟩)] #[], .func (Fn.func 68) #[.pointer (some ⟨g, 0, none⟩)] #[], .func (Fn.func 69) #[.pointer (some ⟨g, 0, none⟩)] #[]] 103)))
  have B0 : Hid (Below w.heap.size w (w.alloc (.cells #[.func (Fn.func 63) #[.pointer (some ⟨g, 0, none⟩)] #[], .func (Fn.func 64) #[.pointer (some ⟨g, 0, none⟩)] #[], .func (Fn.func 65) #[.pointer (some ⟨g, 0, none⟩)] #[], .func (Fn.func 66) #[.pointer (some ⟨g, 0, none⟩)] #[], .func (Fn.func 67) #[.pointer (some ⟨g, 0, none⟩)] #[], .func (Fn.func 68) #[.pointer (some ⟨g, 0, none⟩)] #[], .func (Fn.func 69) #[.pointer (some ⟨g, 0, none⟩)] #[]] 103))) := Lib.hid (below1 w _)
  have Q0 : Hid (Blk (w.alloc (.cells #[.func (Fn.func 63) #[.pointer (some ⟨g, 0, none⟩)] #[], .func (Fn.func 64) #[.pointer (some ⟨g, 0, none⟩)] #[], .func (Fn.func 65) #[.pointer (some ⟨g, 0, none⟩)] #[], .func (Fn.func 66) #[.pointer (some ⟨g, 0, none⟩)] #[], .func (Fn.func 67) #[.pointer (some ⟨g, 0, none⟩)] #[], .func (Fn.func 68) #[.pointer (some ⟨g, 0, none⟩)] #[], .func (Fn.func 69) #[.pointer (some ⟨g, 0, none⟩)] #[]] 103)) w.heap.size #[.func (Fn.func 63) #[.pointer (some ⟨g, 0, none⟩)] #[], .func (Fn.func 64) #[.pointer (some ⟨g, 0, none⟩)] #[], .func (Fn.func 65) #[.pointer (some ⟨g, 0, none⟩)] #[], .func (Fn.func 66) #[.pointer (some ⟨g, 0, none⟩)] #[], .func (Fn.func 67) #[.pointer (some ⟨g, 0, none⟩)] #[], .func (Fn.func 68) #[.pointer (some ⟨g, 0, none⟩)] #[], .func (Fn.func 69) #[.pointer (some ⟨g, 0, none⟩)] #[]] 103) := Lib.hid (Blk.new w _ _)
  have HN : Hid (∀ b o, A3 = some ⟨b, o, none⟩ → b ≠ w.heap.size) := Lib.hid (fun b o hA => Nat.ne_of_lt (own_lt hm.own hA))
  obtain ⟨T, hT⟩ : ∃ T, readP s = T := ⟨_, rfl⟩
  have HT := Lib.hid hT
  rw [hT]
  clear hT hm he hw
  go_enter Tryz.func40, Tryz.ntmps40
  go_upto_region 2 with fail
  generalize w.alloc (.cells #[.func (Fn.func 63) #[.pointer (some ⟨g, 0, none⟩)] #[], .func (Fn.func 64) #[.pointer (some ⟨g, 0, none⟩)] #[], .func (Fn.func 65) #[.pointer (some ⟨g, 0, none⟩)] #[], .func (Fn.func 66) #[.pointer (some ⟨g, 0, none⟩)] #[], .func (Fn.func 67) #[.pointer (some ⟨g, 0, none⟩)] #[], .func (Fn.func 68) #[.pointer (some ⟨g, 0, none⟩)] #[], .func (Fn.func 69) #[.pointer (some ⟨g, 0, none⟩)] #[]] 103) = W at B0 Q0 HM ⊢
  obtain ⟨RR, hRR⟩ : ∃ RR, w.heap.size = RR := ⟨_, rfl⟩
  rw [hRR] at Q0 HN
  have hRg : RR ≠ g := by omega
  have hRW := Blk.lt Q0.out
  have hgW := Blk.lt HM.out.blk
  have HWW := Lib.hid (HW.out.trans (B0.out.mono HW.out.size))
  have EW := Lib.hid (HE.out.below HWW.out)
  have kc0 : W.cell? ⟨0, 0, none⟩ = some (strV [108, 111, 119]) := EW.out.keys 0 _ rfl
  have kc1 : W.cell? ⟨0, 1, none⟩ = some (strV [104, 105, 103, 104]) := EW.out.keys 1 _ rfl
  have kc2 : W.cell? ⟨0, 2, none⟩ = some (strV [111, 110]) := EW.out.keys 2 _ rfl
  have kc3 : W.cell? ⟨0, 3, none⟩ = some (strV [100, 114, 97, 105, 110]) := EW.out.keys 3 _ rfl
  have kc4 : W.cell? ⟨0, 4, none⟩ = some (strV [109, 111, 118, 101, 115]) := EW.out.keys 4 _ rfl
  have kc5 : W.cell? ⟨0, 5, none⟩ = some (strV [116, 114, 105, 101, 115]) := EW.out.keys 5 _ rfl
  have kc6 : W.cell? ⟨0, 6, none⟩ = some (strV [114, 111, 108, 108, 98, 97, 99, 107]) := EW.out.keys 6 _ rfl
  have HB0 := Lib.hid (B0.out.mono (Nat.le_of_lt hgl))
  clear B0 HW
  rw [hRR]
  clear hRR
  go_wp2_with fail
  go_loopw [22] (fun i wr => ∃ (k : Nat) (s' : PR) (A1 : Option Addr) (c1 : Nat) (A2 : Option Addr) (c2 : Nat) (A3 : Option Addr) (c3 : Nat), k ≤ 7 ∧ i = .int .i64 k ∧ linesK s k = (true, s') ∧ Inv k s' ∧ (∀ b o, A3 = some ⟨b, o, none⟩ → b ≠ RR) ∧ RdM wr g A1 c1 A2 c2 A3 c3 s' ∧ KeepD g RR W wr) (fun i _ => 7 - (intOf i).toNat)
  case atStart => exact ⟨0, s, A1, c1, A2, c2, A3, c3, by omega, rfl, rfl, hv, HN.out, HM.out, KeepD.refl _ _ _⟩
  case round =>
    clear HN HM hv 
    obtain ⟨k, s', A1, c1, A2, c2, A3, c3, hk, rfl, hp, hv, hn, hm', hk'⟩ := hrel
    have Hp := Lib.hid hp
    have HV := Lib.hid hv
    have HN := Lib.hid hn
    have HM' := Lib.hid hm'
    have HK' := Lib.hid hk'
    have hgr := Blk.lt hm'.blk
    have HWr := Lib.hid (HWW.out.trans (hk'.below hg (by omega)))
    have HRr := Lib.hid (show Blk wr RR _ _ from (hk'.block RR hRW (Or.inr rfl)).trans Q0.out)
    have HBr := Lib.hid (HB0.out.trans (hk'.below (Nat.le_refl g) (by omega)))
    clear hp hv hn hm' hk' Q0 HWW HB0
    obtain rfl | rfl | rfl | rfl | rfl | rfl | rfl | rfl : k = 0 ∨ k = 1 ∨ k = 2 ∨ k = 3 ∨ k = 4 ∨ k = 5 ∨ k = 6 ∨ k = 7 := by omega
    · cases hb : beginP s' [108, 111, 119] with
      | mk b s2 =>
      have HI := Lib.hid (begin_inv HV.out hb)
      have KB := begins_any g A1 c1 A2 c2 A3 c3 s' [108, 111, 119] wr HM'.out
      rw [hb] at KB
      have HKB := Lib.hid KB
      have HS : Hid (stepP 0 s' = match (b, s2) with
        | (false, s') => (true, s')
        | (true, s') => match lineP 0 s' with
          | (false, z) => (false, z)
          | (true, z) => endP z) := Lib.hid (by rw [← hb]; rfl)
      have HNX : Hid (linesK s 1 = stepP 0 s') := Lib.hid (by rw [linesK, Hp.out])
      have HST : Hid (∀ z, stepP 0 s' = (false, z) → T = (false, z)) := Lib.hid (fun z hz => by rw [← HT.out]; exact read_stop (j := 1) (by omega) (by rw [HNX.out, hz]))
      clear KB hb
      have ix : ∀ w : World, (Instr.index 54 (.agg #[strV [108, 111, 119], strV [104, 105, 103, 104], strV [111, 110], strV [100, 114, 97, 105, 110], strV [109, 111, 118, 101, 115], strV [116, 114, 105, 101, 115], strV [114, 111, 108, 108, 98, 97, 99, 107]]) (.int .i64 0)).run Tryz.prog w = .ok (strV [108, 111, 119]) w := fun _ => by kernel_rfl
      cases b with
      | false =>
        go_wp2_with fail
        refine HKB.out.mono ?_
        rintro e w3 ⟨rfl, ⟨A1', c1', A2', c2', hm3⟩, hk3⟩
        have M3 := Lib.hid hm3
        have K3 := Lib.hid (HK'.out.trans (hk3.toD hRg))
        clear hm3 hk3
        go_wp2
        go_roundw
        case rel => exact ⟨1, s2, A1', c1', A2', c2', A3, c3, by omega, by go_num, by rw [HNX.out, HS.out], HI.out.1.next, HN.out, M3.out, K3.out⟩
        case measure => simp [intOf]
      | true =>
        obtain ⟨i1, i2, i3⟩ := HI.out.2 rfl
        go_wp2_with fail
        refine HKB.out.mono ?_
        rintro e w3 ⟨rfl, ⟨A1', c1', A2', c2', hm3⟩, hk3⟩
        have M3 := Lib.hid hm3
        have K3 := Lib.hid (HK'.out.trans (hk3.toD hRg))
        have B3 := Lib.hid (HBr.out.trans (hk3.below (Nat.le_refl g) (Nat.le_of_lt hgr)))
        have R3 := Lib.hid (hk3.blk HRr.out hRg)
        have W3 := Lib.hid (HWr.out.trans (hk3.below hg (Nat.le_of_lt hgr)))
        clear hm3 hk3 HKB
        have hR3 := Blk.lt R3.out
        have hg3 := Blk.lt M3.out.blk
        have q0 : w3.cell? ⟨RR, 0, none⟩ = some (.func (Fn.func (fidL 0)) #[.pointer (some ⟨g, 0, none⟩)] #[]) := Blk.cell R3.out 0
        have KL := Lib.hid (line_any 0 (by omega) W0 g RR A1' c1' A2' c2' A3 c3 s2 w3 HE.out W3.out hg M3.out hRg hR3 HN.out HI.out.1 i1 i2 i3)
        have HI2 := Lib.hid (line_inv HI.out.1)
        have HS1 := HS.out
        try simp only at HS1
        generalize lineP 0 s2 = t at KL HI2 HS1
        obtain ⟨b2, z⟩ := t
        try simp only at HI2 HS1
        have HS2 := Lib.hid HS1
        clear HS HS1 HI
        unfold fidL at q0 KL
        go_wp2_with fail
        refine KL.out.mono ?_
        rintro e w4 ⟨rfl, ⟨A3', c3', hm4, hn4⟩, hk4⟩
        have M4 := Lib.hid hm4
        have N4 := Lib.hid hn4
        have K4 := Lib.hid (K3.out.trans hk4)
        have B4 := Lib.hid (B3.out.trans (hk4.below (Nat.le_refl g) (Nat.le_of_lt hg3)))
        clear hm4 hn4 hk4 KL K3 B3 M3 q0
        cases b2 with
        | false =>
          have HZ := Lib.hid (HST.out z HS2.out)
          go_wp2
          go_ret
          rw [HZ.out]
          exact ⟨rfl, ⟨_, _, _, _, _, _, M4.out⟩, B4.out⟩
        | true =>
          have hg4 := Blk.lt M4.out.blk
          have KE := Lib.hid (endLine_any g A1' c1' A2' c2' A3' c3' z w4 M4.out)
          have HI3 := Lib.hid (end_inv HI2.out)
          have HS3 := HS2.out
          try simp only at HS3
          generalize endP z = t at KE HI3 HS3
          obtain ⟨b3, y⟩ := t
          try simp only at HI3
          have HS4 := Lib.hid HS3
          clear HS2 HS3 HI2
          go_wp2_with fail
          refine KE.out.mono ?_
          rintro e w5 ⟨rfl, hm5, hk5⟩
          have M5 := Lib.hid hm5
          have K5 := Lib.hid (K4.out.trans (hk5.toD hRg))
          have B5 := Lib.hid (B4.out.trans (hk5.below (Nat.le_refl g) (Nat.le_of_lt hg4)))
          clear hm5 hk5 KE K4 B4 M4
          cases b3 with
          | false =>
            have HZ := Lib.hid (HST.out y HS4.out)
            go_wp2
            go_ret
            rw [HZ.out]
            exact ⟨rfl, ⟨_, _, _, _, _, _, M5.out⟩, B5.out⟩
          | true =>
            go_wp2
            go_roundw
            case rel => exact ⟨1, y, A1', c1', A2', c2', A3', c3', by omega, by go_num, by rw [HNX.out, HS4.out], HI3.out, N4.out, M5.out, K5.out⟩
            case measure => simp [intOf]
    · cases hb : beginP s' [104, 105, 103, 104] with
      | mk b s2 =>
      have HI := Lib.hid (begin_inv HV.out hb)
      have KB := begins_any g A1 c1 A2 c2 A3 c3 s' [104, 105, 103, 104] wr HM'.out
      rw [hb] at KB
      have HKB := Lib.hid KB
      have HS : Hid (stepP 1 s' = match (b, s2) with
        | (false, s') => (true, s')
        | (true, s') => match lineP 1 s' with
          | (false, z) => (false, z)
          | (true, z) => endP z) := Lib.hid (by rw [← hb]; rfl)
      have HNX : Hid (linesK s 2 = stepP 1 s') := Lib.hid (by rw [linesK, Hp.out])
      have HST : Hid (∀ z, stepP 1 s' = (false, z) → T = (false, z)) := Lib.hid (fun z hz => by rw [← HT.out]; exact read_stop (j := 2) (by omega) (by rw [HNX.out, hz]))
      clear KB hb
      have ix : ∀ w : World, (Instr.index 54 (.agg #[strV [108, 111, 119], strV [104, 105, 103, 104], strV [111, 110], strV [100, 114, 97, 105, 110], strV [109, 111, 118, 101, 115], strV [116, 114, 105, 101, 115], strV [114, 111, 108, 108, 98, 97, 99, 107]]) (.int .i64 1)).run Tryz.prog w = .ok (strV [104, 105, 103, 104]) w := fun _ => by kernel_rfl
      cases b with
      | false =>
        go_wp2_with fail
        refine HKB.out.mono ?_
        rintro e w3 ⟨rfl, ⟨A1', c1', A2', c2', hm3⟩, hk3⟩
        have M3 := Lib.hid hm3
        have K3 := Lib.hid (HK'.out.trans (hk3.toD hRg))
        clear hm3 hk3
        go_wp2
        go_roundw
        case rel => exact ⟨2, s2, A1', c1', A2', c2', A3, c3, by omega, by go_num, by rw [HNX.out, HS.out], HI.out.1.next, HN.out, M3.out, K3.out⟩
        case measure => simp [intOf]
      | true =>
        obtain ⟨i1, i2, i3⟩ := HI.out.2 rfl
        go_wp2_with fail
        refine HKB.out.mono ?_
        rintro e w3 ⟨rfl, ⟨A1', c1', A2', c2', hm3⟩, hk3⟩
        have M3 := Lib.hid hm3
        have K3 := Lib.hid (HK'.out.trans (hk3.toD hRg))
        have B3 := Lib.hid (HBr.out.trans (hk3.below (Nat.le_refl g) (Nat.le_of_lt hgr)))
        have R3 := Lib.hid (hk3.blk HRr.out hRg)
        have W3 := Lib.hid (HWr.out.trans (hk3.below hg (Nat.le_of_lt hgr)))
        clear hm3 hk3 HKB
        have hR3 := Blk.lt R3.out
        have hg3 := Blk.lt M3.out.blk
        have q1 : w3.cell? ⟨RR, 1, none⟩ = some (.func (Fn.func (fidL 1)) #[.pointer (some ⟨g, 0, none⟩)] #[]) := Blk.cell R3.out 1
        have KL := Lib.hid (line_any 1 (by omega) W0 g RR A1' c1' A2' c2' A3 c3 s2 w3 HE.out W3.out hg M3.out hRg hR3 HN.out HI.out.1 i1 i2 i3)
        have HI2 := Lib.hid (line_inv HI.out.1)
        have HS1 := HS.out
        try simp only at HS1
        generalize lineP 1 s2 = t at KL HI2 HS1
        obtain ⟨b2, z⟩ := t
        try simp only at HI2 HS1
        have HS2 := Lib.hid HS1
        clear HS HS1 HI
        unfold fidL at q1 KL
        go_wp2_with fail
        refine KL.out.mono ?_
        rintro e w4 ⟨rfl, ⟨A3', c3', hm4, hn4⟩, hk4⟩
        have M4 := Lib.hid hm4
        have N4 := Lib.hid hn4
        have K4 := Lib.hid (K3.out.trans hk4)
        have B4 := Lib.hid (B3.out.trans (hk4.below (Nat.le_refl g) (Nat.le_of_lt hg3)))
        clear hm4 hn4 hk4 KL K3 B3 M3 q1
        cases b2 with
        | false =>
          have HZ := Lib.hid (HST.out z HS2.out)
          go_wp2
          go_ret
          rw [HZ.out]
          exact ⟨rfl, ⟨_, _, _, _, _, _, M4.out⟩, B4.out⟩
        | true =>
          have hg4 := Blk.lt M4.out.blk
          have KE := Lib.hid (endLine_any g A1' c1' A2' c2' A3' c3' z w4 M4.out)
          have HI3 := Lib.hid (end_inv HI2.out)
          have HS3 := HS2.out
          try simp only at HS3
          generalize endP z = t at KE HI3 HS3
          obtain ⟨b3, y⟩ := t
          try simp only at HI3
          have HS4 := Lib.hid HS3
          clear HS2 HS3 HI2
          go_wp2_with fail
          refine KE.out.mono ?_
          rintro e w5 ⟨rfl, hm5, hk5⟩
          have M5 := Lib.hid hm5
          have K5 := Lib.hid (K4.out.trans (hk5.toD hRg))
          have B5 := Lib.hid (B4.out.trans (hk5.below (Nat.le_refl g) (Nat.le_of_lt hg4)))
          clear hm5 hk5 KE K4 B4 M4
          cases b3 with
          | false =>
            have HZ := Lib.hid (HST.out y HS4.out)
            go_wp2
            go_ret
            rw [HZ.out]
            exact ⟨rfl, ⟨_, _, _, _, _, _, M5.out⟩, B5.out⟩
          | true =>
            go_wp2
            go_roundw
            case rel => exact ⟨2, y, A1', c1', A2', c2', A3', c3', by omega, by go_num, by rw [HNX.out, HS4.out], HI3.out, N4.out, M5.out, K5.out⟩
            case measure => simp [intOf]
    · cases hb : beginP s' [111, 110] with
      | mk b s2 =>
      have HI := Lib.hid (begin_inv HV.out hb)
      have KB := begins_any g A1 c1 A2 c2 A3 c3 s' [111, 110] wr HM'.out
      rw [hb] at KB
      have HKB := Lib.hid KB
      have HS : Hid (stepP 2 s' = match (b, s2) with
        | (false, s') => (true, s')
        | (true, s') => match lineP 2 s' with
          | (false, z) => (false, z)
          | (true, z) => endP z) := Lib.hid (by rw [← hb]; rfl)
      have HNX : Hid (linesK s 3 = stepP 2 s') := Lib.hid (by rw [linesK, Hp.out])
      have HST : Hid (∀ z, stepP 2 s' = (false, z) → T = (false, z)) := Lib.hid (fun z hz => by rw [← HT.out]; exact read_stop (j := 3) (by omega) (by rw [HNX.out, hz]))
      clear KB hb
      have ix : ∀ w : World, (Instr.index 54 (.agg #[strV [108, 111, 119], strV [104, 105, 103, 104], strV [111, 110], strV [100, 114, 97, 105, 110], strV [109, 111, 118, 101, 115], strV [116, 114, 105, 101, 115], strV [114, 111, 108, 108, 98, 97, 99, 107]]) (.int .i64 2)).run Tryz.prog w = .ok (strV [111, 110]) w := fun _ => by kernel_rfl
      cases b with
      | false =>
        go_wp2_with fail
        refine HKB.out.mono ?_
        rintro e w3 ⟨rfl, ⟨A1', c1', A2', c2', hm3⟩, hk3⟩
        have M3 := Lib.hid hm3
        have K3 := Lib.hid (HK'.out.trans (hk3.toD hRg))
        clear hm3 hk3
        go_wp2
        go_roundw
        case rel => exact ⟨3, s2, A1', c1', A2', c2', A3, c3, by omega, by go_num, by rw [HNX.out, HS.out], HI.out.1.next, HN.out, M3.out, K3.out⟩
        case measure => simp [intOf]
      | true =>
        obtain ⟨i1, i2, i3⟩ := HI.out.2 rfl
        go_wp2_with fail
        refine HKB.out.mono ?_
        rintro e w3 ⟨rfl, ⟨A1', c1', A2', c2', hm3⟩, hk3⟩
        have M3 := Lib.hid hm3
        have K3 := Lib.hid (HK'.out.trans (hk3.toD hRg))
        have B3 := Lib.hid (HBr.out.trans (hk3.below (Nat.le_refl g) (Nat.le_of_lt hgr)))
        have R3 := Lib.hid (hk3.blk HRr.out hRg)
        have W3 := Lib.hid (HWr.out.trans (hk3.below hg (Nat.le_of_lt hgr)))
        clear hm3 hk3 HKB
        have hR3 := Blk.lt R3.out
        have hg3 := Blk.lt M3.out.blk
        have q2 : w3.cell? ⟨RR, 2, none⟩ = some (.func (Fn.func (fidL 2)) #[.pointer (some ⟨g, 0, none⟩)] #[]) := Blk.cell R3.out 2
        have KL := Lib.hid (line_any 2 (by omega) W0 g RR A1' c1' A2' c2' A3 c3 s2 w3 HE.out W3.out hg M3.out hRg hR3 HN.out HI.out.1 i1 i2 i3)
        have HI2 := Lib.hid (line_inv HI.out.1)
        have HS1 := HS.out
        try simp only at HS1
        generalize lineP 2 s2 = t at KL HI2 HS1
        obtain ⟨b2, z⟩ := t
        try simp only at HI2 HS1
        have HS2 := Lib.hid HS1
        clear HS HS1 HI
        unfold fidL at q2 KL
        go_wp2_with fail
        refine KL.out.mono ?_
        rintro e w4 ⟨rfl, ⟨A3', c3', hm4, hn4⟩, hk4⟩
        have M4 := Lib.hid hm4
        have N4 := Lib.hid hn4
        have K4 := Lib.hid (K3.out.trans hk4)
        have B4 := Lib.hid (B3.out.trans (hk4.below (Nat.le_refl g) (Nat.le_of_lt hg3)))
        clear hm4 hn4 hk4 KL K3 B3 M3 q2
        cases b2 with
        | false =>
          have HZ := Lib.hid (HST.out z HS2.out)
          go_wp2
          go_ret
          rw [HZ.out]
          exact ⟨rfl, ⟨_, _, _, _, _, _, M4.out⟩, B4.out⟩
        | true =>
          have hg4 := Blk.lt M4.out.blk
          have KE := Lib.hid (endLine_any g A1' c1' A2' c2' A3' c3' z w4 M4.out)
          have HI3 := Lib.hid (end_inv HI2.out)
          have HS3 := HS2.out
          try simp only at HS3
          generalize endP z = t at KE HI3 HS3
          obtain ⟨b3, y⟩ := t
          try simp only at HI3
          have HS4 := Lib.hid HS3
          clear HS2 HS3 HI2
          go_wp2_with fail
          refine KE.out.mono ?_
          rintro e w5 ⟨rfl, hm5, hk5⟩
          have M5 := Lib.hid hm5
          have K5 := Lib.hid (K4.out.trans (hk5.toD hRg))
          have B5 := Lib.hid (B4.out.trans (hk5.below (Nat.le_refl g) (Nat.le_of_lt hg4)))
          clear hm5 hk5 KE K4 B4 M4
          cases b3 with
          | false =>
            have HZ := Lib.hid (HST.out y HS4.out)
            go_wp2
            go_ret
            rw [HZ.out]
            exact ⟨rfl, ⟨_, _, _, _, _, _, M5.out⟩, B5.out⟩
          | true =>
            go_wp2
            go_roundw
            case rel => exact ⟨3, y, A1', c1', A2', c2', A3', c3', by omega, by go_num, by rw [HNX.out, HS4.out], HI3.out, N4.out, M5.out, K5.out⟩
            case measure => simp [intOf]
    · cases hb : beginP s' [100, 114, 97, 105, 110] with
      | mk b s2 =>
      have HI := Lib.hid (begin_inv HV.out hb)
      have KB := begins_any g A1 c1 A2 c2 A3 c3 s' [100, 114, 97, 105, 110] wr HM'.out
      rw [hb] at KB
      have HKB := Lib.hid KB
      have HS : Hid (stepP 3 s' = match (b, s2) with
        | (false, s') => (true, s')
        | (true, s') => match lineP 3 s' with
          | (false, z) => (false, z)
          | (true, z) => endP z) := Lib.hid (by rw [← hb]; rfl)
      have HNX : Hid (linesK s 4 = stepP 3 s') := Lib.hid (by rw [linesK, Hp.out])
      have HST : Hid (∀ z, stepP 3 s' = (false, z) → T = (false, z)) := Lib.hid (fun z hz => by rw [← HT.out]; exact read_stop (j := 4) (by omega) (by rw [HNX.out, hz]))
      clear KB hb
      have ix : ∀ w : World, (Instr.index 54 (.agg #[strV [108, 111, 119], strV [104, 105, 103, 104], strV [111, 110], strV [100, 114, 97, 105, 110], strV [109, 111, 118, 101, 115], strV [116, 114, 105, 101, 115], strV [114, 111, 108, 108, 98, 97, 99, 107]]) (.int .i64 3)).run Tryz.prog w = .ok (strV [100, 114, 97, 105, 110]) w := fun _ => by kernel_rfl
      cases b with
      | false =>
        go_wp2_with fail
        refine HKB.out.mono ?_
        rintro e w3 ⟨rfl, ⟨A1', c1', A2', c2', hm3⟩, hk3⟩
        have M3 := Lib.hid hm3
        have K3 := Lib.hid (HK'.out.trans (hk3.toD hRg))
        clear hm3 hk3
        go_wp2
        go_roundw
        case rel => exact ⟨4, s2, A1', c1', A2', c2', A3, c3, by omega, by go_num, by rw [HNX.out, HS.out], HI.out.1.next, HN.out, M3.out, K3.out⟩
        case measure => simp [intOf]
      | true =>
        obtain ⟨i1, i2, i3⟩ := HI.out.2 rfl
        go_wp2_with fail
        refine HKB.out.mono ?_
        rintro e w3 ⟨rfl, ⟨A1', c1', A2', c2', hm3⟩, hk3⟩
        have M3 := Lib.hid hm3
        have K3 := Lib.hid (HK'.out.trans (hk3.toD hRg))
        have B3 := Lib.hid (HBr.out.trans (hk3.below (Nat.le_refl g) (Nat.le_of_lt hgr)))
        have R3 := Lib.hid (hk3.blk HRr.out hRg)
        have W3 := Lib.hid (HWr.out.trans (hk3.below hg (Nat.le_of_lt hgr)))
        clear hm3 hk3 HKB
        have hR3 := Blk.lt R3.out
        have hg3 := Blk.lt M3.out.blk
        have q3 : w3.cell? ⟨RR, 3, none⟩ = some (.func (Fn.func (fidL 3)) #[.pointer (some ⟨g, 0, none⟩)] #[]) := Blk.cell R3.out 3
        have KL := Lib.hid (line_any 3 (by omega) W0 g RR A1' c1' A2' c2' A3 c3 s2 w3 HE.out W3.out hg M3.out hRg hR3 HN.out HI.out.1 i1 i2 i3)
        have HI2 := Lib.hid (line_inv HI.out.1)
        have HS1 := HS.out
        try simp only at HS1
        generalize lineP 3 s2 = t at KL HI2 HS1
        obtain ⟨b2, z⟩ := t
        try simp only at HI2 HS1
        have HS2 := Lib.hid HS1
        clear HS HS1 HI
        unfold fidL at q3 KL
        go_wp2_with fail
        refine KL.out.mono ?_
        rintro e w4 ⟨rfl, ⟨A3', c3', hm4, hn4⟩, hk4⟩
        have M4 := Lib.hid hm4
        have N4 := Lib.hid hn4
        have K4 := Lib.hid (K3.out.trans hk4)
        have B4 := Lib.hid (B3.out.trans (hk4.below (Nat.le_refl g) (Nat.le_of_lt hg3)))
        clear hm4 hn4 hk4 KL K3 B3 M3 q3
        cases b2 with
        | false =>
          have HZ := Lib.hid (HST.out z HS2.out)
          go_wp2
          go_ret
          rw [HZ.out]
          exact ⟨rfl, ⟨_, _, _, _, _, _, M4.out⟩, B4.out⟩
        | true =>
          have hg4 := Blk.lt M4.out.blk
          have KE := Lib.hid (endLine_any g A1' c1' A2' c2' A3' c3' z w4 M4.out)
          have HI3 := Lib.hid (end_inv HI2.out)
          have HS3 := HS2.out
          try simp only at HS3
          generalize endP z = t at KE HI3 HS3
          obtain ⟨b3, y⟩ := t
          try simp only at HI3
          have HS4 := Lib.hid HS3
          clear HS2 HS3 HI2
          go_wp2_with fail
          refine KE.out.mono ?_
          rintro e w5 ⟨rfl, hm5, hk5⟩
          have M5 := Lib.hid hm5
          have K5 := Lib.hid (K4.out.trans (hk5.toD hRg))
          have B5 := Lib.hid (B4.out.trans (hk5.below (Nat.le_refl g) (Nat.le_of_lt hg4)))
          clear hm5 hk5 KE K4 B4 M4
          cases b3 with
          | false =>
            have HZ := Lib.hid (HST.out y HS4.out)
            go_wp2
            go_ret
            rw [HZ.out]
            exact ⟨rfl, ⟨_, _, _, _, _, _, M5.out⟩, B5.out⟩
          | true =>
            go_wp2
            go_roundw
            case rel => exact ⟨4, y, A1', c1', A2', c2', A3', c3', by omega, by go_num, by rw [HNX.out, HS4.out], HI3.out, N4.out, M5.out, K5.out⟩
            case measure => simp [intOf]
    · cases hb : beginP s' [109, 111, 118, 101, 115] with
      | mk b s2 =>
      have HI := Lib.hid (begin_inv HV.out hb)
      have KB := begins_any g A1 c1 A2 c2 A3 c3 s' [109, 111, 118, 101, 115] wr HM'.out
      rw [hb] at KB
      have HKB := Lib.hid KB
      have HS : Hid (stepP 4 s' = match (b, s2) with
        | (false, s') => (true, s')
        | (true, s') => match lineP 4 s' with
          | (false, z) => (false, z)
          | (true, z) => endP z) := Lib.hid (by rw [← hb]; rfl)
      have HNX : Hid (linesK s 5 = stepP 4 s') := Lib.hid (by rw [linesK, Hp.out])
      have HST : Hid (∀ z, stepP 4 s' = (false, z) → T = (false, z)) := Lib.hid (fun z hz => by rw [← HT.out]; exact read_stop (j := 5) (by omega) (by rw [HNX.out, hz]))
      clear KB hb
      have ix : ∀ w : World, (Instr.index 54 (.agg #[strV [108, 111, 119], strV [104, 105, 103, 104], strV [111, 110], strV [100, 114, 97, 105, 110], strV [109, 111, 118, 101, 115], strV [116, 114, 105, 101, 115], strV [114, 111, 108, 108, 98, 97, 99, 107]]) (.int .i64 4)).run Tryz.prog w = .ok (strV [109, 111, 118, 101, 115]) w := fun _ => by kernel_rfl
      cases b with
      | false =>
        go_wp2_with fail
        refine HKB.out.mono ?_
        rintro e w3 ⟨rfl, ⟨A1', c1', A2', c2', hm3⟩, hk3⟩
        have M3 := Lib.hid hm3
        have K3 := Lib.hid (HK'.out.trans (hk3.toD hRg))
        clear hm3 hk3
        go_wp2
        go_roundw
        case rel => exact ⟨5, s2, A1', c1', A2', c2', A3, c3, by omega, by go_num, by rw [HNX.out, HS.out], HI.out.1.next, HN.out, M3.out, K3.out⟩
        case measure => simp [intOf]
      | true =>
        obtain ⟨i1, i2, i3⟩ := HI.out.2 rfl
        go_wp2_with fail
        refine HKB.out.mono ?_
        rintro e w3 ⟨rfl, ⟨A1', c1', A2', c2', hm3⟩, hk3⟩
        have M3 := Lib.hid hm3
        have K3 := Lib.hid (HK'.out.trans (hk3.toD hRg))
        have B3 := Lib.hid (HBr.out.trans (hk3.below (Nat.le_refl g) (Nat.le_of_lt hgr)))
        have R3 := Lib.hid (hk3.blk HRr.out hRg)
        have W3 := Lib.hid (HWr.out.trans (hk3.below hg (Nat.le_of_lt hgr)))
        clear hm3 hk3 HKB
        have hR3 := Blk.lt R3.out
        have hg3 := Blk.lt M3.out.blk
        have q4 : w3.cell? ⟨RR, 4, none⟩ = some (.func (Fn.func (fidL 4)) #[.pointer (some ⟨g, 0, none⟩)] #[]) := Blk.cell R3.out 4
        have KL := Lib.hid (line_any 4 (by omega) W0 g RR A1' c1' A2' c2' A3 c3 s2 w3 HE.out W3.out hg M3.out hRg hR3 HN.out HI.out.1 i1 i2 i3)
        have HI2 := Lib.hid (line_inv HI.out.1)
        have HS1 := HS.out
        try simp only at HS1
        generalize lineP 4 s2 = t at KL HI2 HS1
        obtain ⟨b2, z⟩ := t
        try simp only at HI2 HS1
        have HS2 := Lib.hid HS1
        clear HS HS1 HI
        unfold fidL at q4 KL
        go_wp2_with fail
        refine KL.out.mono ?_
        rintro e w4 ⟨rfl, ⟨A3', c3', hm4, hn4⟩, hk4⟩
        have M4 := Lib.hid hm4
        have N4 := Lib.hid hn4
        have K4 := Lib.hid (K3.out.trans hk4)
        have B4 := Lib.hid (B3.out.trans (hk4.below (Nat.le_refl g) (Nat.le_of_lt hg3)))
        clear hm4 hn4 hk4 KL K3 B3 M3 q4
        cases b2 with
        | false =>
          have HZ := Lib.hid (HST.out z HS2.out)
          go_wp2
          go_ret
          rw [HZ.out]
          exact ⟨rfl, ⟨_, _, _, _, _, _, M4.out⟩, B4.out⟩
        | true =>
          have hg4 := Blk.lt M4.out.blk
          have KE := Lib.hid (endLine_any g A1' c1' A2' c2' A3' c3' z w4 M4.out)
          have HI3 := Lib.hid (end_inv HI2.out)
          have HS3 := HS2.out
          try simp only at HS3
          generalize endP z = t at KE HI3 HS3
          obtain ⟨b3, y⟩ := t
          try simp only at HI3
          have HS4 := Lib.hid HS3
          clear HS2 HS3 HI2
          go_wp2_with fail
          refine KE.out.mono ?_
          rintro e w5 ⟨rfl, hm5, hk5⟩
          have M5 := Lib.hid hm5
          have K5 := Lib.hid (K4.out.trans (hk5.toD hRg))
          have B5 := Lib.hid (B4.out.trans (hk5.below (Nat.le_refl g) (Nat.le_of_lt hg4)))
          clear hm5 hk5 KE K4 B4 M4
          cases b3 with
          | false =>
            have HZ := Lib.hid (HST.out y HS4.out)
            go_wp2
            go_ret
            rw [HZ.out]
            exact ⟨rfl, ⟨_, _, _, _, _, _, M5.out⟩, B5.out⟩
          | true =>
            go_wp2
            go_roundw
            case rel => exact ⟨5, y, A1', c1', A2', c2', A3', c3', by omega, by go_num, by rw [HNX.out, HS4.out], HI3.out, N4.out, M5.out, K5.out⟩
            case measure => simp [intOf]
    · cases hb : beginP s' [116, 114, 105, 101, 115] with
      | mk b s2 =>
      have HI := Lib.hid (begin_inv HV.out hb)
      have KB := begins_any g A1 c1 A2 c2 A3 c3 s' [116, 114, 105, 101, 115] wr HM'.out
      rw [hb] at KB
      have HKB := Lib.hid KB
      have HS : Hid (stepP 5 s' = match (b, s2) with
        | (false, s') => (true, s')
        | (true, s') => match lineP 5 s' with
          | (false, z) => (false, z)
          | (true, z) => endP z) := Lib.hid (by rw [← hb]; rfl)
      have HNX : Hid (linesK s 6 = stepP 5 s') := Lib.hid (by rw [linesK, Hp.out])
      have HST : Hid (∀ z, stepP 5 s' = (false, z) → T = (false, z)) := Lib.hid (fun z hz => by rw [← HT.out]; exact read_stop (j := 6) (by omega) (by rw [HNX.out, hz]))
      clear KB hb
      have ix : ∀ w : World, (Instr.index 54 (.agg #[strV [108, 111, 119], strV [104, 105, 103, 104], strV [111, 110], strV [100, 114, 97, 105, 110], strV [109, 111, 118, 101, 115], strV [116, 114, 105, 101, 115], strV [114, 111, 108, 108, 98, 97, 99, 107]]) (.int .i64 5)).run Tryz.prog w = .ok (strV [116, 114, 105, 101, 115]) w := fun _ => by kernel_rfl
      cases b with
      | false =>
        go_wp2_with fail
        refine HKB.out.mono ?_
        rintro e w3 ⟨rfl, ⟨A1', c1', A2', c2', hm3⟩, hk3⟩
        have M3 := Lib.hid hm3
        have K3 := Lib.hid (HK'.out.trans (hk3.toD hRg))
        clear hm3 hk3
        go_wp2
        go_roundw
        case rel => exact ⟨6, s2, A1', c1', A2', c2', A3, c3, by omega, by go_num, by rw [HNX.out, HS.out], HI.out.1.next, HN.out, M3.out, K3.out⟩
        case measure => simp [intOf]
      | true =>
        obtain ⟨i1, i2, i3⟩ := HI.out.2 rfl
        go_wp2_with fail
        refine HKB.out.mono ?_
        rintro e w3 ⟨rfl, ⟨A1', c1', A2', c2', hm3⟩, hk3⟩
        have M3 := Lib.hid hm3
        have K3 := Lib.hid (HK'.out.trans (hk3.toD hRg))
        have B3 := Lib.hid (HBr.out.trans (hk3.below (Nat.le_refl g) (Nat.le_of_lt hgr)))
        have R3 := Lib.hid (hk3.blk HRr.out hRg)
        have W3 := Lib.hid (HWr.out.trans (hk3.below hg (Nat.le_of_lt hgr)))
        clear hm3 hk3 HKB
        have hR3 := Blk.lt R3.out
        have hg3 := Blk.lt M3.out.blk
        have q5 : w3.cell? ⟨RR, 5, none⟩ = some (.func (Fn.func (fidL 5)) #[.pointer (some ⟨g, 0, none⟩)] #[]) := Blk.cell R3.out 5
        have KL := Lib.hid (line_any 5 (by omega) W0 g RR A1' c1' A2' c2' A3 c3 s2 w3 HE.out W3.out hg M3.out hRg hR3 HN.out HI.out.1 i1 i2 i3)
        have HI2 := Lib.hid (line_inv HI.out.1)
        have HS1 := HS.out
        try simp only at HS1
        generalize lineP 5 s2 = t at KL HI2 HS1
        obtain ⟨b2, z⟩ := t
        try simp only at HI2 HS1
        have HS2 := Lib.hid HS1
        clear HS HS1 HI
        unfold fidL at q5 KL
        go_wp2_with fail
        refine KL.out.mono ?_
        rintro e w4 ⟨rfl, ⟨A3', c3', hm4, hn4⟩, hk4⟩
        have M4 := Lib.hid hm4
        have N4 := Lib.hid hn4
        have K4 := Lib.hid (K3.out.trans hk4)
        have B4 := Lib.hid (B3.out.trans (hk4.below (Nat.le_refl g) (Nat.le_of_lt hg3)))
        clear hm4 hn4 hk4 KL K3 B3 M3 q5
        cases b2 with
        | false =>
          have HZ := Lib.hid (HST.out z HS2.out)
          go_wp2
          go_ret
          rw [HZ.out]
          exact ⟨rfl, ⟨_, _, _, _, _, _, M4.out⟩, B4.out⟩
        | true =>
          have hg4 := Blk.lt M4.out.blk
          have KE := Lib.hid (endLine_any g A1' c1' A2' c2' A3' c3' z w4 M4.out)
          have HI3 := Lib.hid (end_inv HI2.out)
          have HS3 := HS2.out
          try simp only at HS3
          generalize endP z = t at KE HI3 HS3
          obtain ⟨b3, y⟩ := t
          try simp only at HI3
          have HS4 := Lib.hid HS3
          clear HS2 HS3 HI2
          go_wp2_with fail
          refine KE.out.mono ?_
          rintro e w5 ⟨rfl, hm5, hk5⟩
          have M5 := Lib.hid hm5
          have K5 := Lib.hid (K4.out.trans (hk5.toD hRg))
          have B5 := Lib.hid (B4.out.trans (hk5.below (Nat.le_refl g) (Nat.le_of_lt hg4)))
          clear hm5 hk5 KE K4 B4 M4
          cases b3 with
          | false =>
            have HZ := Lib.hid (HST.out y HS4.out)
            go_wp2
            go_ret
            rw [HZ.out]
            exact ⟨rfl, ⟨_, _, _, _, _, _, M5.out⟩, B5.out⟩
          | true =>
            go_wp2
            go_roundw
            case rel => exact ⟨6, y, A1', c1', A2', c2', A3', c3', by omega, by go_num, by rw [HNX.out, HS4.out], HI3.out, N4.out, M5.out, K5.out⟩
            case measure => simp [intOf]
    · cases hb : beginP s' [114, 111, 108, 108, 98, 97, 99, 107] with
      | mk b s2 =>
      have HI := Lib.hid (begin_inv HV.out hb)
      have KB := begins_any g A1 c1 A2 c2 A3 c3 s' [114, 111, 108, 108, 98, 97, 99, 107] wr HM'.out
      rw [hb] at KB
      have HKB := Lib.hid KB
      have HS : Hid (stepP 6 s' = match (b, s2) with
        | (false, s') => (true, s')
        | (true, s') => match lineP 6 s' with
          | (false, z) => (false, z)
          | (true, z) => endP z) := Lib.hid (by rw [← hb]; rfl)
      have HNX : Hid (linesK s 7 = stepP 6 s') := Lib.hid (by rw [linesK, Hp.out])
      have HST : Hid (∀ z, stepP 6 s' = (false, z) → T = (false, z)) := Lib.hid (fun z hz => by rw [← HT.out]; exact read_stop (j := 7) (by omega) (by rw [HNX.out, hz]))
      clear KB hb
      have ix : ∀ w : World, (Instr.index 54 (.agg #[strV [108, 111, 119], strV [104, 105, 103, 104], strV [111, 110], strV [100, 114, 97, 105, 110], strV [109, 111, 118, 101, 115], strV [116, 114, 105, 101, 115], strV [114, 111, 108, 108, 98, 97, 99, 107]]) (.int .i64 6)).run Tryz.prog w = .ok (strV [114, 111, 108, 108, 98, 97, 99, 107]) w := fun _ => by kernel_rfl
      cases b with
      | false =>
        go_wp2_with fail
        refine HKB.out.mono ?_
        rintro e w3 ⟨rfl, ⟨A1', c1', A2', c2', hm3⟩, hk3⟩
        have M3 := Lib.hid hm3
        have K3 := Lib.hid (HK'.out.trans (hk3.toD hRg))
        clear hm3 hk3
        go_wp2
        go_roundw
        case rel => exact ⟨7, s2, A1', c1', A2', c2', A3, c3, by omega, by go_num, by rw [HNX.out, HS.out], HI.out.1.next, HN.out, M3.out, K3.out⟩
        case measure => simp [intOf]
      | true =>
        obtain ⟨i1, i2, i3⟩ := HI.out.2 rfl
        go_wp2_with fail
        refine HKB.out.mono ?_
        rintro e w3 ⟨rfl, ⟨A1', c1', A2', c2', hm3⟩, hk3⟩
        have M3 := Lib.hid hm3
        have K3 := Lib.hid (HK'.out.trans (hk3.toD hRg))
        have B3 := Lib.hid (HBr.out.trans (hk3.below (Nat.le_refl g) (Nat.le_of_lt hgr)))
        have R3 := Lib.hid (hk3.blk HRr.out hRg)
        have W3 := Lib.hid (HWr.out.trans (hk3.below hg (Nat.le_of_lt hgr)))
        clear hm3 hk3 HKB
        have hR3 := Blk.lt R3.out
        have hg3 := Blk.lt M3.out.blk
        have q6 : w3.cell? ⟨RR, 6, none⟩ = some (.func (Fn.func (fidL 6)) #[.pointer (some ⟨g, 0, none⟩)] #[]) := Blk.cell R3.out 6
        have KL := Lib.hid (line_any 6 (by omega) W0 g RR A1' c1' A2' c2' A3 c3 s2 w3 HE.out W3.out hg M3.out hRg hR3 HN.out HI.out.1 i1 i2 i3)
        have HI2 := Lib.hid (line_inv HI.out.1)
        have HS1 := HS.out
        try simp only at HS1
        generalize lineP 6 s2 = t at KL HI2 HS1
        obtain ⟨b2, z⟩ := t
        try simp only at HI2 HS1
        have HS2 := Lib.hid HS1
        clear HS HS1 HI
        unfold fidL at q6 KL
        go_wp2_with fail
        refine KL.out.mono ?_
        rintro e w4 ⟨rfl, ⟨A3', c3', hm4, hn4⟩, hk4⟩
        have M4 := Lib.hid hm4
        have N4 := Lib.hid hn4
        have K4 := Lib.hid (K3.out.trans hk4)
        have B4 := Lib.hid (B3.out.trans (hk4.below (Nat.le_refl g) (Nat.le_of_lt hg3)))
        clear hm4 hn4 hk4 KL K3 B3 M3 q6
        cases b2 with
        | false =>
          have HZ := Lib.hid (HST.out z HS2.out)
          go_wp2
          go_ret
          rw [HZ.out]
          exact ⟨rfl, ⟨_, _, _, _, _, _, M4.out⟩, B4.out⟩
        | true =>
          have hg4 := Blk.lt M4.out.blk
          have KE := Lib.hid (endLine_any g A1' c1' A2' c2' A3' c3' z w4 M4.out)
          have HI3 := Lib.hid (end_inv HI2.out)
          have HS3 := HS2.out
          try simp only at HS3
          generalize endP z = t at KE HI3 HS3
          obtain ⟨b3, y⟩ := t
          try simp only at HI3
          have HS4 := Lib.hid HS3
          clear HS2 HS3 HI2
          go_wp2_with fail
          refine KE.out.mono ?_
          rintro e w5 ⟨rfl, hm5, hk5⟩
          have M5 := Lib.hid hm5
          have K5 := Lib.hid (K4.out.trans (hk5.toD hRg))
          have B5 := Lib.hid (B4.out.trans (hk5.below (Nat.le_refl g) (Nat.le_of_lt hg4)))
          clear hm5 hk5 KE K4 B4 M4
          cases b3 with
          | false =>
            have HZ := Lib.hid (HST.out y HS4.out)
            go_wp2
            go_ret
            rw [HZ.out]
            exact ⟨rfl, ⟨_, _, _, _, _, _, M5.out⟩, B5.out⟩
          | true =>
            go_wp2
            go_roundw
            case rel => exact ⟨7, y, A1', c1', A2', c2', A3', c3', by omega, by go_num, by rw [HNX.out, HS4.out], HI3.out, N4.out, M5.out, K5.out⟩
            case measure => simp [intOf]
    · have HP7 : Hid (T = match s'.rest[0]? with
        | some x => (false, failP s' x 4)
        | none => (true, s')) := Lib.hid (by rw [← HT.out]; unfold readP; rw [Hp.out]; rfl)
      have d2 : wr.cell? ⟨g, 2, none⟩ = some (.slice A2 s'.rest.length c2) := Blk.cell HM'.out.blk 2
      have hrc := HM'.out.rc
      by_cases hlt : 0 < s'.rest.length
      · obtain ⟨x, hx⟩ : ∃ x, s'.rest[0]? = some x := ⟨s'.rest[0], List.getElem?_eq_getElem hlt⟩
        have hZ : T = (false, failP s' x 4) := by rw [HP7.out, hx]
        obtain ⟨b, o, hA, hbl, e0, e1, e2, e3⟩ := Sc.SlAt.wor HM'.out.rw hx
        subst hA
        have KF1 := Lib.hid (gfail_any g A1 c1 (some ⟨b, o, none⟩) c2 A3 c3 s' x 4 wr HM'.out)
        obtain ⟨kd, tx, ln, cl⟩ := x
        simp only [Nat.zero_mul, Nat.add_zero] at e0 e1 e2 e3
        have HZ := Lib.hid hZ
        have k1 : (0 : Int) < (s'.rest.length : Int) := by omega
        clear hZ hx HP7 HT
        go_wp2_with fail
        refine KF1.out.mono ?_
        rintro e w6 ⟨rfl, hm6, hk6⟩
        have M6 := Lib.hid hm6
        have K6 := Lib.hid (HBr.out.trans (hk6.below (Nat.le_refl g) (Nat.le_of_lt hgr)))
        clear hm6 hk6
        go_wp2_with fail
        go_ret
        rw [HZ.out]
        exact ⟨rfl, ⟨_, _, _, _, _, _, M6.out⟩, K6.out⟩
      · have HZ : Hid (T = (true, s')) := Lib.hid (by rw [HP7.out, show s'.rest[0]? = none from List.getElem?_eq_none (by omega)])
        have hz : s'.rest.length = 0 := by omega
        rw [hz] at d2
        clear HP7 HT hlt hz
        go_wp2
        go_ret
        rw [HZ.out]
        exact ⟨rfl, ⟨_, _, _, _, _, _, HM'.out⟩, HBr.out⟩
end Go.Proofs.YthbplchbolghjaaGreatDoor
