/- What the document's look at the first digits comes to: where reading stands behind them, or where it is wrong. Condition: a text of a hundred bytes at most. -/
import Derived.Test.YtmhblnlbfhfegaaDoorRefScan
namespace Go.Proofs.YtmhblnlbfhfegaaDoor
open Go.RowKit

theorem not_dig {r : Rd} {b : UInt8} {P : Nat} {m : List (List UInt8 × Int)} (hn : r.num = false) (hd : ¬ isDig b) (hp : r.b = false ∨ r.p = true) : r.byte b P m = none := by
  unfold Rd.byte
  by_cases h : b.toNat < 128
  · rw [if_pos h]
    unfold Rd.take
    rw [if_neg (show ¬ (48 ≤ b.toNat ∧ b.toNat ≤ 57) from hd)]
    by_cases hc : b.toNat = 46
    · rw [if_pos hc]
      unfold Rd.point
      rw [if_pos]
      rcases hp with hp | hp
      · exact .inl hp
      · exact .inr (.inl hp)
    · rw [if_neg hc]
      unfold Rd.suffix
      rw [if_pos hn]
  · rw [if_neg h]

theorem dig_step {n : Int} {k0 : Bool} {b : UInt8} {P : Nat} {m : List (List UInt8 × Int)} (hd : isDig b) (hz : ¬ (k0 = true ∧ n = 0)) :
    Rd.byte ⟨n, k0, false, 0, []⟩ b P m = some ⟨min (10 * n + ((b.toNat : Int) - 48)) 1125899906842624, true, false, 0, []⟩ := by
  unfold Rd.byte
  rw [if_pos (by have := hd.2; omega)]
  unfold Rd.take
  rw [if_pos (show 48 ≤ b.toNat ∧ b.toNat ≤ 57 from hd)]
  unfold Rd.digit
  simp only
  rw [if_neg (by simp), if_neg (by simp), if_neg hz]
  congr 2
  unfold enough
  split <;> omega
theorem dig_zero {b : UInt8} {P : Nat} {m : List (List UInt8 × Int)} (hd : isDig b) : Rd.byte ⟨0, true, false, 0, []⟩ b P m = none := by
  unfold Rd.byte
  rw [if_pos (by have := hd.2; omega)]
  unfold Rd.take
  rw [if_pos (show 48 ≤ b.toNat ∧ b.toNat ≤ 57 from hd)]
  unfold Rd.digit
  simp

def WholeOk (s : ByteArray) (P : Nat) (m : List (List UInt8 × Int)) (n : Int) (k : Nat) (e : Int) : Prop :=
  (e ≠ 0 ∧ n = 0 ∧ readL s P m = (0, 0, (k : Int), e)) ∨
  (e = 0 ∧ 0 ≤ n ∧ n ≤ 1125899906842624 ∧ Stands s P m k ⟨n, true, false, 0, []⟩ ∧ ∀ h : k < s.size, ¬ isDig s[k])
def WholePost (s : ByteArray) (P : Nat) (m : List (List UInt8 × Int)) (w : World) (e : Ending) (w' : World) : Prop :=
  ∃ (n : Int) (k : Nat) (x : Int), e = .returned (.tuple #[.int .i64 n, .int .i64 (k : Int), .int .i64 x]) ∧ WholeOk s P m n k x ∧ w = w'

def WholeRel (s : ByteArray) (P : Nat) (m : List (List UInt8 × Int)) (n : Int) (k : Nat) : Prop :=
  Stands s P m k ⟨n, decide (0 < k), false, 0, []⟩ ∧ 0 ≤ n ∧ n ≤ 1125899906842624 ∧ (∀ h : 0 < s.size, k = 1 → n = (s[0].toNat : Int) - 48) ∧ (2 ≤ k → 1 ≤ n)

set_option maxRecDepth 10000 in
set_option maxHeartbeats 1000000 in
theorem whole_any (s : ByteArray) (P : Nat) (m : List (List UInt8 × Int)) (hm : Ascii m) (w : World) (hs : s.size ≤ 100) :
    Calls Tryd.prog 35 #[.string s] w (WholePost s P m w) := by
  have Hm := Lib.hid hm
  clear hm
  go_enter Tryd.func35, Tryd.ntmps35
  go_wp2
  go_loop [5, 6] (fun v i => ∃ (n : Int) (k : Nat), i = .int .i64 (k : Int) ∧ v = .int .i64 n ∧ WholeRel s P m n k) (fun _ i => s.size - (intOf i).toNat)
  case atStart => exact ⟨0, 0, rfl, rfl, Stands.start s P m, by decide, by decide, (fun _ h => by cases h), (fun h => by omega)⟩
  case round =>
    obtain ⟨n, k, rfl, rfl, hR⟩ := hrel
    have hks : k ≤ s.size := hR.1.1
    have hn0 := hR.2.1
    have hn1 := hR.2.2.1
    have HR := Lib.hid hR
    clear hR
    by_cases hd : ∃ h : k < s.size, isDig s[k]
    · obtain ⟨hk, hdig⟩ := hd
      have d0 := hdig.1
      have d1 := hdig.2
      have Hd := Lib.hid hdig
      clear hdig
      have i0 : (48 : Int) ≤ (s[k].toNat : Int) := by omega
      have i1 : (s[k].toNat : Int) ≤ 57 := by omega
      have Hstep : Hid (¬ (decide (0 < k) = true ∧ n = 0) → WholeRel s P m (min (10 * n + ((s[k].toNat : Int) - 48)) 1125899906842624) (k + 1)) := by
        show ¬ (decide (0 < k) = true ∧ n = 0) → _
        intro hz
        refine ⟨?_, by omega, by omega, ?_, ?_⟩
        · have := HR.out.1.step hk (dig_step Hd.out hz)
          simpa using this
        · intro h0 h1
          obtain rfl : k = 0 := by omega
          have hz0 : n = 0 := by
            have h2 := HR.out.1.2
            simp [scanL, rd0] at h2
            omega
          subst hz0
          omega
        · intro h2
          have h3 : n ≠ 0 := fun e => hz ⟨by simp; omega, e⟩
          omega
      by_cases hk1 : k = 1
      · subst hk1
        have h0 : 0 < s.size := by omega
        have hv := HR.out.2.2.2.1 h0 rfl
        by_cases hz : s[0].toNat = 48
        · have hzb : ((s[0].toNat : Int) == 48) = true := by simp [hz]
          have Hz := Lib.hid hz
          have Hv := Lib.hid hv
          clear hz hv
          go_wp2_with (go_at_call 49; refine (digit_yes s 1 _ hk Hd.out).mono ?_; rintro e w' ⟨rfl, rfl⟩)
          go_ret3
          refine ⟨0, 1, 4, rfl, .inl ⟨by decide, rfl, ?_⟩, rfl⟩
          have hn : n = 0 := by rw [Hv.out, Hz.out]; rfl
          subst hn
          exact HR.out.1.wrong Hm.out hk (dig_zero Hd.out)
        · have hzb : ((s[0].toNat : Int) == 48) = false := by rw [beq_eq_false_iff_ne]; omega
          have hnz : ¬ (decide (0 < 1) = true ∧ n = 0) := by rintro ⟨_, e⟩; omega
          have Hrel := Lib.hid (Hstep.out hnz)
          have Hz := Lib.hid hz
          have Hv := Lib.hid hv
          clear hz hv hnz
          go_wp2_with (go_at_call 49; refine (digit_yes s 1 _ hk Hd.out).mono ?_; rintro e w' ⟨rfl, rfl⟩)
          go_round
          case rel => exact ⟨_, 2, by go_num, rfl, Hrel.out⟩
          case measure => simp [intOf]; omega
      · have hkb : ((k : Int) == 1) = false := by rw [beq_eq_false_iff_ne]; omega
        have hnz : ¬ (decide (0 < k) = true ∧ n = 0) := by
          rintro ⟨h1, e⟩
          simp at h1
          have := HR.out.2.2.2.2 (by omega)
          omega
        have Hrel := Lib.hid (Hstep.out hnz)
        clear hnz hk1
        go_wp2_with (go_at_call 49; refine (digit_yes s k _ hk Hd.out).mono ?_; rintro e w' ⟨rfl, rfl⟩)
        go_round
        case rel => exact ⟨_, k + 1, by go_num, rfl, Hrel.out⟩
        case measure => simp [intOf]; omega
    · have hnd : ∀ h : k < s.size, ¬ isDig s[k] := fun h hh => hd ⟨h, hh⟩
      have Hnd := Lib.hid hnd
      clear hd hnd
      have Hcall : Hid (∀ W : World, Calls Tryd.prog 49 #[.string s, .int .i64 (k : Int)] W fun e w' => e = .returned (.bool false) ∧ W = w') := by
        intro W
        by_cases h : k < s.size
        · exact digit_no s k W h (Hnd.out h)
        · exact digit_end s k W (by omega)
      by_cases hk0 : k = 0
      · subst hk0
        have hn : n = 0 := by
          have h2 := HR.out.1.2
          simp [scanL, rd0] at h2
          omega
        subst hn
        by_cases hz : s.size = 0
        · have hzb : ((s.size : Int) == 0) = true := by simp [hz]
          have hall := HR.out.1.all Hm.out hz.symm
          have Hall := Lib.hid hall
          have Hz := Lib.hid hz
          clear hz hall
          go_wp2_with (go_at_call 49; refine (Hcall.out _).mono ?_; rintro e w' ⟨rfl, rfl⟩)
          go_ret3
          refine ⟨0, 0, 3, rfl, .inl ⟨by decide, rfl, ?_⟩, rfl⟩
          rw [Hall.out, if_pos (.inl rfl), Hz.out]
        · have hzb : ((s.size : Int) == 0) = false := by rw [beq_eq_false_iff_ne]; omega
          have h0 : 0 < s.size := by omega
          have hwr := HR.out.1.wrong Hm.out h0 (not_dig rfl (Hnd.out h0) (.inl rfl))
          have Hwr := Lib.hid hwr
          clear hz hwr
          go_wp2_with (go_at_call 49; refine (Hcall.out _).mono ?_; rintro e w' ⟨rfl, rfl⟩)
          go_ret3
          exact ⟨0, 0, 4, rfl, .inl ⟨by decide, rfl, Hwr.out⟩, rfl⟩
      · have hkb : ((k : Int) == 0) = false := by rw [beq_eq_false_iff_ne]; omega
        have Hk0 := Lib.hid hk0
        clear hk0
        go_wp2_with (go_at_call 49; refine (Hcall.out _).mono ?_; rintro e w' ⟨rfl, rfl⟩)
        go_ret3
        refine ⟨n, k, 0, rfl, .inr ⟨rfl, hn0, hn1, ?_, Hnd.out⟩, rfl⟩
        have h := HR.out.1
        rw [show decide (0 < k) = true by have := Hk0.out; simp; omega] at h
        exact h

end Go.Proofs.YtmhblnlbfhfegaaDoor
