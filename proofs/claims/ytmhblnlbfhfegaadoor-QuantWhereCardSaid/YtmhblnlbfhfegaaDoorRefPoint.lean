/- What the document's look at a point and the digits behind it comes to: where reading stands behind them, or where it is wrong. Condition: a text of a hundred bytes at most, one to three places. -/
import Derived.Test.YtmhblnlbfhfegaaDoorRefWhole
namespace Go.Proofs.YtmhblnlbfhfegaaDoor
open Go.RowKit

theorem place_step {v : Int} {j P : Nat} {b : UInt8} {m : List (List UInt8 × Int)} (hd : isDig b) (hj : j < P) :
    Rd.byte ⟨v, true, true, j, []⟩ b P m = some ⟨v * 10 + ((b.toNat : Int) - 48), true, true, j + 1, []⟩ := by
  unfold Rd.byte
  rw [if_pos (by have := hd.2; omega)]
  unfold Rd.take
  rw [if_pos (show 48 ≤ b.toNat ∧ b.toNat ≤ 57 from hd)]
  unfold Rd.digit
  simp only
  rw [if_neg (by simp), if_pos trivial, if_neg (by omega)]
theorem place_full {v : Int} {P : Nat} {b : UInt8} {m : List (List UInt8 × Int)} (hd : isDig b) : Rd.byte ⟨v, true, true, P, []⟩ b P m = none := by
  unfold Rd.byte
  rw [if_pos (by have := hd.2; omega)]
  unfold Rd.take
  rw [if_pos (show 48 ≤ b.toNat ∧ b.toNat ≤ 57 from hd)]
  unfold Rd.digit
  simp
theorem point_step {n : Int} {b : UInt8} {P : Nat} {m : List (List UInt8 × Int)} (hb : b.toNat = 46) : Rd.byte ⟨n, true, false, 0, []⟩ b P m = some ⟨n, true, true, 0, []⟩ := by
  unfold Rd.byte
  rw [if_pos (by omega)]
  unfold Rd.take
  rw [if_neg (by omega), if_pos hb]
  rfl
theorem point_again {v : Int} {j P : Nat} {b : UInt8} {m : List (List UInt8 × Int)} (hb : b.toNat = 46) : Rd.byte ⟨v, true, true, j, []⟩ b P m = none := by
  unfold Rd.byte
  rw [if_pos (by omega)]
  unfold Rd.take
  rw [if_neg (by omega), if_pos hb]
  unfold Rd.point
  simp

/-- A digit or a point can't stand next. -/
def Shut (s : ByteArray) (P : Nat) (m : List (List UInt8 × Int)) (k : Nat) (r : Rd) : Prop := ∀ h : k < s.size, isDig s[k] ∨ s[k].toNat = 46 → r.byte s[k] P m = none

def PointOk (s : ByteArray) (P : Nat) (m : List (List UInt8 × Int)) (n f : Int) (k : Nat) (e : Int) : Prop :=
  (e ≠ 0 ∧ f = 0 ∧ readL s P m = (0, 0, (k : Int), e)) ∨
  (e = 0 ∧ 0 ≤ f ∧ f < 10 ^ P ∧ ∃ r : Rd, Stands s P m k r ∧ r.s = [] ∧ r.num = true ∧ r.v * 10 ^ (P - r.k) = n * 10 ^ P + f ∧ Shut s P m k r)
def PointPost (s : ByteArray) (P : Nat) (m : List (List UInt8 × Int)) (n : Int) (w : World) (e : Ending) (w' : World) : Prop :=
  ∃ (f : Int) (k : Nat) (x : Int), e = .returned (.tuple #[.int .i64 f, .int .i64 (k : Int), .int .i64 x]) ∧ PointOk s P m n f k x ∧ w = w'

theorem pow_small {P j : Nat} (hP : P ≤ 3) (hj : j ≤ P) : (1 : Int) ≤ 10 ^ j ∧ (10 : Int) ^ j ≤ 1000 := by
  have : j = 0 ∨ j = 1 ∨ j = 2 ∨ j = 3 := by omega
  rcases this with rfl | rfl | rfl | rfl <;> decide

theorem place_small {f : Int} {j t P : Nat} (h0 : 0 ≤ f) (h1 : f < 10 ^ j) (hP : P ≤ 3) (ht : j + t ≤ P) : 0 ≤ f * 10 ^ t ∧ f * 10 ^ t ≤ 1000 := by
  have hp : (0 : Int) < 10 ^ t := Int.pow_pos (by decide)
  have h2 := Int.mul_lt_mul_of_pos_right h1 hp
  rw [← Int.pow_add] at h2
  have h3 := (pow_small hP ht).2
  exact ⟨Int.mul_nonneg h0 (Int.le_of_lt hp), by omega⟩

set_option maxRecDepth 10000 in
set_option maxHeartbeats 2000000 in
theorem point_any (s : ByteArray) (P k : Nat) (m : List (List UInt8 × Int)) (n : Int) (hm : Ascii m) (w : World) (hs : s.size ≤ 100) (hP : P ≤ 3) (hP0 : 1 ≤ P)
    (hS : Stands s P m k ⟨n, true, false, 0, []⟩) (hnd : ∀ h : k < s.size, ¬ isDig s[k]) :
    Calls Tryd.prog 36 #[.string s, .int .i64 (k : Int), .int .i64 (P : Int)] w (PointPost s P m n w) := by
  have Hm := Lib.hid hm
  have hks := hS.1
  have HS := Lib.hid hS
  have Hnd := Lib.hid hnd
  clear hm hS hnd
  by_cases hk : k < s.size
  · by_cases hp : s[k].toNat = 46
    · have hpb : ((s[k].toNat : Int) != 46) = false := by simp [hp]
      have i1 : ¬ (s.size : Int) ≤ (k : Int) := by omega
      have HS1 := Lib.hid (HS.out.step hk (point_step hp))
      have Hp := Lib.hid hp
      clear hp
      go_enter Tryd.func36, Tryd.ntmps36
      go_wp2
      go_loop [1, 10] (fun i v => ∃ (q j : Nat) (f : Int), q = k + 1 + j ∧ j ≤ P ∧ i = .int .i64 (q : Int) ∧ v = .int .i64 f ∧ 0 ≤ f ∧ f < 10 ^ j ∧ Stands s P m q ⟨n * 10 ^ j + f, true, true, j, []⟩) (fun i _ => s.size - (intOf i).toNat)
      case atStart => exact ⟨k + 1, 0, 0, rfl, by omega, by simp, rfl, by decide, by decide, by simpa using HS1.out⟩
      case round =>
        obtain ⟨q, j, f, hq, hj, rfl, rfl, hf0, hf1, hSt⟩ := hrel
        have hjs : q ≤ s.size := hSt.1
        have hq1 : k + 1 + j ≤ q := by omega
        have hq2 : q ≤ k + 1 + j := by omega
        have hpw := pow_small hP hj
        have hf2 : f < 1000 := by omega
        have HSt := Lib.hid hSt
        have Hf1 := Lib.hid hf1
        have Hpw := Lib.hid hpw
        have Hq := Lib.hid hq
        clear hSt hf1 hpw hq
        by_cases hd : ∃ h : q < s.size, isDig s[q] ∧ j < P
        · obtain ⟨hk1, hdig, hjP⟩ := hd
          have d0 := hdig.1
          have d1 := hdig.2
          have i2 : (48 : Int) ≤ (s[q].toNat : Int) := by omega
          have i3 : (s[q].toNat : Int) ≤ 57 := by omega
          have i4 : (q : Int) < (k : Int) + 1 + (P : Int) := by omega
          have HSt2 := Lib.hid (HSt.out.step hk1 (place_step hdig hjP))
          have Hd := Lib.hid hdig
          clear hdig
          go_wp2_with (go_at_call 49; refine (digit_yes s q _ hk1 Hd.out).mono ?_; rintro e w' ⟨rfl, rfl⟩)
          go_round
          case rel =>
            refine ⟨q + 1, j + 1, _, by omega, by omega, by go_num, rfl, by omega, ?_, ?_⟩
            · have := Hf1.out
              rw [Int.pow_succ]
              omega
            · have h := HSt2.out
              have e : (n * 10 ^ j + f) * 10 + ((s[q].toNat : Int) - 48) = n * 10 ^ (j + 1) + (10 * f + ((s[q].toNat : Int) - 48)) := by
                rw [Int.pow_succ, ← Int.mul_assoc]
                omega
              rw [e] at h
              exact h
          case measure => simp [intOf]; omega
        · by_cases hfull : ∃ h : q < s.size, isDig s[q]
          · obtain ⟨hk1, hdig⟩ := hfull
            have hjP : j = P := by
              have : ¬ j < P := fun h => hd ⟨hk1, hdig, h⟩
              omega
            have Hshut : Hid (Shut s P m q ⟨n * 10 ^ j + f, true, true, j, []⟩) := by
              rintro h (h1 | h1)
              · rw [hjP]
                exact place_full h1
              · exact point_again h1
            have hj0 : 1 ≤ j := by omega
            have i4 : ¬ (q : Int) < (k : Int) + 1 + (P : Int) := by omega
            have Hd := Lib.hid hdig
            clear hd hdig hjP
            have hfb : ((q : Int) == (k : Int) + 1) = false := by rw [beq_eq_false_iff_ne]; omega
            go_wp2_with (go_at_call 49; refine (digit_yes s q _ hk1 Hd.out).mono ?_; rintro e w' ⟨rfl, rfl⟩)
            go_loop [10, 11] (fun v i => ∃ t : Nat, j + t ≤ P ∧ i = .int .i64 ((j + t : Nat) : Int) ∧ v = .int .i64 (f * 10 ^ t)) (fun _ i => P - (intOf i).toNat)
            case atStart => exact ⟨0, by omega, congrArg (Value.int .i64) (by have := Hq.out; omega), by simp⟩
            case round =>
              obtain ⟨t, ht, rfl, rfl⟩ := hrel
              have hx := place_small hf0 Hf1.out hP ht
              obtain ⟨hx0, hx1⟩ := hx
              by_cases hlt : j + t < P
              · exfalso; omega
              · have i5 : ¬ ((j + t : Nat) : Int) < (P : Int) := by omega
                have Ht : Hid (P - j = t) := by show P - j = t; omega
                go_wp2
                go_ret3
                refine ⟨f * 10 ^ t, q, 0, rfl, .inr ⟨rfl, hx0, ?_, _, HSt.out, rfl, by simp [Rd.num]; omega, ?_, ?_⟩, rfl⟩
                · have e : (10 : Int) ^ P = 10 ^ j * 10 ^ t := by rw [← Int.pow_add]; congr 1; omega
                  rw [e]
                  exact Int.mul_lt_mul_of_pos_right Hf1.out (Int.pow_pos (by decide))
                · show (n * 10 ^ j + f) * 10 ^ (P - j) = _
                  have e : (10 : Int) ^ P = 10 ^ j * 10 ^ t := by rw [← Int.pow_add]; congr 1; omega
                  rw [Ht.out, e, Int.add_mul, Int.mul_assoc]
                · exact Hshut.out
          · have hnd2 : ∀ h : q < s.size, ¬ isDig s[q] := fun h hh => hfull ⟨h, hh⟩
            have Hnd2 := Lib.hid hnd2
            have Hcall : Hid (∀ W : World, Calls Tryd.prog 49 #[.string s, .int .i64 (q : Int)] W fun e w' => e = .returned (.bool false) ∧ W = w') := by
              intro W
              by_cases h : q < s.size
              · exact digit_no s q W h (Hnd2.out h)
              · exact digit_end s q W (by omega)
            clear hd hfull hnd2
            by_cases hj0 : j = 0
            · subst hj0
              have hfb : ((q : Int) == (k : Int) + 1) = true := by rw [beq_iff_eq]; omega
              by_cases hend : q < s.size
              · have heb : ((q : Int) == (s.size : Int)) = false := by rw [beq_eq_false_iff_ne]; omega
                have Hwr := Lib.hid (HSt.out.wrong Hm.out hend (not_dig rfl (Hnd2.out hend) (.inr rfl)))
                go_wp2_with (go_at_call 49; refine (Hcall.out _).mono ?_; rintro e w' ⟨rfl, rfl⟩)
                go_ret3
                exact ⟨0, q, 4, rfl, .inl ⟨by decide, rfl, Hwr.out⟩, rfl⟩
              · have heb : ((q : Int) == (s.size : Int)) = true := by rw [beq_iff_eq]; omega
                have Hall := Lib.hid (HSt.out.all Hm.out (by omega))
                have Hqs : Hid ((q : Int) = (s.size : Int)) := by show (q : Int) = _; omega
                go_wp2_with (go_at_call 49; refine (Hcall.out _).mono ?_; rintro e w' ⟨rfl, rfl⟩)
                go_ret3
                refine ⟨0, q, 3, rfl, .inl ⟨by decide, rfl, ?_⟩, rfl⟩
                rw [Hall.out, if_pos (.inl rfl), Hqs.out]
            · have Hshut : Hid (Shut s P m q ⟨n * 10 ^ j + f, true, true, j, []⟩) := by
                rintro h (h1 | h1)
                · exact absurd h1 (Hnd2.out h)
                · exact point_again h1
              have hfb : ((q : Int) == (k : Int) + 1) = false := by rw [beq_eq_false_iff_ne]; omega
              go_wp2_with (go_at_call 49; refine (Hcall.out _).mono ?_; rintro e w' ⟨rfl, rfl⟩)
              go_loop [10, 11] (fun v i => ∃ t : Nat, j + t ≤ P ∧ i = .int .i64 ((j + t : Nat) : Int) ∧ v = .int .i64 (f * 10 ^ t)) (fun _ i => P - (intOf i).toNat)
              case atStart => exact ⟨0, by omega, congrArg (Value.int .i64) (by have := Hq.out; omega), by simp⟩
              case round =>
                obtain ⟨t, ht, rfl, rfl⟩ := hrel
                have hx := place_small hf0 Hf1.out hP ht
                obtain ⟨hx0, hx1⟩ := hx
                by_cases hlt : j + t < P
                · have i5 : ((j + t : Nat) : Int) < (P : Int) := by omega
                  have Hpow : Hid (f * 10 ^ (t + 1) = 10 * (f * 10 ^ t)) := by
                    show f * 10 ^ (t + 1) = 10 * (f * 10 ^ t)
                    rw [Int.pow_succ, ← Int.mul_assoc, Int.mul_comm]
                  generalize f * 10 ^ t = x at hx0 hx1 Hpow ⊢
                  go_wp2
                  go_round
                  case rel => exact ⟨t + 1, by omega, by go_num, by rw [Hpow.out]⟩
                  case measure => simp [intOf]; omega
                · have i5 : ¬ ((j + t : Nat) : Int) < (P : Int) := by omega
                  have Ht : Hid (P - j = t) := by show P - j = t; omega
                  go_wp2
                  go_ret3
                  refine ⟨f * 10 ^ t, q, 0, rfl, .inr ⟨rfl, hx0, ?_, _, HSt.out, rfl, by simp [Rd.num]; omega, ?_, ?_⟩, rfl⟩
                  · have e : (10 : Int) ^ P = 10 ^ j * 10 ^ t := by rw [← Int.pow_add]; congr 1; omega
                    rw [e]
                    exact Int.mul_lt_mul_of_pos_right Hf1.out (Int.pow_pos (by decide))
                  · show (n * 10 ^ j + f) * 10 ^ (P - j) = _
                    have e : (10 : Int) ^ P = 10 ^ j * 10 ^ t := by rw [← Int.pow_add]; congr 1; omega
                    rw [Ht.out, e, Int.add_mul, Int.mul_assoc]
                  · exact Hshut.out
    · have hpb : ((s[k].toNat : Int) != 46) = true := by rw [bne_iff_ne]; omega
      have i1 : ¬ (s.size : Int) ≤ (k : Int) := by omega
      have Hp := Lib.hid hp
      clear hp
      go_enter Tryd.func36, Tryd.ntmps36
      go_wp2
      go_ret3
      refine ⟨0, k, 0, rfl, .inr ⟨rfl, by decide, Int.pow_pos (by decide), _, HS.out, rfl, rfl, by simp, ?_⟩, rfl⟩
      rintro h (hd | hd)
      · exact absurd hd (Hnd.out h)
      · exact absurd hd Hp.out
  · have i1 : (s.size : Int) ≤ (k : Int) := by omega
    go_enter Tryd.func36, Tryd.ntmps36
    go_wp2
    go_ret3
    exact ⟨0, k, 0, rfl, .inr ⟨rfl, by decide, Int.pow_pos (by decide), _, HS.out, rfl, rfl, by simp, fun h => absurd h hk⟩, rfl⟩

end Go.Proofs.YtmhblnlbfhfegaaDoor
