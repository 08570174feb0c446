/- What the library's division of two words by one comes to, at the two divisors that the document's Parse uses. Condition: the upper word is less than the divisor. -/
import Derived.Test.YtmhblnlbfhfegaaDoorBase
import Derived.Test.YtmhblnlbfhfegaaDoorShelf
import Derived.WalkLawsBesides
import Derived.LoopN
import Derived.Laws.MathBits
import Derived.Laws.BitsAllLaws
namespace Go.Proofs.YtmhblnlbfhfegaaDoor
open Go.RowKit

set_option maxRecDepth 10000 in
set_option maxHeartbeats 1000000 in
theorem div_small (lo y : Int) (w : World) (h0 : 0 ≤ lo) (h1 : lo ≤ 18446744073709551615) (hy : 1 ≤ y) (hy1 : y ≤ 1000000) :
    Calls Tryd.prog 39 #[.int .u64 0, .int .u64 lo, .int .u64 y] w fun e w' => e = .returned (.tuple #[.int .u64 (lo / y), .int .u64 (lo % y)]) ∧ Below w.heap.size w w' := by
  have e1 : (y == 0) = false := by rw [beq_eq_false_iff_ne]; omega
  have e2 : ¬ y ≤ 0 := by omega
  have e3 : ¬ y = 0 := by omega
  go_enter Tryd.func39, Tryd.ntmps39
  go_wp2
  go_quiet (fail)
  go_wp2
  go_ret2
  exact ⟨rfl, ⟨rfl, rfl, rfl, Nat.le_refl _, fun _ _ => rfl⟩⟩

theorem ret2U {a b c d : Int} (h : a = c) (k : b = d) : Ending.returned (.tuple #[.int .u64 a, .int .u64 b]) = .returned (.tuple #[.int .u64 c, .int .u64 d]) := by rw [h, k]

theorem lz_1000 (w : World) : Calls Tryd.prog 50 #[.int .u64 1000] w fun e w' => e = .returned (.int .i64 54) ∧ w = w' := by
  refine (Tryd.bits_LeadingZeros64 1000 w (by decide) (by decide)).mono ?_
  rintro e w' ⟨rfl, rfl⟩
  exact ⟨by rw [show (64 - (Lib.bitLen (1000 : Int).toNat : Int)) = 54 by decide +kernel], rfl⟩
theorem lz_million (w : World) : Calls Tryd.prog 50 #[.int .u64 1000000] w fun e w' => e = .returned (.int .i64 44) ∧ w = w' := by
  refine (Tryd.bits_LeadingZeros64 1000000 w (by decide) (by decide)).mono ?_
  rintro e w' ⟨rfl, rfl⟩
  exact ⟨by rw [show (64 - (Lib.bitLen (1000000 : Int).toNat : Int)) = 44 by decide +kernel], rfl⟩

theorem or_add_54 (hi lo : Int) (h0 : 0 ≤ lo) (h1 : lo < 18446744073709551616) (hh : 0 ≤ hi) (hh1 : hi < 1000) : bits .or .u64 (hi * 18014398509481984) (lo / 1024) = hi * 18014398509481984 + lo / 1024 := by
  rw [u64_or _ _ (by omega) (by omega) (by omega) (by omega)]
  obtain ⟨a, rfl⟩ := Int.eq_ofNat_of_zero_le hh
  obtain ⟨b, hb⟩ := Int.eq_ofNat_of_zero_le (show 0 ≤ lo / 1024 by omega)
  rw [hb]
  have hb2 : b < 2 ^ 54 := by omega
  have e : (((a : Int) * 18014398509481984).toNat) = a <<< 54 := by rw [Nat.shiftLeft_eq]; omega
  rw [e, Int.toNat_natCast, ← Nat.shiftLeft_add_eq_or_of_lt hb2, Nat.shiftLeft_eq]
  omega

theorem or_add_44 (hi lo : Int) (h0 : 0 ≤ lo) (h1 : lo < 18446744073709551616) (hh : 0 ≤ hi) (hh1 : hi < 1000000) : bits .or .u64 (hi * 17592186044416) (lo / 1048576) = hi * 17592186044416 + lo / 1048576 := by
  rw [u64_or _ _ (by omega) (by omega) (by omega) (by omega)]
  obtain ⟨a, rfl⟩ := Int.eq_ofNat_of_zero_le hh
  obtain ⟨b, hb⟩ := Int.eq_ofNat_of_zero_le (show 0 ≤ lo / 1048576 by omega)
  rw [hb]
  have hb2 : b < 2 ^ 44 := by omega
  have e : (((a : Int) * 17592186044416).toNat) = a <<< 44 := by rw [Nat.shiftLeft_eq]; omega
  rw [e, Int.toNat_natCast, ← Nat.shiftLeft_add_eq_or_of_lt hb2, Nat.shiftLeft_eq]
  omega

/-- Plain words of the division by 1000. -/
theorem div_1000_plain (hi lo U L X1 Q1 R1 V Q0 R0 : Int) (h0 : 0 ≤ lo) (h1 : lo < 18446744073709551616) (_hh : 0 ≤ hi) (_hh1 : hi < 1000)
    (hU : U = hi * 18014398509481984 + lo / 1024) (hL : L = lo * 18014398509481984 % 18446744073709551616) (hX : X1 = L / 4294967296) (hQ : Q1 = U / 4194304000) (hR : R1 = U - Q1 * 4194304000)
    (hV : V = R1 * 4294967296 + X1) (hQ0 : Q0 = V / 4194304000) (hR0 : R0 = V - Q0 * 4194304000) :
    Q1 * 4294967296 + Q0 = (hi * 18446744073709551616 + lo) / 1000 ∧ R0 / 4194304 = (hi * 18446744073709551616 + lo) % 1000 ∧ L % 4294967296 = 0 ∧ R0 % 4194304 = 0 := by
  obtain ⟨a, b, rfl, hb0, hb1⟩ : ∃ a b, lo = a * 1024 + b ∧ 0 ≤ b ∧ b < 1024 := ⟨lo / 1024, lo % 1024, by omega, by omega, by omega⟩
  have hUa : U = hi * 18014398509481984 + a := by omega
  have hLb : L = b * 18014398509481984 := by omega
  have hXb : X1 = b * 4194304 := by omega
  have hN : U * 4294967296 + X1 = (hi * 18446744073709551616 + (a * 1024 + b)) * 4194304 := by omega
  have hV2 : V = (hi * 18446744073709551616 + (a * 1024 + b)) * 4194304 - Q1 * 18014398509481984000 := by omega
  clear hU hL hX hUa
  generalize hi * 18446744073709551616 + (a * 1024 + b) = N at *
  refine ⟨by omega, by omega, by omega, by omega⟩

set_option maxRecDepth 10000 in
set_option maxHeartbeats 2000000 in
theorem div_1000 (hi lo : Int) (w : World) (h0 : 0 ≤ lo) (h1 : lo < 18446744073709551616) (hh : 1 ≤ hi) (hh1 : hi < 1000) :
    Calls Tryd.prog 39 #[.int .u64 hi, .int .u64 lo, .int .u64 1000] w fun e w' => e = .returned (.tuple #[.int .u64 ((hi * 18446744073709551616 + lo) / 1000), .int .u64 ((hi * 18446744073709551616 + lo) % 1000)]) ∧ Below w.heap.size w w' := by
  have e1 : (hi == 0) = false := by rw [beq_eq_false_iff_ne]; omega
  have e2 : ¬ 1000 ≤ hi := by omega
  obtain ⟨U, hU⟩ : ∃ U, bits .or .u64 (hi * 18014398509481984) (lo / 1024) = U := ⟨_, rfl⟩
  have hU2 : U = hi * 18014398509481984 + lo / 1024 := by rw [← hU]; exact or_add_54 hi lo h0 h1 (by omega) (by omega)
  obtain ⟨L, hL⟩ : ∃ L, IntKind.u64.wrap (lo * 18014398509481984) = L := ⟨_, rfl⟩
  have hL2 : L = lo * 18014398509481984 % 18446744073709551616 := by rw [← hL, IntKind.wrap_u64]
  have hY : bits .and .u64 18014398509481984000 4294967295 = 0 := by rw [and_low32 _ (by decide) (by decide)]; decide
  obtain ⟨X1, hX⟩ : ∃ X1, L / 4294967296 = X1 := ⟨_, rfl⟩
  obtain ⟨Q1, hQ⟩ : ∃ Q1, U / 4194304000 = Q1 := ⟨_, rfl⟩
  obtain ⟨R1, hR⟩ : ∃ R1, U - Q1 * 4194304000 = R1 := ⟨_, rfl⟩
  obtain ⟨V, hV⟩ : ∃ V, R1 * 4294967296 + X1 = V := ⟨_, rfl⟩
  obtain ⟨Q0, hQ0⟩ : ∃ Q0, V / 4194304000 = Q0 := ⟨_, rfl⟩
  obtain ⟨R0, hR0⟩ : ∃ R0, V - Q0 * 4194304000 = R0 := ⟨_, rfl⟩
  obtain ⟨p1, p2, p3, p4⟩ := div_1000_plain hi lo U L X1 Q1 R1 V Q0 R0 h0 h1 (by omega) hh1 hU2 hL2 hX.symm hQ.symm hR.symm hV.symm hQ0.symm hR0.symm
  have bU0 : 0 ≤ U := by omega
  have bU1 : U < 18014398509481984000 := by omega
  have bL0 : 0 ≤ L := by omega
  have bL1 : L < 18446744073709551616 := by omega
  have hLa : bits .and .u64 L 4294967295 = 0 := by rw [and_low32 _ bL0 bL1]; exact p3
  have bX0 : 0 ≤ X1 := by omega
  have bX1 : X1 < 4294967296 := by omega
  have bQ0 : 0 ≤ Q1 := by omega
  have bQ1 : Q1 < 4294967296 := by omega
  have bR0 : 0 ≤ R1 := by omega
  have bR1 : R1 < 4194304000 := by omega
  have bV0 : 0 ≤ V := by omega
  have bV1 : V < 4194304000 * 4294967296 := by omega
  have bq0 : 0 ≤ Q0 := by omega
  have bq1 : Q0 < 4294967296 := by omega
  have br0 : 0 ≤ R0 := by omega
  have br1 : R0 < 4194304000 := by omega
  obtain ⟨T1, hT1⟩ : ∃ T1, IntKind.u64.wrap (U * 4294967296) = T1 := ⟨_, rfl⟩
  obtain ⟨T2, hT2⟩ : ∃ T2, IntKind.u64.wrap (T1 + X1) = T2 := ⟨_, rfl⟩
  obtain ⟨T3, hT3⟩ : ∃ T3, IntKind.u64.wrap (Q1 * 18014398509481984000) = T3 := ⟨_, rfl⟩
  have hT4 : IntKind.u64.wrap (T2 - T3) = V := by
    rw [← hT3, ← hT2, ← hT1]
    simp only [IntKind.wrap_u64]
    omega
  obtain ⟨T5, hT5⟩ : ∃ T5, IntKind.u64.wrap (V * 4294967296) = T5 := ⟨_, rfl⟩
  obtain ⟨T6, hT6⟩ : ∃ T6, IntKind.u64.wrap (Q0 * 18014398509481984000) = T6 := ⟨_, rfl⟩
  obtain ⟨T7, hT7⟩ : ∃ T7, IntKind.u64.wrap (T5 - T6) = T7 := ⟨_, rfl⟩
  have hT8 : T7 / 18014398509481984 = (hi * 18446744073709551616 + lo) % 1000 := by
    rw [← p2, ← hT7, ← hT6, ← hT5]
    simp only [IntKind.wrap_u64]
    omega
  have bT : 0 ≤ T7 ∧ T7 < 18446744073709551616 := by rw [← hT7, IntKind.wrap_u64]; omega
  obtain ⟨bT0, bT1⟩ := bT
  have bT10 : 0 ≤ T1 ∧ T1 < 18446744073709551616 := by rw [← hT1, IntKind.wrap_u64]; omega
  have bT20 : 0 ≤ T2 ∧ T2 < 18446744073709551616 := by rw [← hT2, IntKind.wrap_u64]; omega
  have bT30 : 0 ≤ T3 ∧ T3 < 18446744073709551616 := by rw [← hT3, IntKind.wrap_u64]; omega
  have bT50 : 0 ≤ T5 ∧ T5 < 18446744073709551616 := by rw [← hT5, IntKind.wrap_u64]; omega
  have bT60 : 0 ≤ T6 ∧ T6 < 18446744073709551616 := by rw [← hT6, IntKind.wrap_u64]; omega
  have P1 := Lib.hid p1
  have P2 := Lib.hid hT8
  clear p1 p2 p3 p4 hU2 hL2 hV hT8
  go_enter Tryd.func39, Tryd.ntmps39
  go_wp2_with fail
  refine (lz_1000 _).mono ?_
  rintro e w' ⟨rfl, rfl⟩
  go_wp2
  refine wp_loop_rounds 1 ?_
  rw [rounds_succ]
  go_wp2
  refine wp_loop_rounds 1 ?_
  rw [rounds_succ]
  go_wp2
  go_ret2
  exact ⟨ret2U P1.out P2.out, Below.refl _ _⟩

/-- Plain words of the division by 1000000. -/
theorem div_million_plain (hi lo U L X1 Q1 R1 V Q0 R0 : Int) (h0 : 0 ≤ lo) (h1 : lo < 18446744073709551616) (_hh : 0 ≤ hi) (_hh1 : hi < 1000000)
    (hU : U = hi * 17592186044416 + lo / 1048576) (hL : L = lo * 17592186044416 % 18446744073709551616) (hX : X1 = L / 4294967296) (hQ : Q1 = U / 4096000000) (hR : R1 = U - Q1 * 4096000000)
    (hV : V = R1 * 4294967296 + X1) (hQ0 : Q0 = V / 4096000000) (hR0 : R0 = V - Q0 * 4096000000) :
    Q1 * 4294967296 + Q0 = (hi * 18446744073709551616 + lo) / 1000000 ∧ R0 / 4096 = (hi * 18446744073709551616 + lo) % 1000000 ∧ L % 4294967296 = 0 ∧ R0 % 4096 = 0 := by
  obtain ⟨a, b, rfl, hb0, hb1⟩ : ∃ a b, lo = a * 1048576 + b ∧ 0 ≤ b ∧ b < 1048576 := ⟨lo / 1048576, lo % 1048576, by omega, by omega, by omega⟩
  have hUa : U = hi * 17592186044416 + a := by omega
  have hLb : L = b * 17592186044416 := by omega
  have hXb : X1 = b * 4096 := by omega
  have hN : U * 4294967296 + X1 = (hi * 18446744073709551616 + (a * 1048576 + b)) * 4096 := by omega
  have hV2 : V = (hi * 18446744073709551616 + (a * 1048576 + b)) * 4096 - Q1 * 17592186044416000000 := by omega
  clear hU hL hX hUa
  generalize hi * 18446744073709551616 + (a * 1048576 + b) = N at *
  refine ⟨by omega, by omega, by omega, by omega⟩

set_option maxRecDepth 10000 in
set_option maxHeartbeats 2000000 in
theorem div_million (hi lo : Int) (w : World) (h0 : 0 ≤ lo) (h1 : lo < 18446744073709551616) (hh : 1 ≤ hi) (hh1 : hi < 1000000) :
    Calls Tryd.prog 39 #[.int .u64 hi, .int .u64 lo, .int .u64 1000000] w fun e w' => e = .returned (.tuple #[.int .u64 ((hi * 18446744073709551616 + lo) / 1000000), .int .u64 ((hi * 18446744073709551616 + lo) % 1000000)]) ∧ Below w.heap.size w w' := by
  have e1 : (hi == 0) = false := by rw [beq_eq_false_iff_ne]; omega
  have e2 : ¬ 1000000 ≤ hi := by omega
  obtain ⟨U, hU⟩ : ∃ U, bits .or .u64 (hi * 17592186044416) (lo / 1048576) = U := ⟨_, rfl⟩
  have hU2 : U = hi * 17592186044416 + lo / 1048576 := by rw [← hU]; exact or_add_44 hi lo h0 h1 (by omega) (by omega)
  obtain ⟨L, hL⟩ : ∃ L, IntKind.u64.wrap (lo * 17592186044416) = L := ⟨_, rfl⟩
  have hL2 : L = lo * 17592186044416 % 18446744073709551616 := by rw [← hL, IntKind.wrap_u64]
  have hY : bits .and .u64 17592186044416000000 4294967295 = 0 := by rw [and_low32 _ (by decide) (by decide)]; decide
  obtain ⟨X1, hX⟩ : ∃ X1, L / 4294967296 = X1 := ⟨_, rfl⟩
  obtain ⟨Q1, hQ⟩ : ∃ Q1, U / 4096000000 = Q1 := ⟨_, rfl⟩
  obtain ⟨R1, hR⟩ : ∃ R1, U - Q1 * 4096000000 = R1 := ⟨_, rfl⟩
  obtain ⟨V, hV⟩ : ∃ V, R1 * 4294967296 + X1 = V := ⟨_, rfl⟩
  obtain ⟨Q0, hQ0⟩ : ∃ Q0, V / 4096000000 = Q0 := ⟨_, rfl⟩
  obtain ⟨R0, hR0⟩ : ∃ R0, V - Q0 * 4096000000 = R0 := ⟨_, rfl⟩
  obtain ⟨p1, p2, p3, p4⟩ := div_million_plain hi lo U L X1 Q1 R1 V Q0 R0 h0 h1 (by omega) hh1 hU2 hL2 hX.symm hQ.symm hR.symm hV.symm hQ0.symm hR0.symm
  have bU0 : 0 ≤ U := by omega
  have bU1 : U < 17592186044416000000 := by omega
  have bL0 : 0 ≤ L := by omega
  have bL1 : L < 18446744073709551616 := by omega
  have hLa : bits .and .u64 L 4294967295 = 0 := by rw [and_low32 _ bL0 bL1]; exact p3
  have bX0 : 0 ≤ X1 := by omega
  have bX1 : X1 < 4294967296 := by omega
  have bQ0 : 0 ≤ Q1 := by omega
  have bQ1 : Q1 < 4294967296 := by omega
  have bR0 : 0 ≤ R1 := by omega
  have bR1 : R1 < 4096000000 := by omega
  have bV0 : 0 ≤ V := by omega
  have bV1 : V < 4096000000 * 4294967296 := by omega
  have bq0 : 0 ≤ Q0 := by omega
  have bq1 : Q0 < 4294967296 := by omega
  have br0 : 0 ≤ R0 := by omega
  have br1 : R0 < 4096000000 := by omega
  obtain ⟨T1, hT1⟩ : ∃ T1, IntKind.u64.wrap (U * 4294967296) = T1 := ⟨_, rfl⟩
  obtain ⟨T2, hT2⟩ : ∃ T2, IntKind.u64.wrap (T1 + X1) = T2 := ⟨_, rfl⟩
  obtain ⟨T3, hT3⟩ : ∃ T3, IntKind.u64.wrap (Q1 * 17592186044416000000) = T3 := ⟨_, rfl⟩
  have hT4 : IntKind.u64.wrap (T2 - T3) = V := by
    rw [← hT3, ← hT2, ← hT1]
    simp only [IntKind.wrap_u64]
    omega
  obtain ⟨T5, hT5⟩ : ∃ T5, IntKind.u64.wrap (V * 4294967296) = T5 := ⟨_, rfl⟩
  obtain ⟨T6, hT6⟩ : ∃ T6, IntKind.u64.wrap (Q0 * 17592186044416000000) = T6 := ⟨_, rfl⟩
  obtain ⟨T7, hT7⟩ : ∃ T7, IntKind.u64.wrap (T5 - T6) = T7 := ⟨_, rfl⟩
  have hT8 : T7 / 17592186044416 = (hi * 18446744073709551616 + lo) % 1000000 := by
    rw [← p2, ← hT7, ← hT6, ← hT5]
    simp only [IntKind.wrap_u64]
    omega
  have bT : 0 ≤ T7 ∧ T7 < 18446744073709551616 := by rw [← hT7, IntKind.wrap_u64]; omega
  obtain ⟨bT0, bT1⟩ := bT
  have bT10 : 0 ≤ T1 ∧ T1 < 18446744073709551616 := by rw [← hT1, IntKind.wrap_u64]; omega
  have bT20 : 0 ≤ T2 ∧ T2 < 18446744073709551616 := by rw [← hT2, IntKind.wrap_u64]; omega
  have bT30 : 0 ≤ T3 ∧ T3 < 18446744073709551616 := by rw [← hT3, IntKind.wrap_u64]; omega
  have bT50 : 0 ≤ T5 ∧ T5 < 18446744073709551616 := by rw [← hT5, IntKind.wrap_u64]; omega
  have bT60 : 0 ≤ T6 ∧ T6 < 18446744073709551616 := by rw [← hT6, IntKind.wrap_u64]; omega
  have P1 := Lib.hid p1
  have P2 := Lib.hid hT8
  clear p1 p2 p3 p4 hU2 hL2 hV hT8
  go_enter Tryd.func39, Tryd.ntmps39
  go_wp2_with fail
  refine (lz_million _).mono ?_
  rintro e w' ⟨rfl, rfl⟩
  go_wp2
  refine wp_loop_rounds 1 ?_
  rw [rounds_succ]
  go_wp2
  refine wp_loop_rounds 1 ?_
  rw [rounds_succ]
  go_wp2
  go_ret2
  exact ⟨ret2U P1.out P2.out, Below.refl _ _⟩

end Go.Proofs.YtmhblnlbfhfegaaDoor
