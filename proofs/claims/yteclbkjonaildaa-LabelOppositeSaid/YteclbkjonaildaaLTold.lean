/- What the law makes of numbers: names, values, terms. No conditions. -/
import Derived.Test.YteclbkjonaildaaLBase
import Derived.Deep.RegionHeld3
namespace Go.Proofs.Yteclbkjonaildaa
open Go.RowKit

theorem retI2 {k : IntKind} {a b : Int} (h : a = b) : Ending.returned (.int k a) = .returned (.int k b) := by rw [h]
theorem neg_lt_tmod (i : Int) {n : Int} (hn : 0 < n) : -n < i.tmod n := by
  have h := Int.tmod_lt_of_pos (-i) hn
  rw [Int.neg_tmod] at h
  omega
theorem emod_of_tmod (i n : Int) : i % n = i.tmod n % n := by
  conv => lhs; rw [← Int.mul_tdiv_add_tmod i n]
  rw [Int.mul_add_emod_self_left]
theorem emod_neg {i n : Int} (hn : 0 < n) (h : i.tmod n < 0) : i % n = i.tmod n + n := by
  have h1 : -n < i.tmod n := by
    have := neg_lt_tmod i hn
    omega
  rw [emod_of_tmod i n, ← Int.add_emod_right]
  exact Int.emod_eq_of_lt (by omega) (by omega)
theorem emod_pos {i n : Int} (hn : 0 < n) (h : ¬ i.tmod n < 0) : i % n = i.tmod n := by
  rw [emod_of_tmod i n]
  exact Int.emod_eq_of_lt (by omega) (Int.tmod_lt_of_pos i hn)

set_option maxHeartbeats 400000 in
theorem bring_any (i n : Int) (w : World) (hn : 0 < n) (hn' : n ≤ 4611686018427387904) :
    Calls Try.prog 55 #[.int .i64 i, .int .i64 n] w fun e w' => e = .returned (.int .i64 (i % n)) ∧ w = w' := by
  have hlt := Int.tmod_lt_of_pos i hn
  have hgt := neg_lt_tmod i hn
  have Hw : Hid (IntKind.i64.wrap (i.tmod n) = i.tmod n) := IntWalk.i64_in _ (by omega)
  by_cases h : i.tmod n < 0
  · have He := Lib.hid (emod_neg hn h)
    have Hw2 : Hid (IntKind.i64.wrap (i.tmod n + n) = i.tmod n + n) := IntWalk.i64_in _ (by omega)
    have hz : ¬ n = 0 := by omega
    go_enter Try.func55, Try.ntmps55
    go_wp2
    go_ret
    exact ⟨retI2 He.out.symm, rfl⟩
  · have He := Lib.hid (emod_pos hn h)
    have hz : ¬ n = 0 := by omega
    go_enter Try.func55, Try.ntmps55
    go_wp2
    go_ret
    exact ⟨retI2 He.out.symm, rfl⟩

def smallL : List (List UInt8) := [[97], [98], [99, 57], [100, 45, 101], [122, 111, 110, 101], [97, 98, 99, 100, 101, 102, 103, 104, 105, 106, 107, 108, 109, 110, 111], [120], [121, 45]]
def valueL : List (List UInt8) := [[49], [98], [57, 45, 57], [119, 101, 115, 116], [45], [97, 98, 99, 100, 101, 102, 103, 104, 105, 106, 107, 108, 109, 110, 111]]
def smallF (n : Int) : List UInt8 := smallL.getD (n % 8).toNat []
def valueF (n : Int) : List UInt8 := valueL.getD (n % 6).toNat []

set_option maxHeartbeats 1000000 in
theorem small_any (n : Int) (w : World) : Calls Try.prog 56 #[.int .i64 n] w fun e w' => e = .returned (strV (smallF n)) ∧ Below w.heap.size w w' := by
  have b0 : (0 : Int) ≤ n % 8 := Int.emod_nonneg _ (by decide)
  have b1 : n % 8 < 8 := Int.emod_lt_of_pos _ (by decide)
  obtain ⟨k, hk⟩ : ∃ k : Nat, n % 8 = k := ⟨(n % 8).toNat, by omega⟩
  have hk8 : k < 8 := by omega
  obtain ⟨x, hx⟩ : ∃ x, smallL[k]? = some x := ⟨smallL[k]'(by simpa [smallL] using hk8), List.getElem?_eq_getElem _⟩
  have hF : smallF n = x := by
    unfold smallF
    rw [hk]
    simp [List.getD, hx]
  rw [hF]
  have KB := Lib.hid (fun w => bring_any n 8 w (by decide) (by decide))
  rw [hk] at KB
  have k0 : (0 : Int) ≤ (k : Int) := by omega
  have k1 : (k : Int) < 8 := by omega
  clear hF hk b0 b1
  go_enter Try.func56, Try.ntmps56
  go_wp2_with fail
  refine (KB.out _).mono ?_
  rintro e w1 ⟨rfl, rfl⟩
  have h2 : (smallL.map strV)[k]? = some (strV x) := by rw [List.getElem?_map, hx]; rfl
  go_wp2
  go_ret
  exact ⟨congrArg Ending.returned (List.getElem?_eq_some_iff.1 h2).2, below1 _ _⟩
set_option maxHeartbeats 1000000 in
theorem valueN_any (n : Int) (w : World) : Calls Try.prog 54 #[.int .i64 n] w fun e w' => e = .returned (strV (valueF n)) ∧ Below w.heap.size w w' := by
  have b0 : (0 : Int) ≤ n % 6 := Int.emod_nonneg _ (by decide)
  have b1 : n % 6 < 6 := Int.emod_lt_of_pos _ (by decide)
  obtain ⟨k, hk⟩ : ∃ k : Nat, n % 6 = k := ⟨(n % 6).toNat, by omega⟩
  have hk6 : k < 6 := by omega
  obtain ⟨x, hx⟩ : ∃ x, valueL[k]? = some x := ⟨valueL[k]'(by simpa [valueL] using hk6), List.getElem?_eq_getElem _⟩
  have hF : valueF n = x := by
    unfold valueF
    rw [hk]
    simp [List.getD, hx]
  rw [hF]
  have KB := Lib.hid (fun w => bring_any n 6 w (by decide) (by decide))
  rw [hk] at KB
  have k0 : (0 : Int) ≤ (k : Int) := by omega
  have k1 : (k : Int) < 6 := by omega
  clear hF hk b0 b1
  go_enter Try.func54, Try.ntmps54
  go_wp2_with fail
  refine (KB.out _).mono ?_
  rintro e w1 ⟨rfl, rfl⟩
  have h2 : (valueL.map strV)[k]? = some (strV x) := by rw [List.getElem?_map, hx]; rfl
  go_wp2
  go_ret
  exact ⟨congrArg Ending.returned (List.getElem?_eq_some_iff.1 h2).2, below1 _ _⟩
end Go.Proofs.Yteclbkjonaildaa
