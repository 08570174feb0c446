/- Add, Sub, Mul and Share answer as the chapter says, of all numbers: the walk. Condition: the library's table of powers of ten lies as it was laid. -/
import Derived.Test.YtmhblnlbfhfegaaDoorAdd
import Derived.Test.YtmhblnlbfhfegaaDoorWorks
namespace Go.Proofs.YtmhblnlbfhfegaaDoor
open Go.RowKit

theorem sub_to (a b n e0 : Int) (w : World) (ha : -9223372036854775808 ≤ a) (ha' : a ≤ 9223372036854775807) (hb : -9223372036854775808 ≤ b) (hb' : b ≤ 9223372036854775807) (h : subL a b = (n, e0)) :
    Calls Tryd.prog 22 #[.int .i64 a, .int .i64 b] w fun e w' => e = .returned (.tuple #[.int .i64 n, .int .i64 e0]) ∧ Below w.heap.size w w' := by
  have k := sub_any a b w ha ha' hb hb'
  rw [h] at k
  exact k
theorem rsub_to (a b n e0 : Int) (w : World) (ha : -9223372036854775808 ≤ a) (ha' : a ≤ 9223372036854775807) (hb : -9223372036854775808 ≤ b) (hb' : b ≤ 9223372036854775807) (h : subL a b = (n, e0)) :
    Calls Tryd.prog 23 #[.int .i64 a, .int .i64 b] w fun e w' => e = .returned (.tuple #[.int .i64 n, .int .i64 e0]) ∧ Below w.heap.size w w' := by
  have k := rsub_any a b w ha ha' hb hb'
  rw [h] at k
  exact k
theorem mul_to (a b n e0 : Int) (w : World) (ha : -9223372036854775808 ≤ a) (ha' : a ≤ 9223372036854775807) (hb : -9223372036854775808 ≤ b) (hb' : b ≤ 9223372036854775807) (h : mulL a b = (n, e0)) :
    Calls Tryd.prog 24 #[.int .i64 a, .int .i64 b] w fun e w' => e = .returned (.tuple #[.int .i64 n, .int .i64 e0]) ∧ Below w.heap.size w w' := by
  have k := mul_any a b w ha ha' hb hb'
  rw [h] at k
  exact k
theorem rmul_to (a b n e0 : Int) (w : World) (ha : -9223372036854775808 ≤ a) (ha' : a ≤ 9223372036854775807) (hb : -9223372036854775808 ≤ b) (hb' : b ≤ 9223372036854775807) (h : mulL a b = (n, e0)) :
    Calls Tryd.prog 25 #[.int .i64 a, .int .i64 b] w fun e w' => e = .returned (.tuple #[.int .i64 n, .int .i64 e0]) ∧ Below w.heap.size w w' := by
  have k := rmul_any a b w ha ha' hb hb'
  rw [h] at k
  exact k
theorem share_to (a b n e0 : Int) (w : World) (ha : -9223372036854775808 ≤ a) (ha' : a ≤ 9223372036854775807) (hb : -9223372036854775808 ≤ b) (hb' : b ≤ 9223372036854775807) (h : shareL a b = (n, e0)) :
    Calls Tryd.prog 26 #[.int .i64 a, .int .i64 b] w fun e w' => e = .returned (.tuple #[.int .i64 n, .int .i64 e0]) ∧ Below w.heap.size w w' := by
  have k := share_any a b w ha ha' hb hb'
  rw [h] at k
  exact k
theorem rshare_to (a b n e0 : Int) (w : World) (ha : -9223372036854775808 ≤ a) (ha' : a ≤ 9223372036854775807) (hb : -9223372036854775808 ≤ b) (hb' : b ≤ 9223372036854775807) (h : shareL a b = (n, e0)) :
    Calls Tryd.prog 27 #[.int .i64 a, .int .i64 b] w fun e w' => e = .returned (.tuple #[.int .i64 n, .int .i64 e0]) ∧ Below w.heap.size w w' := by
  have k := rshare_any a b w ha ha' hb hb'
  rw [h] at k
  exact k

set_option maxRecDepth 100000 in
set_option maxHeartbeats 2000000 in
theorem reckons_any (A : Option Addr) (c : Nat) (l : List Int) (x y : Int) (w : World) (hl : l.length ≤ maxLen) (hc : l.length ≤ c) (hr : RowOf w A l) (ht : Tab w)
    (hx : -9223372036854775808 ≤ x) (hx' : x ≤ 9223372036854775807) (hy : -9223372036854775808 ≤ y) (hy' : y ≤ 9223372036854775807) :
    Calls Tryd.prog 5 #[.slice A l.length c, .int .i64 x, .int .i64 y] w fun e w' => e = .returned (.bool true) ∧ Below w.heap.size w w' := by
  have HT := Lib.hid ht
  have Hr := Lib.hid hr
  clear ht hr
  unfold maxLen at hl
  have HB : Hid (Below w.heap.size w w) := Below.refl _ _
  have hlen : (min (l.length : Int) 20).toNat = (l.take 20).length := by simp; omega
  have Hlen := Lib.hid hlen
  clear hlen
  have hr20 : RowOf w A (l.take 20) := fun k x hk => Hr.out k x (by
    rw [List.getElem?_take] at hk
    split at hk
    · exact hk
    · cases hk)
  have Hr20 := Lib.hid hr20
  clear hr20
  have hl20 : (l.take 20).length ≤ maxLen := by unfold maxLen; simp; omega
  rcases hadd : addL (l.take 20) with ⟨s0, e0⟩
  rcases hsub : subL x y with ⟨s1, e1⟩
  rcases hmul : mulL x y with ⟨s2, e2⟩
  rcases hsha : shareL x y with ⟨s3, e3⟩
  have Ka := Lib.hid (add_any A c (l.take 20) w hl20 Hr20.out)
  have Kb := Lib.hid (radd_any A c (l.take 20) w hl20 Hr20.out)
  have Hadd := Lib.hid hadd
  have Hsub := Lib.hid hsub
  have Hmul := Lib.hid hmul
  have Hsha := Lib.hid hsha
  clear hadd hsub hmul hsha hl20
  go_enter Tryd.func5, Tryd.ntmps5
  go_wp2_with fail
  rw [Hlen.out]
  have ka := Ka.out
  rw [Hadd.out] at ka
  refine ka.mono ?_
  rintro e w1 ⟨rfl, rfl⟩
  clear ka
  generalize (l.take 20).length = n20 at Kb ⊢
  go_wp2_with fail
  have kb := Kb.out
  rw [Hadd.out] at kb
  refine kb.mono ?_
  rintro e w1 ⟨rfl, rfl⟩
  clear kb
  go_wp2_with fail
  refine (sub_to x y s1 e1 _ hx hx' hy hy' Hsub.out).mono ?_
  rintro e w1 ⟨rfl, hb⟩
  replace HB := Lib.hid (HB.out.trans (hb.mono HB.out.size))
  clear hb
  go_wp2_with fail
  refine (rsub_to x y s1 e1 _ hx hx' hy hy' Hsub.out).mono ?_
  rintro e w2 ⟨rfl, hb⟩
  replace HB := Lib.hid (HB.out.trans (hb.mono HB.out.size))
  clear hb
  go_wp2_with fail
  refine (mul_to x y s2 e2 _ hx hx' hy hy' Hmul.out).mono ?_
  rintro e w3 ⟨rfl, hb⟩
  replace HB := Lib.hid (HB.out.trans (hb.mono HB.out.size))
  clear hb
  go_wp2_with fail
  refine (rmul_to x y s2 e2 _ hx hx' hy hy' Hmul.out).mono ?_
  rintro e w4 ⟨rfl, hb⟩
  replace HB := Lib.hid (HB.out.trans (hb.mono HB.out.size))
  clear hb
  go_wp2_with fail
  refine (share_to x y s3 e3 _ hx hx' hy hy' Hsha.out).mono ?_
  rintro e w5 ⟨rfl, hb⟩
  replace HB := Lib.hid (HB.out.trans (hb.mono HB.out.size))
  clear hb
  go_wp2_with fail
  refine (rshare_to x y s3 e3 _ hx hx' hy hy' Hsha.out).mono ?_
  rintro e w6 ⟨rfl, hb⟩
  replace HB := Lib.hid (HB.out.trans (hb.mono HB.out.size))
  clear hb
  go_wp2_with fail
  refine (works_any _ (HT.out.below HB.out)).mono ?_
  rintro e w7 ⟨rfl, hb⟩
  replace HB := Lib.hid (HB.out.trans (hb.mono HB.out.size))
  clear hb
  go_wp2
  go_ret
  exact ⟨rfl, HB.out⟩

end Go.Proofs.YtmhblnlbfhfegaaDoor
