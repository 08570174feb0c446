/- What Get answers, as a plain function. Condition: a list that can lie in memory. -/
import Derived.Test.YteclbkjonaildaaLOppM
import Derived.Test.YteclbkjonaildaaLEq
namespace Go.Proofs.Yteclbkjonaildaa
open Go.RowKit

theorem find_take {l : List Lab} {k : List UInt8} {n : Nat} {x : Lab} (hx : l[n]? = some x) (h : (l.take n).find? (fun x => decide (x.1 = k)) = none) (hk : x.1 = k) : getL l k = (x.2, true) := by
  unfold getL
  have e : l = l.take n ++ x :: l.drop (n + 1) := by
    obtain ⟨hn, e⟩ := List.getElem?_eq_some_iff.1 hx
    rw [← e, ← List.drop_eq_getElem_cons hn, List.take_append_drop]
  rw [e, List.find?_append, h]
  simp [hk]
theorem find_no {l : List Lab} {k : List UInt8} {n : Nat} {x : Lab} (hx : l[n]? = some x) (h : (l.take n).find? (fun x => decide (x.1 = k)) = none) (hk : ¬ x.1 = k) : (l.take (n + 1)).find? (fun x => decide (x.1 = k)) = none := by
  rw [List.take_add_one, hx, List.find?_append, h]
  simp [hk]

theorem clone_any (l : List UInt8) (w : World) (h : l.length ≤ 1000) : Calls Try.prog 61 #[strV l] w fun e w' => e = .returned (strV l) ∧ Below w.heap.size w w' := by
  have K := Lib.hid (Try.stringslite_Clone ⟨l.toArray⟩ w (by
    show l.toArray.size ≤ _
    simp
    omega))
  go_enter Try.func61, Try.ntmps61
  go_wp2_with fail
  refine K.out.mono ?_
  rintro e w1 ⟨rfl, hb⟩
  have HB := Lib.hid hb
  clear hb
  go_wp2
  go_ret
  exact ⟨rfl, HB.out⟩

set_option maxRecDepth 100000 in
set_option maxHeartbeats 2000000 in
theorem get_any (A : Option Addr) (c : Nat) (l : List Lab) (k : List UInt8) (w : World) (hn : l.length ≤ 1000) (hc : l.length ≤ c) (hs : SlAt w A (cellsL l)) (hbig : ∀ x ∈ l, x.2.length ≤ 1000) :
    Calls Try.prog 28 #[.slice A l.length c, strV k] w fun e w' => e = .returned (.tuple #[strV (getL l k).1, .bool (getL l k).2]) ∧ Below w.heap.size w w' := by
  have HS := Lib.hid hs
  have HBig := Lib.hid hbig
  clear hs hbig
  rcases hG : getL l k with ⟨g1, g2⟩
  have HG := Lib.hid hG
  simp only
  clear hG
  go_enter Try.func28, Try.ntmps28
  go_wp2
  go_loopw [10] (fun i wr => ∃ n : Nat, n ≤ l.length ∧ i = .int .i64 n ∧ (l.take n).find? (fun x => decide (x.1 = k)) = none ∧ Below w.heap.size w wr) (fun i _ => l.length - (intOf i).toNat)
  case atStart => exact ⟨0, by omega, rfl, rfl, Below.refl _ _⟩
  case round =>
    obtain ⟨n, hnl, rfl, hno, hbw⟩ := hrel
    have HB := Lib.hid hbw
    have HNo := Lib.hid hno
    clear hbw hno
    by_cases hlt : n < l.length
    · obtain ⟨x, hx⟩ : ∃ x, l[n]? = some x := ⟨l[n], List.getElem?_eq_getElem hlt⟩
      obtain ⟨b, o, hA, hb, hy⟩ := SlAt.lab (HS.out.below HB.out) hx
      subst hA
      obtain ⟨y0, y1⟩ := hy
      have n0 : (0 : Int) ≤ (n : Int) := by omega
      have n1 : (n : Int) < (l.length : Int) := by omega
      have HX := Lib.hid hx
      have hB2 := Lib.hid (HB.out.alloc HB.out.size (.cells #[strV x.1, strV x.2] 41))
      clear hx
      by_cases hq : x.1 = k
      · have KC := Lib.hid (fun w => clone_any x.2 w (HBig.out x (List.mem_of_getElem? HX.out)))
        have hq2 := find_take HX.out HNo.out hq
        rw [HG.out] at hq2
        simp only [Prod.mk.injEq] at hq2
        obtain ⟨rfl, rfl⟩ := hq2
        subst hq
        go_wp2_with fail
        refine (KC.out _).mono ?_
        rintro e w2 ⟨rfl, hb⟩
        have HB3 := Lib.hid (hB2.out.trans (hb.mono hB2.out.size))
        clear hb
        go_wp2
        go_ret2
        exact ⟨rfl, HB3.out⟩
      · have hqb : (x.1 == k) = false := by simpa using hq
        have HF := Lib.hid (find_no HX.out HNo.out hq)
        have HQ := Lib.hid hq
        clear hq
        go_wp2
        go_roundw
        case rel => exact ⟨n + 1, by omega, by go_num, HF.out, hB2.out⟩
        case measure => simp [intOf]; omega
    · obtain rfl : n = l.length := by omega
      have e : getL l k = ([], false) := by
        have := HNo.out
        rw [List.take_length] at this
        unfold getL
        rw [this]
      rw [HG.out] at e
      simp only [Prod.mk.injEq] at e
      obtain ⟨rfl, rfl⟩ := e
      go_wp2
      go_ret2
      exact ⟨rfl, HB.out⟩
end Go.Proofs.Yteclbkjonaildaa
