/- What the printers answer of a list: its parts, with a comma between them. Condition: 12 short parts at most. -/
import Derived.Test.YteclbkjonaildaaLPrintB
namespace Go.Proofs.Yteclbkjonaildaa
open Go.RowKit

set_option maxRecDepth 100000 in
set_option maxHeartbeats 2000000 in
theorem printListL_any (part : List UInt8 × List UInt8 → List UInt8) (g : FuncId) (A : Option Addr) (c : Nat) (l : List (List UInt8 × List UInt8)) (w : World) (hn : l.length ≤ 12) (hc : l.length ≤ c) (hcm : c ≤ 9223372036854775807) (hb : ∀ x ∈ l, (part x).length ≤ 100) (hs : SlAt w A (cellsL l))
    (hg1 : ∀ (args : Array Value) (w : World), (callFunc g args).run Try.prog w = .ok (.enter g args) w)
    (hcl : ∀ (x : List UInt8 × List UInt8) (w : World), (part x).length ≤ 100 → Calls Try.prog g #[labV x] w fun e w' => e = .returned (strV (part x)) ∧ Below w.heap.size w w') :
    Calls Try.prog 48 #[.slice A l.length c, .func (Fn.func g) #[] #[]] w fun e w' => e = .returned (strV (printA part l)) ∧ Below w.heap.size w w' := by
  have HS := Lib.hid hs
  have Hcl := Lib.hid hcl
  have Hlen := Lib.hid (printK_len part l 100 hb)
  have Hb := Lib.hid hb
  clear hs hcl hb
  go_enter Try.func48, Try.ntmps48
  go_wp2
  go_loopw [10] (fun i wr => ∃ k : Nat, k ≤ l.length ∧ i = .int .i64 k ∧ IsB w.heap.size w.heap.size (Lib.byteCells (printK part l k)) wr ∧ Below w.heap.size w wr) (fun i _ => l.length - (intOf i).toNat)
  case atStart => exact ⟨0, by omega, rfl, isB_new w, below1 _ _⟩
  case round =>
    obtain ⟨k, hk, rfl, hB, hbw⟩ := hrel
    have HB := Lib.hid hB
    have Hbw := Lib.hid hbw
    have hsz := hbw.size
    clear hB hbw
    by_cases hlt : k < l.length
    · obtain ⟨x, hxk⟩ : ∃ x, l[k]? = some x := ⟨l[k], List.getElem?_eq_getElem hlt⟩
      obtain ⟨b0, o0, hA, hb0, hx⟩ := SlAt.lab (HS.out.below Hbw.out) hxk
      have hpx := Hb.out x (List.mem_of_getElem? hxk)
      have hpk := Hlen.out k
      have hstep : printK part l (k + 1) = printK part l k ++ (if k = 0 then [] else [44]) ++ part x := by rw [printK, hxk]
      subst hA
      have Hstep := Lib.hid hstep
      have hx0 : wr.cell? ⟨b0, o0 + k * 2, none⟩ = some (strV x.1) := hx.1
      have hx1 : wr.cell? ⟨b0, o0 + k * 2 + 1, none⟩ = some (strV x.2) := hx.2
      have Hx := Lib.hid hx
      have Hk := Lib.hid hxk
      clear hx hxk hstep
      have hkl : k * (100 + 1) ≤ 12 * 101 := Nat.mul_le_mul (by omega) (Nat.le_refl _)
      have HB1 := Lib.hid (isB_below HB.out (below1 wr (.cells #[strV x.1, strV x.2] 41)))
      have Hbw1 := Lib.hid (Hbw.out.alloc Hbw.out.size (.cells #[strV x.1, strV x.2] 41))
      have X1 := Lib.hid (Blk.new wr #[strV x.1, strV x.2] 41)
      by_cases h0 : k = 0
      · have h0b : decide (0 < k) = false := by simp [h0]
        have H0 := Lib.hid h0
        clear h0
        go_wp2_with fail
        refine (Hcl.out x _ hpx).mono ?_
        rintro e w2 ⟨rfl, hb2⟩
        have HB2 := Lib.hid (isB_below HB1.out hb2)
        have Hbw2 := Lib.hid (Hbw1.out.trans (hb2.mono Hbw1.out.size))
        clear hb2
        go_wp2_with fail
        refine (writeString_any w.heap.size w.heap.size _ ⟨(part x).toArray⟩ _ HB2.out (by rw [Lib.byteCells_length]; show _ + (part x).length ≤ _; omega) Hbw2.out.size).mono ?_
        rintro e w3 ⟨rfl, hB3, hb3, _⟩
        have HB3 := Lib.hid hB3
        have Hbw3 := Lib.hid (Hbw2.out.trans hb3)
        clear hB3 hb3
        go_wp2
        go_roundw
        case rel =>
          refine ⟨k + 1, by omega, by go_num, ?_, Hbw3.out⟩
          rw [Hstep.out, if_pos H0.out, List.append_nil, Lib.byteCells_append, ← strC (part x)]
          exact HB3.out
        case measure => simp [intOf]; omega
      · have h0b : decide (0 < k) = true := by simp; omega
        have H0 := Lib.hid h0
        clear h0
        go_wp2_with fail
        refine (writeByte_any w.heap.size w.heap.size _ 44 _ HB1.out (by rw [Lib.byteCells_length]; omega) Hbw1.out.size).mono ?_
        rintro e w2 ⟨rfl, hB2, hb2, hk2⟩
        have HB2 := Lib.hid hB2
        have Hbw2 := Lib.hid (Hbw1.out.trans hb2)
        have X2 := Lib.hid (hk2 _ _ _ X1.out (by decide) (by decide))
        clear hB2 hk2 hb2
        have hy0 : w2.cell? ⟨wr.heap.size, 0, none⟩ = some (strV x.1) := Blk.cell X2.out 0
        have hy1 : w2.cell? ⟨wr.heap.size, 1, none⟩ = some (strV x.2) := Blk.cell X2.out 1
        go_wp2_with fail
        refine (Hcl.out x _ hpx).mono ?_
        rintro e w4 ⟨rfl, hb2⟩
        have HB4 := Lib.hid (isB_below HB2.out hb2)
        have Hbw4 := Lib.hid (Hbw2.out.trans (hb2.mono Hbw2.out.size))
        clear hb2
        go_wp2_with fail
        refine (writeString_any w.heap.size w.heap.size _ ⟨(part x).toArray⟩ _ HB4.out (by rw [List.length_append, Lib.byteCells_length]; show _ + 1 + (part x).length ≤ _; omega) Hbw4.out.size).mono ?_
        rintro e w3 ⟨rfl, hB3, hb3, _⟩
        have HB3 := Lib.hid hB3
        have Hbw3 := Lib.hid (Hbw4.out.trans hb3)
        clear hB3 hb3
        go_wp2
        go_roundw
        case rel =>
          refine ⟨k + 1, by omega, by go_num, ?_, Hbw3.out⟩
          rw [Hstep.out, if_neg H0.out, Lib.byteCells_append, Lib.byteCells_append, ← strC (part x)]
          exact HB3.out
        case measure => simp [intOf]; omega
    · obtain rfl : k = l.length := by omega
      go_wp2_with fail
      refine (Try.Builder_String_any w.heap.size w.heap.size _ _ HB.out Hbw.out.size).mono ?_
      rintro e w2 ⟨rfl, hb2⟩
      have Hbw2 := Lib.hid (Hbw.out.trans hb2)
      clear hb2
      go_wp2
      go_ret
      exact ⟨rfl, Hbw2.out⟩

set_option maxHeartbeats 400000 in
theorem print_any (A : Option Addr) (c : Nat) (l : List (List UInt8 × List UInt8)) (w : World) (hn : l.length ≤ 12) (hc : l.length ≤ c) (hcm : c ≤ 9223372036854775807) (hb : ∀ x ∈ l, (labP x).length ≤ 100) (hs : SlAt w A (cellsL l)) :
    Calls Try.prog 18 #[.slice A l.length c] w fun e w' => e = .returned (strV (printA labP l)) ∧ Below w.heap.size w w' := by
  have K := Lib.hid (printListL_any labP 49 A c l w hn hc hcm hb hs (fun _ _ => by kernel_rfl) printL1_any)
  clear hb hs
  go_enter Try.func18, Try.ntmps18
  go_wp2_with fail
  refine K.out.mono ?_
  rintro e w1 ⟨rfl, hb⟩
  have HB := Lib.hid hb
  clear hb
  go_wp2
  go_ret
  exact ⟨rfl, HB.out⟩

end Go.Proofs.Yteclbkjonaildaa
