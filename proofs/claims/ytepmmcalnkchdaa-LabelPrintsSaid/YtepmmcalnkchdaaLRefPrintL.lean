/- What the document's printers answer of a list: its parts, with a comma between them. Condition: 12 short parts at most. -/
import Derived.Test.YtepmmcalnkchdaaLPrintB
import Derived.Test.YtepmmcalnkchdaaLMathS
namespace Go.Proofs.Ytepmmcalnkchdaa
open Go.RowKit

theorem strEq {a b : ByteArray} (h : a = b) : Value.string a = .string b := by rw [h]

set_option maxRecDepth 100000 in
set_option maxHeartbeats 2000000 in
theorem refPrint_any (A : Option Addr) (c : Nat) (l : List (List UInt8 × List UInt8)) (w : World) (hn : l.length ≤ 12) (hc : l.length ≤ c) (hcm : c ≤ 9223372036854775807) (hb : ∀ x ∈ l, (labP x).length ≤ 100) (hs : SlAt w A (cellsL l)) :
    Calls Try.prog 19 #[.slice A l.length c] w fun e w' => e = .returned (strV (printA labP l)) ∧ Below w.heap.size w w' := by
  have HS := Lib.hid hs
  have Hlen := Lib.hid (printK_len labP l 100 hb)
  have Hb := Lib.hid hb
  clear hs hb
  go_enter Try.func19, Try.ntmps19
  go_wp2
  go_loopw [3, 4] (fun s i wr => ∃ k : Nat, k ≤ l.length ∧ i = .int .i64 k ∧ s = strV (printK labP l k) ∧ Below w.heap.size w wr) (fun _ i _ => l.length - (intOf i).toNat)
  case atStart => exact ⟨0, by omega, rfl, rfl, Below.refl _ _⟩
  case round =>
    obtain ⟨k, hk, rfl, rfl, hbw⟩ := hrel
    have Hbw := Lib.hid hbw
    clear hbw
    by_cases hlt : k < l.length
    · obtain ⟨x, hxk⟩ : ∃ x, l[k]? = some x := ⟨l[k], List.getElem?_eq_getElem hlt⟩
      obtain ⟨b0, o0, hA, hb0, hx⟩ := SlAt.lab (HS.out.below Hbw.out) hxk
      have hpx := Hb.out x (List.mem_of_getElem? hxk)
      have hp1 := labP_parts x
      have hpk := Hlen.out k
      have hkl : k * (100 + 1) ≤ 12 * 101 := Nat.mul_le_mul (by omega) (Nat.le_refl _)
      have hstep : printK labP l (k + 1) = printK labP l k ++ (if k = 0 then [] else [44]) ++ labP x := by rw [printK, hxk]
      subst hA
      have q0 : (printK labP l k).length ≤ 1300 := by omega
      have q1 : x.1.length ≤ 100 := by omega
      have q2 : x.2.length ≤ 100 := by omega
      have Hstep := Lib.hid hstep
      have hx0 : wr.cell? ⟨b0, o0 + k * 2, none⟩ = some (strV x.1) := hx.1
      have hx1 : wr.cell? ⟨b0, o0 + k * 2 + 1, none⟩ = some (strV x.2) := hx.2
      have k0 : (0 : Int) ≤ (k : Int) := by omega
      have k1 : (k : Int) < (l.length : Int) := by omega
      clear hx hxk hstep hpx hp1 hpk hkl
      obtain ⟨P, hP⟩ : ∃ P, printK labP l k = P := ⟨_, rfl⟩
      rw [hP] at q0 ⊢
      have HP := Lib.hid hP
      clear hP
      by_cases h0 : k = 0
      · have h0b : decide (0 < k) = false := by simp [h0]
        have H0 := Lib.hid h0
        clear h0
        go_wp2
        go_quiet (fail)
        go_wp2
        go_roundw
        case rel =>
          refine ⟨k + 1, by omega, by go_num, strEq ?_, belowN Hbw.out _⟩
          rw [Hstep.out, HP.out, if_pos H0.out, List.append_nil]
          unfold labP
          simp only [join_ba, join_ba _ [61], List.append_assoc]
        case measure => simp [intOf]; omega
      · have h0b : decide (0 < k) = true := by simp; omega
        have H0 := Lib.hid h0
        clear h0
        go_wp2
        go_quiet (fail)
        go_wp2
        go_roundw
        case rel =>
          refine ⟨k + 1, by omega, by go_num, strEq ?_, belowN Hbw.out _⟩
          rw [Hstep.out, HP.out, if_neg H0.out]
          unfold labP
          simp only [join_ba, join_ba _ [61], join_ba _ [44], List.append_assoc]
        case measure => simp [intOf]; omega
    · obtain rfl : k = l.length := by omega
      go_wp2
      go_ret
      exact ⟨rfl, Hbw.out⟩

end Go.Proofs.Ytepmmcalnkchdaa
