/- What the document's printer of terms answers of a list: its parts, with a comma between them. Conditions: 12 short parts at most, each of a kind. -/
import Derived.Test.YtepmmcalnkchdaaLRefPrintL
namespace Go.Proofs.Ytepmmcalnkchdaa
open Go.RowKit

set_option maxRecDepth 100000 in
set_option maxHeartbeats 8000000 in
theorem refTerms_any (A : Option Addr) (c : Nat) (l : List (Int × List UInt8 × List UInt8)) (w : World) (hn : l.length ≤ 12) (hc : l.length ≤ c) (hcm : c ≤ 9223372036854775807) (hb : ∀ x ∈ l, x.2.1.length ≤ 15 ∧ x.2.2.length ≤ 15 ∧ (terP x).length ≤ 100) (hkd : ∀ x ∈ l, x.1 = 1 ∨ x.1 = 2 ∨ x.1 = 3 ∨ x.1 = 4) (hs : SlAt w A (cellsT l)) :
    Calls Try.prog 22 #[.slice A l.length c] w fun e w' => e = .returned (strV (printA terP l)) ∧ Below w.heap.size w w' := by
  have HS := Lib.hid hs
  have Hlen := Lib.hid (printK_len terP l 100 (fun x hx => (hb x hx).2.2))
  have Hb := Lib.hid hb
  have Hkd := Lib.hid hkd
  clear hs hb hkd
  go_enter Try.func22, Try.ntmps22
  go_wp2
  go_loopw [3, 4] (fun s i wr => ∃ k : Nat, k ≤ l.length ∧ i = .int .i64 k ∧ s = strV (printK terP l k) ∧ Below w.heap.size w wr) (fun _ i _ => l.length - (intOf i).toNat)
  case atStart => exact ⟨0, by omega, rfl, rfl, Below.refl _ _⟩
  case round =>
    obtain ⟨k, hk, rfl, rfl, hbw⟩ := hrel
    have Hbw := Lib.hid hbw
    clear hbw
    by_cases hlt : k < l.length
    · obtain ⟨⟨kd, xa, xb⟩, hxk⟩ : ∃ x, l[k]? = some x := ⟨l[k], List.getElem?_eq_getElem hlt⟩
      obtain ⟨b0, o0, hA, hb0, hx⟩ := SlAt.ter (HS.out.below Hbw.out) hxk
      obtain ⟨q1, q2, hpx⟩ := Hb.out _ (List.mem_of_getElem? hxk)
      have hkk := Hkd.out _ (List.mem_of_getElem? hxk)
      have hpk := Hlen.out k
      have hkl : k * (100 + 1) ≤ 12 * 101 := Nat.mul_le_mul (by omega) (Nat.le_refl _)
      have hstep : printK terP l (k + 1) = printK terP l k ++ (if k = 0 then [] else [44]) ++ terP (kd, xa, xb) := by rw [printK, hxk]
      subst hA
      simp only at q1 q2 hkk
      have q0 : (printK terP l k).length ≤ 1300 := by omega
      have Hstep := Lib.hid hstep
      have hx0 : wr.cell? ⟨b0, o0 + k * 3, none⟩ = some (.int .i64 kd) := hx.1
      have hx1 : wr.cell? ⟨b0, o0 + k * 3 + 1, none⟩ = some (strV xa) := hx.2.1
      have hx2 : wr.cell? ⟨b0, o0 + k * 3 + 2, none⟩ = some (strV xb) := hx.2.2
      have k0 : (0 : Int) ≤ (k : Int) := by omega
      have k1 : (k : Int) < (l.length : Int) := by omega
      clear hx hxk hstep hpx hpk hkl
      obtain ⟨P, hP⟩ : ∃ P, printK terP l k = P := ⟨_, rfl⟩
      rw [hP] at q0 ⊢
      have HP := Lib.hid hP
      clear hP
      by_cases h0 : k = 0
      · have h0b : decide (0 < k) = false := by simp [h0]
        have H0 := Lib.hid h0
        clear h0
        rcases hkk with hk1 | hk1 | hk1 | hk1
        · have hb1 : (kd == 1) = true := by first | (simp; omega) | simp_all
          have Hk1 := Lib.hid hk1
          clear hk1
          go_wp2
          go_quiet (fail)
          go_wp2
          go_roundw
          case rel =>
            refine ⟨k + 1, by omega, by go_num, strEq ?_, belowN Hbw.out _⟩
            have hk1 := Hk1.out
            subst hk1
            rw [Hstep.out, HP.out, if_pos H0.out, List.append_nil]
            simp [terP, join_ba, join_ba _ [61], join_ba _ [33], join_ba _ [33, 61], join_ba _ [44]]
          case measure => simp [intOf]; omega
        · have hb1 : (kd == 1) = false := by first | (simp; omega) | simp_all
          have hb2 : (kd == 2) = true := by first | (simp; omega) | simp_all
          have Hk1 := Lib.hid hk1
          clear hk1
          go_wp2
          go_quiet (fail)
          go_wp2
          go_roundw
          case rel =>
            refine ⟨k + 1, by omega, by go_num, strEq ?_, belowN Hbw.out _⟩
            have hk1 := Hk1.out
            subst hk1
            rw [Hstep.out, HP.out, if_pos H0.out, List.append_nil]
            simp [terP, join_ba, join_ba _ [61], join_ba _ [33], join_ba _ [33, 61], join_ba _ [44]]
          case measure => simp [intOf]; omega
        · have hb1 : (kd == 1) = false := by first | (simp; omega) | simp_all
          have hb2 : (kd == 2) = false := by first | (simp; omega) | simp_all
          have hb3 : (kd == 3) = true := by first | (simp; omega) | simp_all
          have Hk1 := Lib.hid hk1
          clear hk1
          go_wp2
          go_roundw
          case rel =>
            refine ⟨k + 1, by omega, by go_num, strEq ?_, Hbw.out⟩
            have hk1 := Hk1.out
            subst hk1
            rw [Hstep.out, HP.out, if_pos H0.out, List.append_nil]
            simp [terP, join_ba, join_ba _ [61], join_ba _ [33], join_ba _ [33, 61], join_ba _ [44]]
          case measure => simp [intOf]; omega
        · have hb1 : (kd == 1) = false := by first | (simp; omega) | simp_all
          have hb2 : (kd == 2) = false := by first | (simp; omega) | simp_all
          have hb3 : (kd == 3) = false := by first | (simp; omega) | simp_all
          have hb4 : (kd == 4) = true := by first | (simp; omega) | simp_all
          have Hk1 := Lib.hid hk1
          clear hk1
          go_wp2
          go_roundw
          case rel =>
            refine ⟨k + 1, by omega, by go_num, strEq ?_, Hbw.out⟩
            have hk1 := Hk1.out
            subst hk1
            rw [Hstep.out, HP.out, if_pos H0.out, List.append_nil]
            simp [terP, join_ba, join_ba _ [61], join_ba _ [33], join_ba _ [33, 61], join_ba _ [44]]
          case measure => simp [intOf]; omega
      · have h0b : decide (0 < k) = true := by simp; omega
        have H0 := Lib.hid h0
        clear h0
        rcases hkk with hk1 | hk1 | hk1 | hk1
        · have hb1 : (kd == 1) = true := by first | (simp; omega) | simp_all
          have Hk1 := Lib.hid hk1
          clear hk1
          go_wp2
          go_quiet (fail)
          go_wp2
          go_roundw
          case rel =>
            refine ⟨k + 1, by omega, by go_num, strEq ?_, belowN Hbw.out _⟩
            have hk1 := Hk1.out
            subst hk1
            rw [Hstep.out, HP.out, if_neg H0.out]
            simp [terP, join_ba, join_ba _ [61], join_ba _ [33], join_ba _ [33, 61], join_ba _ [44]]
          case measure => simp [intOf]; omega
        · have hb1 : (kd == 1) = false := by first | (simp; omega) | simp_all
          have hb2 : (kd == 2) = true := by first | (simp; omega) | simp_all
          have Hk1 := Lib.hid hk1
          clear hk1
          go_wp2
          go_quiet (fail)
          go_wp2
          go_roundw
          case rel =>
            refine ⟨k + 1, by omega, by go_num, strEq ?_, belowN Hbw.out _⟩
            have hk1 := Hk1.out
            subst hk1
            rw [Hstep.out, HP.out, if_neg H0.out]
            simp [terP, join_ba, join_ba _ [61], join_ba _ [33], join_ba _ [33, 61], join_ba _ [44]]
          case measure => simp [intOf]; omega
        · have hb1 : (kd == 1) = false := by first | (simp; omega) | simp_all
          have hb2 : (kd == 2) = false := by first | (simp; omega) | simp_all
          have hb3 : (kd == 3) = true := by first | (simp; omega) | simp_all
          have Hk1 := Lib.hid hk1
          clear hk1
          go_wp2
          go_roundw
          case rel =>
            refine ⟨k + 1, by omega, by go_num, strEq ?_, Hbw.out⟩
            have hk1 := Hk1.out
            subst hk1
            rw [Hstep.out, HP.out, if_neg H0.out]
            simp [terP, join_ba, join_ba _ [61], join_ba _ [33], join_ba _ [33, 61], join_ba _ [44]]
          case measure => simp [intOf]; omega
        · have hb1 : (kd == 1) = false := by first | (simp; omega) | simp_all
          have hb2 : (kd == 2) = false := by first | (simp; omega) | simp_all
          have hb3 : (kd == 3) = false := by first | (simp; omega) | simp_all
          have hb4 : (kd == 4) = true := by first | (simp; omega) | simp_all
          have Hk1 := Lib.hid hk1
          clear hk1
          go_wp2
          go_roundw
          case rel =>
            refine ⟨k + 1, by omega, by go_num, strEq ?_, Hbw.out⟩
            have hk1 := Hk1.out
            subst hk1
            rw [Hstep.out, HP.out, if_neg H0.out]
            simp [terP, join_ba, join_ba _ [61], join_ba _ [33], join_ba _ [33, 61], join_ba _ [44]]
          case measure => simp [intOf]; omega
    · obtain rfl : k = l.length := by omega
      go_wp2
      go_ret
      exact ⟨rfl, Hbw.out⟩

end Go.Proofs.Ytepmmcalnkchdaa
