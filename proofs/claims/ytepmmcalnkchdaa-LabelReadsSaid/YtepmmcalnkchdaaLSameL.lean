/- The document's look at two lists that are the same. Condition: 6 at most. -/
import Derived.Test.YtepmmcalnkchdaaLPrintB
import Derived.Test.YtepmmcalnkchdaaLEq
import Derived.Test.YtepmmcalnkchdaaLWorks
namespace Go.Proofs.Ytepmmcalnkchdaa
open Go.RowKit

set_option maxRecDepth 100000 in
set_option maxHeartbeats 2000000 in
theorem sameL_any (A B : Option Addr) (c d : Nat) (l : List (List UInt8 × List UInt8)) (w : World) (hn : l.length ≤ 6) (hc : l.length ≤ c) (hcm : c ≤ 9223372036854775807) (hd : l.length ≤ d) (hdm : d ≤ 9223372036854775807) (hs : SlAt w A (cellsL l)) (ht : SlAt w B (cellsL l)) :
    Calls Try.prog 14 #[.slice A l.length c, .slice B l.length d] w fun e w' => e = .returned (.bool true) ∧ Below w.heap.size w w' := by
  have HS := Lib.hid hs
  have HT := Lib.hid ht
  clear hs ht
  go_enter Try.func14, Try.ntmps14
  go_wp2
  go_loopw [5] (fun i wr => ∃ k : Nat, k ≤ l.length ∧ i = .int .i64 k ∧ Below w.heap.size w wr) (fun i _ => l.length - (intOf i).toNat)
  case atStart => exact ⟨0, by omega, rfl, Below.refl _ _⟩
  case round =>
    obtain ⟨k, hk, rfl, hbw⟩ := hrel
    have Hbw := Lib.hid hbw
    clear hbw
    by_cases hlt : k < l.length
    · obtain ⟨x, hxk⟩ : ∃ x, l[k]? = some x := ⟨l[k], List.getElem?_eq_getElem hlt⟩
      obtain ⟨b0, o0, hA, hb0, hx⟩ := SlAt.lab (HS.out.below Hbw.out) hxk
      obtain ⟨b1, o1, hB, hb1, hy⟩ := SlAt.lab (HT.out.below Hbw.out) hxk
      subst hA hB
      have hx0 : wr.cell? ⟨b0, o0 + k * 2, none⟩ = some (strV x.1) := hx.1
      have hy0 : wr.cell? ⟨b1, o1 + k * 2, none⟩ = some (strV x.1) := hy.1
      have hx1 : wr.cell? ⟨b0, o0 + k * 2 + 1, none⟩ = some (strV x.2) := hx.2
      have hy1 : wr.cell? ⟨b1, o1 + k * 2 + 1, none⟩ = some (strV x.2) := hy.2
      have hq := fun w => eq_lab x w
      have hgd := lab_guard
      have k0 : (0 : Int) ≤ (k : Int) := by omega
      have k1 : (k : Int) < (l.length : Int) := by omega
      clear hx hy hxk
      go_wp2
      go_quiet (fail)
      go_wp2
      go_roundw
      case rel => exact ⟨k + 1, by omega, by go_num, belowN Hbw.out _⟩
      case measure => simp [intOf]; omega
    · obtain rfl : k = l.length := by omega
      go_wp2
      go_ret
      exact ⟨rfl, Hbw.out⟩

set_option maxRecDepth 100000 in
set_option maxHeartbeats 2000000 in
theorem sameT_any (A B : Option Addr) (c d : Nat) (l : List (Int × List UInt8 × List UInt8)) (w : World) (hn : l.length ≤ 6) (hc : l.length ≤ c) (hcm : c ≤ 9223372036854775807) (hd : l.length ≤ d) (hdm : d ≤ 9223372036854775807) (hs : SlAt w A (cellsT l)) (ht : SlAt w B (cellsT l)) :
    Calls Try.prog 15 #[.slice A l.length c, .slice B l.length d] w fun e w' => e = .returned (.bool true) ∧ Below w.heap.size w w' := by
  have HS := Lib.hid hs
  have HT := Lib.hid ht
  clear hs ht
  go_enter Try.func15, Try.ntmps15
  go_wp2
  go_loopw [5] (fun i wr => ∃ k : Nat, k ≤ l.length ∧ i = .int .i64 k ∧ Below w.heap.size w wr) (fun i _ => l.length - (intOf i).toNat)
  case atStart => exact ⟨0, by omega, rfl, Below.refl _ _⟩
  case round =>
    obtain ⟨k, hk, rfl, hbw⟩ := hrel
    have Hbw := Lib.hid hbw
    clear hbw
    by_cases hlt : k < l.length
    · obtain ⟨x, hxk⟩ : ∃ x, l[k]? = some x := ⟨l[k], List.getElem?_eq_getElem hlt⟩
      obtain ⟨b0, o0, hA, hb0, hx⟩ := SlAt.ter (HS.out.below Hbw.out) hxk
      obtain ⟨b1, o1, hB, hb1, hy⟩ := SlAt.ter (HT.out.below Hbw.out) hxk
      subst hA hB
      have hx0 : wr.cell? ⟨b0, o0 + k * 3, none⟩ = some (.int .i64 x.1) := hx.1
      have hy0 : wr.cell? ⟨b1, o1 + k * 3, none⟩ = some (.int .i64 x.1) := hy.1
      have hx1 : wr.cell? ⟨b0, o0 + k * 3 + 1, none⟩ = some (strV x.2.1) := hx.2.1
      have hy1 : wr.cell? ⟨b1, o1 + k * 3 + 1, none⟩ = some (strV x.2.1) := hy.2.1
      have hx2 : wr.cell? ⟨b0, o0 + k * 3 + 2, none⟩ = some (strV x.2.2) := hx.2.2
      have hy2 : wr.cell? ⟨b1, o1 + k * 3 + 2, none⟩ = some (strV x.2.2) := hy.2.2
      have hq := fun w => eq_ter x w
      have hgd := ter_guard
      have k0 : (0 : Int) ≤ (k : Int) := by omega
      have k1 : (k : Int) < (l.length : Int) := by omega
      clear hx hy hxk
      go_wp2
      go_quiet (fail)
      go_wp2
      go_roundw
      case rel => exact ⟨k + 1, by omega, by go_num, belowN Hbw.out _⟩
      case measure => simp [intOf]; omega
    · obtain rfl : k = l.length := by omega
      go_wp2
      go_ret
      exact ⟨rfl, Hbw.out⟩

end Go.Proofs.Ytepmmcalnkchdaa
