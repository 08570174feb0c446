/- What Check, CheckBears and CheckTerms answer. Condition: the lists lie in memory. -/
import Derived.Test.YteclbkjonaildaaLCheckL
import Derived.Test.YteclbkjonaildaaLCheckT
namespace Go.Proofs.Yteclbkjonaildaa
open Go.RowKit

set_option maxHeartbeats 400000 in
theorem check_any (A : Option Addr) (c : Nat) (l : List (List UInt8 × List UInt8)) (w : World) (hn : l.length ≤ 1000) (hc : l.length ≤ c) (hcm : c ≤ 9223372036854775807) (hs : SlAt w A (cellsL l)) (hbig : ∀ x ∈ l, x.1.length ≤ 9223372036854775807 ∧ x.2.length ≤ 9223372036854775807) :
    Calls Try.prog 24 #[.slice A l.length c] w fun e w' => e = .returned (.int .i64 (chkA labB keyR l)) ∧ Below w.heap.size w w' := by
  have K := Lib.hid (checkL_any labB keyR 57 33 A c l w hn hc hcm hs hbig (fun _ _ => by kernel_rfl) (fun _ _ => by kernel_rfl) (fun x w h => labB_any x w h.1 h.2) keysRise_any)
  clear hs hbig
  go_enter Try.func24, Try.ntmps24
  go_wp2_with fail
  refine K.out.mono ?_
  rintro e w1 ⟨rfl, hb⟩
  have HB := Lib.hid hb
  clear hb
  go_wp2
  go_ret
  exact ⟨rfl, HB.out⟩
set_option maxHeartbeats 400000 in
theorem checkBears_any (A : Option Addr) (c : Nat) (l : List (List UInt8 × List UInt8)) (w : World) (hn : l.length ≤ 1000) (hc : l.length ≤ c) (hcm : c ≤ 9223372036854775807) (hs : SlAt w A (cellsL l)) (hbig : ∀ x ∈ l, x.1.length ≤ 9223372036854775807 ∧ x.2.length ≤ 9223372036854775807) :
    Calls Try.prog 17 #[.slice A l.length c] w fun e w' => e = .returned (.int .i64 (chkA borB pairR l)) ∧ Below w.heap.size w w' := by
  have K := Lib.hid (checkL_any borB pairR 45 37 A c l w hn hc hcm hs hbig (fun _ _ => by kernel_rfl) (fun _ _ => by kernel_rfl) (fun x w h => borB_any x w h.1 h.2) pairsRise_any)
  clear hs hbig
  go_enter Try.func17, Try.ntmps17
  go_wp2_with fail
  refine K.out.mono ?_
  rintro e w1 ⟨rfl, hb⟩
  have HB := Lib.hid hb
  clear hb
  go_wp2
  go_ret
  exact ⟨rfl, HB.out⟩
set_option maxHeartbeats 400000 in
theorem checkTerms_any (A : Option Addr) (c : Nat) (l : List (Int × List UInt8 × List UInt8)) (w : World) (hn : l.length ≤ 1000) (hc : l.length ≤ c) (hcm : c ≤ 9223372036854775807) (hs : SlAt w A (cellsT l)) (hbig : ∀ x ∈ l, x.2.1.length ≤ 9223372036854775807 ∧ x.2.2.length ≤ 9223372036854775807) :
    Calls Try.prog 20 #[.slice A l.length c] w fun e w' => e = .returned (.int .i64 (chkA terB anyR l)) ∧ Below w.heap.size w w' := by
  have K := Lib.hid (checkT_any terB anyR 51 41 A c l w hn hc hcm hs hbig (fun _ _ => by kernel_rfl) (fun _ _ => by kernel_rfl) (fun x w h => terB_any x w h.1 h.2) anyOrder_any)
  clear hs hbig
  go_enter Try.func20, Try.ntmps20
  go_wp2_with fail
  refine K.out.mono ?_
  rintro e w1 ⟨rfl, hb⟩
  have HB := Lib.hid hb
  clear hb
  go_wp2
  go_ret
  exact ⟨rfl, HB.out⟩

end Go.Proofs.Yteclbkjonaildaa
