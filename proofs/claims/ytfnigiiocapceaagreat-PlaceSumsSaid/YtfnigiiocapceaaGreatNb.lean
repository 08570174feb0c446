/- What Check, CheckBears and CheckTerms answer. Condition: the lists lie in memory. What Check, CheckBears and CheckTerms answer, of lists of any length. Condition: the lists lie in memory. -/
import Derived.Test.YtfnigiiocapceaaGreatLCheckL
import Derived.Test.YtfnigiiocapceaaGreatLCheckT

namespace Go.Proofs.YtfnigiiocapceaaGreat.La
open Go.RowKit

set_option maxHeartbeats 400000 in
theorem check_any (A : Option Addr) (c : Nat) (l : List (List UInt8 × List UInt8)) (w : World) (hn : l.length ≤ 1000) (hc : l.length ≤ c) (hcm : c ≤ 9223372036854775807) (hs : SlAt w A (cellsL l)) (hbig : ∀ x ∈ l, x.1.length ≤ 9223372036854775807 ∧ x.2.length ≤ 9223372036854775807) :
    Calls Tryz.prog 102 #[.slice A l.length c] w fun e w' => e = .returned (.int .i64 (chkA labB keyR l)) ∧ Below w.heap.size w w' := by
  have K := Lib.hid (checkL_any labB keyR 134 136 A c l w hn hc hcm hs hbig (fun _ _ => by kernel_rfl) (fun _ _ => by kernel_rfl) (fun x w h => labB_any x w h.1 h.2) keysRise_any)
  clear hs hbig
  go_enter Tryz.func102, Tryz.ntmps102
  go_wp2_with fail
  refine K.out.mono ?_
  rintro e w1 ⟨rfl, hb⟩
  have HB := Lib.hid hb
  clear hb
  go_wp2
  go_ret
  exact ⟨rfl, HB.out⟩
set_option maxHeartbeats 400000 in
theorem checkBears_any (A : Option Addr) (c : Nat) (l : List (List UInt8 × List UInt8)) (w : World) (hn : l.length ≤ 1000) (hc : l.length ≤ c) (hcm : c ≤ 9223372036854775807) (hs : SlAt w A (cellsL l)) (hbig : ∀ x ∈ l, x.1.length ≤ 9223372036854775807 ∧ x.2.length ≤ 9223372036854775807) :
    Calls Tryz.prog 104 #[.slice A l.length c] w fun e w' => e = .returned (.int .i64 (chkA borB pairR l)) ∧ Below w.heap.size w w' := by
  have K := Lib.hid (checkL_any borB pairR 140 141 A c l w hn hc hcm hs hbig (fun _ _ => by kernel_rfl) (fun _ _ => by kernel_rfl) (fun x w h => borB_any x w h.1 h.2) pairsRise_any)
  clear hs hbig
  go_enter Tryz.func104, Tryz.ntmps104
  go_wp2_with fail
  refine K.out.mono ?_
  rintro e w1 ⟨rfl, hb⟩
  have HB := Lib.hid hb
  clear hb
  go_wp2
  go_ret
  exact ⟨rfl, HB.out⟩
set_option maxHeartbeats 400000 in
theorem checkTerms_any (A : Option Addr) (c : Nat) (l : List (Int × List UInt8 × List UInt8)) (w : World) (hn : l.length ≤ 1000) (hc : l.length ≤ c) (hcm : c ≤ 9223372036854775807) (hs : SlAt w A (cellsT l)) (hbig : ∀ x ∈ l, x.2.1.length ≤ 9223372036854775807 ∧ x.2.2.length ≤ 9223372036854775807) :
    Calls Tryz.prog 103 #[.slice A l.length c] w fun e w' => e = .returned (.int .i64 (chkA terB anyR l)) ∧ Below w.heap.size w w' := by
  have K := Lib.hid (checkT_any terB anyR 138 139 A c l w hn hc hcm hs hbig (fun _ _ => by kernel_rfl) (fun _ _ => by kernel_rfl) (fun x w h => terB_any x w h.1 h.2) anyOrder_any)
  clear hs hbig
  go_enter Tryz.func103, Tryz.ntmps103
  go_wp2_with fail
  refine K.out.mono ?_
  rintro e w1 ⟨rfl, hb⟩
  have HB := Lib.hid hb
  clear hb
  go_wp2
  go_ret
  exact ⟨rfl, HB.out⟩

end Go.Proofs.YtfnigiiocapceaaGreat.La

namespace Go.Proofs.YtfnigiiocapceaaGreat.La
open Go.RowKit

set_option maxRecDepth 100000 in
set_option maxHeartbeats 400000 in
theorem checkL_long (mb : List UInt8 × List UInt8 → Bool) (ri : List UInt8 × List UInt8 → List UInt8 × List UInt8 → Bool) (g r : FuncId) (A : Option Addr) (c : Nat) (l : List (List UInt8 × List UInt8)) (w : World) (h6 : 6 < l.length) :
    Calls Tryz.prog 133 #[.slice A l.length c, .func (Fn.func g) #[] #[], .func (Fn.func r) #[] #[]] w fun e w' => e = .returned (.int .i64 (chkA mb ri l)) ∧ Below w.heap.size w w' := by
  have E : Hid (chkA mb ri l = 2) := by show chkA _ _ _ = _; unfold chkA; rw [if_pos (.inl h6)]
  have h6b : decide (6 < l.length) = true := by simpa using h6
  have h6i : (6 : Int) < (l.length : Int) := by omega
  go_enter Tryz.func133, Tryz.ntmps133
  go_wp2
  go_ret
  exact ⟨retI (by rw [E.out]), Below.refl _ _⟩
set_option maxRecDepth 100000 in
set_option maxHeartbeats 400000 in
theorem checkT_long (mb : Int × List UInt8 × List UInt8 → Bool) (ri : Int × List UInt8 × List UInt8 → Int × List UInt8 × List UInt8 → Bool) (g r : FuncId) (A : Option Addr) (c : Nat) (l : List (Int × List UInt8 × List UInt8)) (w : World) (h6 : 6 < l.length) :
    Calls Tryz.prog 137 #[.slice A l.length c, .func (Fn.func g) #[] #[], .func (Fn.func r) #[] #[]] w fun e w' => e = .returned (.int .i64 (chkA mb ri l)) ∧ Below w.heap.size w w' := by
  have E : Hid (chkA mb ri l = 2) := by show chkA _ _ _ = _; unfold chkA; rw [if_pos (.inl h6)]
  have h6b : decide (6 < l.length) = true := by simpa using h6
  have h6i : (6 : Int) < (l.length : Int) := by omega
  go_enter Tryz.func137, Tryz.ntmps137
  go_wp2
  go_ret
  exact ⟨retI (by rw [E.out]), Below.refl _ _⟩
set_option maxHeartbeats 400000 in
theorem check_anyW (A : Option Addr) (c : Nat) (l : List (List UInt8 × List UInt8)) (w : World) (hc : l.length ≤ c) (hcm : c ≤ 9223372036854775807) (hs : SlAt w A (cellsL l)) (hbig : ∀ x ∈ l, x.1.length ≤ 9223372036854775807 ∧ x.2.length ≤ 9223372036854775807) :
    Calls Tryz.prog 102 #[.slice A l.length c] w fun e w' => e = .returned (.int .i64 (chkA labB keyR l)) ∧ Below w.heap.size w w' := by
  by_cases hn : l.length ≤ 1000
  · exact check_any A c l w hn hc hcm hs hbig
  have K := Lib.hid (checkL_long labB keyR 134 136 A c l w (by omega))
  clear hs hbig
  go_enter Tryz.func102, Tryz.ntmps102
  go_wp2_with fail
  refine K.out.mono ?_
  rintro e w1 ⟨rfl, hb⟩
  have HB := Lib.hid hb
  clear hb
  go_wp2
  go_ret
  exact ⟨rfl, HB.out⟩
set_option maxHeartbeats 400000 in
theorem checkBears_anyW (A : Option Addr) (c : Nat) (l : List (List UInt8 × List UInt8)) (w : World) (hc : l.length ≤ c) (hcm : c ≤ 9223372036854775807) (hs : SlAt w A (cellsL l)) (hbig : ∀ x ∈ l, x.1.length ≤ 9223372036854775807 ∧ x.2.length ≤ 9223372036854775807) :
    Calls Tryz.prog 104 #[.slice A l.length c] w fun e w' => e = .returned (.int .i64 (chkA borB pairR l)) ∧ Below w.heap.size w w' := by
  by_cases hn : l.length ≤ 1000
  · exact checkBears_any A c l w hn hc hcm hs hbig
  have K := Lib.hid (checkL_long borB pairR 140 141 A c l w (by omega))
  clear hs hbig
  go_enter Tryz.func104, Tryz.ntmps104
  go_wp2_with fail
  refine K.out.mono ?_
  rintro e w1 ⟨rfl, hb⟩
  have HB := Lib.hid hb
  clear hb
  go_wp2
  go_ret
  exact ⟨rfl, HB.out⟩
set_option maxHeartbeats 400000 in
theorem checkTerms_anyW (A : Option Addr) (c : Nat) (l : List (Int × List UInt8 × List UInt8)) (w : World) (hc : l.length ≤ c) (hcm : c ≤ 9223372036854775807) (hs : SlAt w A (cellsT l)) (hbig : ∀ x ∈ l, x.2.1.length ≤ 9223372036854775807 ∧ x.2.2.length ≤ 9223372036854775807) :
    Calls Tryz.prog 103 #[.slice A l.length c] w fun e w' => e = .returned (.int .i64 (chkA terB anyR l)) ∧ Below w.heap.size w w' := by
  by_cases hn : l.length ≤ 1000
  · exact checkTerms_any A c l w hn hc hcm hs hbig
  have K := Lib.hid (checkT_long terB anyR 138 139 A c l w (by omega))
  clear hs hbig
  go_enter Tryz.func103, Tryz.ntmps103
  go_wp2_with fail
  refine K.out.mono ?_
  rintro e w1 ⟨rfl, hb⟩
  have HB := Lib.hid hb
  clear hb
  go_wp2
  go_ret
  exact ⟨rfl, HB.out⟩
end Go.Proofs.YtfnigiiocapceaaGreat.La
