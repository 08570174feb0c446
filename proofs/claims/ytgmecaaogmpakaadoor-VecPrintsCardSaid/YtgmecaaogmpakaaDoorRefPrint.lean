/- What the document's Print and PrintPercent answer, of every number: as the program's do. Condition: the library's table of powers of ten lies as it was laid. -/
import Derived.Test.YtgmecaaogmpakaaDoorPrint
import Derived.LoopN
import Derived.RegionTactic
import Derived.Deep.RegionHeld3
namespace Go.Proofs.YtgmecaaogmpakaaDoor
open Go.RowKit

theorem Tab.drew {w : World} (h : Tab w) : Tab w.drew := h

set_option maxRecDepth 100000 in
set_option maxHeartbeats 1000000 in
theorem rprint_gi (n q : Int) (w : World) (h0 : 0 < n) (h1 : n ≤ 1099511627776) (hg : n % 1073741824 = 0) (hq : n / 1073741824 = q) (ht : Tab w) :
    Calls Tryd.prog 47 #[.int .i64 n, .bool false] w fun e w' => e = .returned (.tuple #[.string ⟨(dec q ++ [71, 105]).toArray⟩, .int .i64 0]) ∧ Below w.heap.size w w' := by
  have Ht := Lib.hid ht
  clear ht
  have hgb : (n % 1073741824 == 0) = true := by simpa using hg
  have HG := Lib.hid hg
  clear hg
  have i0 : ¬ n < 0 := by omega
  have i1 : ¬ 1099511627776 < n := by omega
  have hq0 : 0 ≤ q := by omega
  have hq1 : q ≤ 1099511627776 := by omega
  have Hw : Hid (IntKind.i64.wrap (n.tdiv 1073741824) = q) := by
    show IntKind.i64.wrap (n.tdiv 1073741824) = q
    rw [Int.tdiv_eq_ediv_of_nonneg (by omega), hq, IntWalk.i64_in _ (by omega)]
  have Hj : Hid (∀ W, (Op.stringOp .add ⟨(dec q).toArray⟩ ⟨#[71, 105]⟩).run Tryd.prog W = .ok (.string ⟨(dec q ++ [71, 105]).toArray⟩) W) :=
    fun W => join_l Tryd.prog W (dec q) [71, 105] (Nat.le_trans (dec_len q (by omega) (by omega)) (by decide)) (by decide)
  clear hq
  go_enter Tryd.func47, Tryd.ntmps47
  go_wp2
  refine wp_loop_rounds 4 ?_
  rw [rounds_succ]
  go_wp2
  obtain ⟨W1, hW1⟩ : ∃ W1, W1 = w.alloc (.cells #[.string ⟨#[71, 105]⟩, .string ⟨#[77, 105]⟩, .string ⟨#[75, 105]⟩] 9) := ⟨_, rfl⟩
  have hc : W1.cell? ⟨w.heap.size, 0, none⟩ = some (.string ⟨#[71, 105]⟩) := by rw [hW1]; simp [go_sem]
  have ht1 : Tab W1.drew := by rw [hW1]; exact (Ht.out.alloc _)
  have hb1 : Below w.heap.size w W1.drew := by rw [hW1]; exact ((Below.refl _ w).alloc (Nat.le_refl _) (.cells #[.string ⟨#[71, 105]⟩, .string ⟨#[77, 105]⟩, .string ⟨#[75, 105]⟩] 9)).drew
  have hsz : w.heap.size < W1.drew.heap.size := by rw [hW1]; show _ < (w.heap.push _).size; simp
  have hcd : W1.drew.cell? ⟨w.heap.size, 0, none⟩ = some (.string ⟨#[71, 105]⟩) := hc
  have HT1 := Lib.hid ht1
  have HB1 := Lib.hid hb1
  rw [← hW1]
  clear hW1 Ht ht1 hb1
  have hwr := Hw.out
  have hj := Hj.out
  go_region_held3 (fun w' => w'.cell? ⟨w.heap.size, 0, none⟩ = some (.string ⟨#[71, 105]⟩)) (first | exact hcd | exact hc2)
    (first | (go_at_call 55; refine (itoa_dec q _ (by omega) (by omega) HT1.out).mono ?_; rintro e w2 ⟨rfl, hb2⟩; have hc2 := (hb2.cell (p := ⟨w.heap.size, 0, none⟩) hsz).trans hcd; have HB2 := Lib.hid hb2; clear hb2))
  clear hwr hj
  go_wp2
  go_ret2
  exact ⟨rfl, HB1.out.trans (HB2.out.mono HB1.out.size)⟩

set_option maxRecDepth 100000 in
set_option maxHeartbeats 1000000 in
theorem rprint_mi (n q : Int) (w : World) (h0 : 0 < n) (h1 : n ≤ 1099511627776) (hg : n % 1073741824 ≠ 0) (hm : n % 1048576 = 0) (hq : n / 1048576 = q) (ht : Tab w) :
    Calls Tryd.prog 47 #[.int .i64 n, .bool false] w fun e w' => e = .returned (.tuple #[.string ⟨(dec q ++ [77, 105]).toArray⟩, .int .i64 0]) ∧ Below w.heap.size w w' := by
  have Ht := Lib.hid ht
  clear ht
  have hgb : (n % 1073741824 == 0) = false := by simpa using hg
  have HG := Lib.hid hg
  clear hg
  have hmb : (n % 1048576 == 0) = true := by simpa using hm
  have HM := Lib.hid hm
  clear hm
  have i0 : ¬ n < 0 := by omega
  have i1 : ¬ 1099511627776 < n := by omega
  have hq0 : 0 ≤ q := by omega
  have hq1 : q ≤ 1099511627776 := by omega
  have Hw : Hid (IntKind.i64.wrap (n.tdiv 1048576) = q) := by
    show IntKind.i64.wrap (n.tdiv 1048576) = q
    rw [Int.tdiv_eq_ediv_of_nonneg (by omega), hq, IntWalk.i64_in _ (by omega)]
  have Hj : Hid (∀ W, (Op.stringOp .add ⟨(dec q).toArray⟩ ⟨#[77, 105]⟩).run Tryd.prog W = .ok (.string ⟨(dec q ++ [77, 105]).toArray⟩) W) :=
    fun W => join_l Tryd.prog W (dec q) [77, 105] (Nat.le_trans (dec_len q (by omega) (by omega)) (by decide)) (by decide)
  clear hq
  go_enter Tryd.func47, Tryd.ntmps47
  go_wp2
  refine wp_loop_rounds 4 ?_
  rw [rounds_succ]
  go_wp2
  rw [rounds_succ]
  go_wp2
  obtain ⟨W1, hW1⟩ : ∃ W1, W1 = w.alloc (.cells #[.string ⟨#[71, 105]⟩, .string ⟨#[77, 105]⟩, .string ⟨#[75, 105]⟩] 9) := ⟨_, rfl⟩
  have hc : W1.cell? ⟨w.heap.size, 1, none⟩ = some (.string ⟨#[77, 105]⟩) := by rw [hW1]; simp [go_sem]
  have ht1 : Tab W1.drew := by rw [hW1]; exact (Ht.out.alloc _)
  have hb1 : Below w.heap.size w W1.drew := by rw [hW1]; exact ((Below.refl _ w).alloc (Nat.le_refl _) (.cells #[.string ⟨#[71, 105]⟩, .string ⟨#[77, 105]⟩, .string ⟨#[75, 105]⟩] 9)).drew
  have hsz : w.heap.size < W1.drew.heap.size := by rw [hW1]; show _ < (w.heap.push _).size; simp
  have hcd : W1.drew.cell? ⟨w.heap.size, 1, none⟩ = some (.string ⟨#[77, 105]⟩) := hc
  have HT1 := Lib.hid ht1
  have HB1 := Lib.hid hb1
  rw [← hW1]
  clear hW1 Ht ht1 hb1
  have hwr := Hw.out
  have hj := Hj.out
  go_region_held3 (fun w' => w'.cell? ⟨w.heap.size, 1, none⟩ = some (.string ⟨#[77, 105]⟩)) (first | exact hcd | exact hc2)
    (first | (go_at_call 55; refine (itoa_dec q _ (by omega) (by omega) HT1.out).mono ?_; rintro e w2 ⟨rfl, hb2⟩; have hc2 := (hb2.cell (p := ⟨w.heap.size, 1, none⟩) hsz).trans hcd; have HB2 := Lib.hid hb2; clear hb2))
  clear hwr hj
  go_wp2
  go_ret2
  exact ⟨rfl, HB1.out.trans (HB2.out.mono HB1.out.size)⟩

set_option maxRecDepth 100000 in
set_option maxHeartbeats 1000000 in
theorem rprint_ki (n q : Int) (w : World) (h0 : 0 < n) (h1 : n ≤ 1099511627776) (hg : n % 1073741824 ≠ 0) (hm : n % 1048576 ≠ 0) (hk : n % 1024 = 0) (hq : n / 1024 = q) (ht : Tab w) :
    Calls Tryd.prog 47 #[.int .i64 n, .bool false] w fun e w' => e = .returned (.tuple #[.string ⟨(dec q ++ [75, 105]).toArray⟩, .int .i64 0]) ∧ Below w.heap.size w w' := by
  have Ht := Lib.hid ht
  clear ht
  have hgb : (n % 1073741824 == 0) = false := by simpa using hg
  have HG := Lib.hid hg
  clear hg
  have hmb : (n % 1048576 == 0) = false := by simpa using hm
  have HM := Lib.hid hm
  clear hm
  have hkb : (n % 1024 == 0) = true := by simpa using hk
  have HK := Lib.hid hk
  clear hk
  have i0 : ¬ n < 0 := by omega
  have i1 : ¬ 1099511627776 < n := by omega
  have hq0 : 0 ≤ q := by omega
  have hq1 : q ≤ 1099511627776 := by omega
  have Hw : Hid (IntKind.i64.wrap (n.tdiv 1024) = q) := by
    show IntKind.i64.wrap (n.tdiv 1024) = q
    rw [Int.tdiv_eq_ediv_of_nonneg (by omega), hq, IntWalk.i64_in _ (by omega)]
  have Hj : Hid (∀ W, (Op.stringOp .add ⟨(dec q).toArray⟩ ⟨#[75, 105]⟩).run Tryd.prog W = .ok (.string ⟨(dec q ++ [75, 105]).toArray⟩) W) :=
    fun W => join_l Tryd.prog W (dec q) [75, 105] (Nat.le_trans (dec_len q (by omega) (by omega)) (by decide)) (by decide)
  clear hq
  go_enter Tryd.func47, Tryd.ntmps47
  go_wp2
  refine wp_loop_rounds 4 ?_
  rw [rounds_succ]
  go_wp2
  rw [rounds_succ]
  go_wp2
  rw [rounds_succ]
  go_wp2
  obtain ⟨W1, hW1⟩ : ∃ W1, W1 = w.alloc (.cells #[.string ⟨#[71, 105]⟩, .string ⟨#[77, 105]⟩, .string ⟨#[75, 105]⟩] 9) := ⟨_, rfl⟩
  have hc : W1.cell? ⟨w.heap.size, 2, none⟩ = some (.string ⟨#[75, 105]⟩) := by rw [hW1]; simp [go_sem]
  have ht1 : Tab W1.drew := by rw [hW1]; exact (Ht.out.alloc _)
  have hb1 : Below w.heap.size w W1.drew := by rw [hW1]; exact ((Below.refl _ w).alloc (Nat.le_refl _) (.cells #[.string ⟨#[71, 105]⟩, .string ⟨#[77, 105]⟩, .string ⟨#[75, 105]⟩] 9)).drew
  have hsz : w.heap.size < W1.drew.heap.size := by rw [hW1]; show _ < (w.heap.push _).size; simp
  have hcd : W1.drew.cell? ⟨w.heap.size, 2, none⟩ = some (.string ⟨#[75, 105]⟩) := hc
  have HT1 := Lib.hid ht1
  have HB1 := Lib.hid hb1
  rw [← hW1]
  clear hW1 Ht ht1 hb1
  have hwr := Hw.out
  have hj := Hj.out
  go_region_held3 (fun w' => w'.cell? ⟨w.heap.size, 2, none⟩ = some (.string ⟨#[75, 105]⟩)) (first | exact hcd | exact hc2)
    (first | (go_at_call 55; refine (itoa_dec q _ (by omega) (by omega) HT1.out).mono ?_; rintro e w2 ⟨rfl, hb2⟩; have hc2 := (hb2.cell (p := ⟨w.heap.size, 2, none⟩) hsz).trans hcd; have HB2 := Lib.hid hb2; clear hb2))
  clear hwr hj
  go_wp2
  go_ret2
  exact ⟨rfl, HB1.out.trans (HB2.out.mono HB1.out.size)⟩

set_option maxRecDepth 100000 in
set_option maxHeartbeats 1000000 in
theorem rprint_none (n : Int) (w : World) (h0 : 0 < n) (h1 : n ≤ 1099511627776) (hg : n % 1073741824 ≠ 0) (hm : n % 1048576 ≠ 0) (hk : n % 1024 ≠ 0) (ht : Tab w) :
    Calls Tryd.prog 47 #[.int .i64 n, .bool false] w fun e w' => e = .returned (.tuple #[.string ⟨(dec n).toArray⟩, .int .i64 0]) ∧ Below w.heap.size w w' := by
  have Ht := Lib.hid ht
  clear ht
  have hgb : (n % 1073741824 == 0) = false := by simpa using hg
  have HG := Lib.hid hg
  clear hg
  have hmb : (n % 1048576 == 0) = false := by simpa using hm
  have HM := Lib.hid hm
  clear hm
  have hkb : (n % 1024 == 0) = false := by simpa using hk
  have HK := Lib.hid hk
  clear hk
  have i0 : ¬ n < 0 := by omega
  have i1 : ¬ 1099511627776 < n := by omega
  go_enter Tryd.func47, Tryd.ntmps47
  go_wp2
  refine wp_loop_rounds 4 ?_
  rw [rounds_succ]
  go_wp2
  rw [rounds_succ]
  go_wp2
  rw [rounds_succ]
  go_wp2
  rw [rounds_succ]
  go_wp2_with fail
  refine (itoa_dec n _ (by omega) (by omega) (Ht.out.alloc _)).mono ?_
  rintro e w2 ⟨rfl, hb2⟩
  have HB2 := Lib.hid hb2
  clear hb2
  go_wp2
  go_ret2
  exact ⟨rfl, ((Below.refl _ w).alloc (Nat.le_refl _) _).trans (HB2.out.mono (by simp))⟩

set_option maxRecDepth 100000 in
set_option maxHeartbeats 1000000 in
theorem rprint_zero (n : Int) (w : World) (h0 : 0 ≤ n) (h1 : n ≤ 0) (ht : Tab w) :
    Calls Tryd.prog 47 #[.int .i64 n, .bool false] w fun e w' => e = .returned (.tuple #[.string ⟨(dec n).toArray⟩, .int .i64 0]) ∧ Below w.heap.size w w' := by
  have Ht := Lib.hid ht
  clear ht
  have i0 : ¬ n < 0 := by omega
  have i1 : ¬ 1099511627776 < n := by omega
  have i2 : ¬ 0 < n := by omega
  go_enter Tryd.func47, Tryd.ntmps47
  go_wp2
  refine wp_loop_rounds 4 ?_
  rw [rounds_succ]
  go_wp2
  rw [rounds_succ]
  go_wp2
  rw [rounds_succ]
  go_wp2
  rw [rounds_succ]
  go_wp2_with fail
  refine (itoa_dec n _ (by omega) (by omega) (Ht.out.alloc _)).mono ?_
  rintro e w2 ⟨rfl, hb2⟩
  have HB2 := Lib.hid hb2
  clear hb2
  go_wp2
  go_ret2
  exact ⟨rfl, ((Below.refl _ w).alloc (Nat.le_refl _) _).trans (HB2.out.mono (by simp))⟩

set_option maxRecDepth 100000 in
set_option maxHeartbeats 1000000 in
theorem rprint_any (n : Int) (milli : Bool) (w : World) (ht : Tab w) :
    Calls Tryd.prog 47 #[.int .i64 n, .bool milli] w fun e w' => e = .returned (.tuple #[.string ⟨(printL n milli).1.toArray⟩, .int .i64 (printL n milli).2]) ∧ Below w.heap.size w w' := by
  have Ht := Lib.hid ht
  clear ht
  by_cases h0 : n < 0
  · go_enter Tryd.func47, Tryd.ntmps47
    go_wp2
    go_ret2
    exact ⟨retSI (a := []) (by unfold printL; rw [if_pos (Or.inl h0)]), Below.refl _ _⟩
  · by_cases h1 : 1099511627776 < n
    · go_enter Tryd.func47, Tryd.ntmps47
      go_wp2
      go_ret2
      exact ⟨retSI (a := []) (by unfold printL; rw [if_pos (Or.inr h1)]), Below.refl _ _⟩
    · cases milli
      · have e : printL n false = (wholeL n, 0) := by unfold printL; rw [if_neg (by omega)]; rfl
        rw [e]
        unfold wholeL
        by_cases z : n = 0
        · rw [if_pos z]
          have k := rprint_zero n w (by omega) (by omega) Ht.out
          rw [show dec n = [48] by rw [z]; simp [dec, Lib.decDigits]] at k
          exact k
        · rw [if_neg z]
          by_cases g : n % 1073741824 = 0
          · rw [if_pos g]
            exact rprint_gi n _ w (by omega) (by omega) g rfl Ht.out
          · rw [if_neg g]
            by_cases m : n % 1048576 = 0
            · rw [if_pos m]
              exact rprint_mi n _ w (by omega) (by omega) g m rfl Ht.out
            · rw [if_neg m]
              by_cases k : n % 1024 = 0
              · rw [if_pos k]
                exact rprint_ki n _ w (by omega) (by omega) g m k rfl Ht.out
              · rw [if_neg k]
                exact rprint_none n w (by omega) (by omega) g m k Ht.out
      · by_cases hz : n % 1000 = 0
        · have hzb : (n % 1000 == 0) = true := by simpa using hz
          have Hz := Lib.hid hz
          clear hz
          go_enter Tryd.func47, Tryd.ntmps47
          go_wp2_with fail
          refine (itoa_dec _ _ (by omega) (by omega) Ht.out).mono ?_
          rintro e w' ⟨rfl, hb⟩
          have Hb := Lib.hid hb
          clear hb
          go_wp2
          go_ret2
          exact ⟨retSI (by unfold printL milliL; rw [if_neg (by omega), if_pos Hz.out]; rfl), Hb.out⟩
        · have hzb : (n % 1000 == 0) = false := by simpa using hz
          have Hz := Lib.hid hz
          clear hz
          go_enter Tryd.func47, Tryd.ntmps47
          go_wp2_with fail
          refine (itoa_dec _ _ (by omega) (by omega) Ht.out).mono ?_
          rintro e w' ⟨rfl, hb⟩
          have Hb := Lib.hid hb
          clear hb
          have hj := join_l Tryd.prog w' (dec n) [109] (Nat.le_trans (dec_len n (by omega) (by omega)) (by decide)) (by decide)
          go_wp2
          go_ret2
          exact ⟨retSI (by unfold printL milliL; rw [if_neg (by omega), if_neg Hz.out]; rfl), Hb.out⟩

end Go.Proofs.YtgmecaaogmpakaaDoor
