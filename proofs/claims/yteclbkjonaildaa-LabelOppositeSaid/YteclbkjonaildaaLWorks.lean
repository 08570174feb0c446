/- The chapter's labels come out as the chapter says: the examples that every law asks. No conditions. -/
import Derived.Test.YteclbkjonaildaaLParse
import Derived.Test.YteclbkjonaildaaLPrintL
import Derived.Test.YteclbkjonaildaaLPrintT
import Derived.Test.YteclbkjonaildaaLHold
import Derived.Test.YteclbkjonaildaaLEq
namespace Go.Proofs.Yteclbkjonaildaa
open Go.RowKit

set_option maxHeartbeats 400000 in
theorem wrong_yes (l : List UInt8) (a : Nat) (e0 : Int) (w : World) (hl : l.length ≤ 1000) (h : readLab l = ([], a, e0)) :
    Calls Try.prog 43 #[strV l, .int .i64 (a : Int), .int .i64 e0] w fun e w' => e = .returned (.bool true) ∧ Below w.heap.size w w' := by
  have K := Lib.hid (labels_any l w (by omega))
  rw [h] at K
  clear h
  have b1 : ((a : Int) == (a : Int)) = true := by simp
  have b2 : (e0 == e0) = true := by simp
  go_enter Try.func43, Try.ntmps43
  go_wp2_with fail
  refine K.out.mono ?_
  rintro e w1 ⟨v, rfl, ho, hb⟩
  obtain ⟨A, c, rfl, _⟩ := own_slice ho
  have HB := Lib.hid hb
  clear hb ho K
  go_wp2
  go_ret
  exact ⟨rfl, HB.out⟩

def textW : List UInt8 := [97, 61, 98, 44, 99, 33, 61, 100, 44, 101, 44, 33, 102]
def tersW : List (Int × List UInt8 × List UInt8) := [(1, [97], [98]), (2, [99], [100]), (3, [101], []), (4, [102], [])]
def want : Array Value := (cellsT tersW).toArray
theorem read_tersW : readTer [97, 61, 98, 44, 99, 33, 61, 100, 44, 101, 44, 33, 102] = (tersW, 0, 0) := by decide +kernel
theorem print_tersW : printA terP tersW = [97, 61, 98, 44, 99, 33, 61, 100, 44, 101, 44, 33, 102] := by decide +kernel
theorem read_borW : readBor [107, 61, 42] = ([([107], [42])], 0, 0) := by decide +kernel
theorem hold_W : holdsL tersW [([97], [98]), ([101], [120])] = true := by decide +kernel
theorem bear_W1 : bearsL [([107], [42])] [([107], [118])] = true := by decide +kernel
theorem bear_W2 : bearsL [([107], [119])] [([107], [118])] = false := by decide +kernel
theorem wrong_1 (w : World) : Calls Try.prog 43 #[.string ⟨#[97, 61]⟩, .int .i64 2, .int .i64 3] w fun e w' => e = .returned (.bool true) ∧ Below w.heap.size w w' :=
  wrong_yes [97, 61] 2 3 w (by decide) (by decide +kernel)
theorem wrong_2 (w : World) : Calls Try.prog 43 #[.string ⟨#[98, 61, 49, 44, 97, 61, 50]⟩, .int .i64 4, .int .i64 4] w fun e w' => e = .returned (.bool true) ∧ Below w.heap.size w w' :=
  wrong_yes [98, 61, 49, 44, 97, 61, 50] 4 4 w (by decide) (by decide +kernel)
theorem wrong_3 (w : World) : Calls Try.prog 43 #[.string ⟨#[65, 61, 49]⟩, .int .i64 0, .int .i64 4] w fun e w' => e = .returned (.bool true) ∧ Below w.heap.size w w' :=
  wrong_yes [65, 61, 49] 0 4 w (by decide) (by decide +kernel)
theorem wrong_4 (w : World) : Calls Try.prog 43 #[.string ⟨#[97, 61, 49, 44]⟩, .int .i64 4, .int .i64 3] w fun e w' => e = .returned (.bool true) ∧ Below w.heap.size w w' :=
  wrong_yes [97, 61, 49, 44] 4 3 w (by decide) (by decide +kernel)

/-- A new row of cells holds them. -/
theorem slat_new (w : World) (cs : List Value) (t : TypeId) : SlAt (w.alloc (.cells cs.toArray t)) (some ⟨w.heap.size, 0, none⟩) cs := by
  intro j y hj
  refine ⟨_, 0, rfl, ?_⟩
  rw [Nat.zero_add, Blk.cell (Blk.new w cs.toArray t) j]
  simpa using hj

set_option maxRecDepth 100000 in
set_option maxHeartbeats 4000000 in
theorem works_any (w : World) : Calls Try.prog 16 #[] w fun e w' => e = .returned (.bool true) ∧ Below w.heap.size w w' := by
  have K1 := Lib.hid (terms_any [97, 61, 98, 44, 99, 33, 61, 100, 44, 101, 44, 33, 102] w (by decide))
  rw [read_tersW] at K1
  go_enter Try.func16, Try.ntmps16
  go_wp2_with fail
  refine K1.out.mono ?_
  rintro e w1 ⟨v, rfl, ho, hb⟩
  obtain ⟨g, cap, rfl, hg0, hg1, hcap, hcm, _⟩ := own_cells ho (by decide)
  have ST := Lib.hid (own_slat ho)
  have HB := Lib.hid hb
  have Hcm := Lib.hid hcm
  have Hcap : Hid (4 ≤ cap) := hcap
  have Hg0 := Lib.hid hg0
  have Hg1 := Lib.hid hg1
  clear ho hb hcm hcap K1 hg0 hg1
  have hlen : tersW.length = 4 := rfl
  rw [hlen]
  clear hlen
  go_wp2_with fail
  have ST2 := Lib.hid (SlAt.below ST.out (below1 w1 (.cells want 43)))
  have SW2 := Lib.hid (slat_new w1 (cellsT tersW) 43)
  have HB2 := Lib.hid (HB.out.alloc HB.out.size (.cells want 43))
  refine (printTerms_any (some ⟨g, 0, none⟩) cap tersW _ (by decide) Hcap.out (Nat.le_trans Hcm.out (by decide)) (by decide) ST2.out).mono ?_
  rw [print_tersW]
  rintro e w2 ⟨rfl, hb⟩
  have ST3 := Lib.hid (ST2.out.below hb)
  have SW3 := Lib.hid (SlAt.below SW2.out hb)
  have HB3 := Lib.hid (HB2.out.trans (hb.mono HB2.out.size))
  clear hb ST2 SW2 HB2 ST HB
  go_wp2
  go_loopw [5] (fun i wr => ∃ k : Nat, k ≤ 4 ∧ i = .int .i64 k ∧ Below w2.heap.size w2 wr) (fun i _ => 4 - (intOf i).toNat)
  case atStart => exact ⟨0, by omega, rfl, Below.refl _ _⟩
  case round =>
    obtain ⟨k, hk, rfl, hb⟩ := hrel
    have ST4 := Lib.hid (ST3.out.below hb)
    have SW4 := Lib.hid (SW3.out.below hb)
    have HB4 := Lib.hid (HB3.out.trans (hb.mono HB3.out.size))
    have Hwr := Lib.hid hb
    clear hb
    by_cases hlt : k < 4
    · obtain ⟨x, hxk⟩ : ∃ x, tersW[k]? = some x := ⟨tersW[k]'hlt, List.getElem?_eq_getElem hlt⟩
      obtain ⟨b0, o0, hA, hb0, hx⟩ := SlAt.ter ST4.out hxk
      obtain ⟨b1, o1, hA1, hb1, hy⟩ := SlAt.ter SW4.out hxk
      simp only [Option.some.injEq, Addr.mk.injEq] at hA hA1
      obtain ⟨rfl, rfl, _⟩ := hA
      obtain ⟨rfl, rfl, _⟩ := hA1
      simp only [Nat.zero_add] at hx hy
      have hx0 : wr.cell? ⟨g, k * 3, none⟩ = some (.int .i64 x.1) := hx.1
      have hx1 : wr.cell? ⟨g, k * 3 + 1, none⟩ = some (strV x.2.1) := hx.2.1
      have hx2 : wr.cell? ⟨g, k * 3 + 2, none⟩ = some (strV x.2.2) := hx.2.2
      have hy0 : wr.cell? ⟨w1.heap.size, k * 3, none⟩ = some (.int .i64 x.1) := hy.1
      have hy1 : wr.cell? ⟨w1.heap.size, k * 3 + 1, none⟩ = some (strV x.2.1) := hy.2.1
      have hy2 : wr.cell? ⟨w1.heap.size, k * 3 + 2, none⟩ = some (strV x.2.2) := hy.2.2
      have hq := fun w => eq_ter x w
      have hgd := ter_guard
      have k0 : (0 : Int) ≤ (k : Int) := by omega
      have k1 : (k : Int) < 4 := by omega
      clear hx hy hxk
      go_wp2
      go_quiet (fail)
      go_wp2
      go_roundw
      case rel => exact ⟨k + 1, by omega, by go_num, belowN Hwr.out _⟩
      case measure => simp [intOf]; omega
    · obtain rfl : k = 4 := by omega
      have KB := Lib.hid (borne_any [107, 61, 42] wr (by decide))
      rw [read_borW] at KB
      go_wp2_with fail
      refine KB.out.mono ?_
      rintro e w5 ⟨v, rfl, ho, hb⟩
      have ho1 : w5.ownsRow wr.heap.size 41 2 v 1 (cellsL [([107], [42])]) := ho
      obtain ⟨gb, cb, rfl, _, _, hcb, hcbm, _⟩ := own_cells ho1 (by decide)
      have SB5 := Lib.hid (own_slat ho1)
      have ST5 := Lib.hid (ST4.out.below hb)
      have HB5 := Lib.hid (HB4.out.trans (hb.mono HB4.out.size))
      have Hcb : Hid (1 ≤ cb) := hcb
      have Hcbm := Lib.hid hcbm
      clear ho ho1 hb hcb hcbm KB ST3 SW3 HB3 ST4 SW4 HB4 Hwr
      go_wp2_with fail
      have ST6 := Lib.hid (SlAt.below ST5.out (below1 w5 (.cells (cellsL [([97], [98]), ([101], [120])]).toArray 41)))
      have SB6 := Lib.hid (SlAt.below SB5.out (below1 w5 (.cells (cellsL [([97], [98]), ([101], [120])]).toArray 41)))
      have SL6 := Lib.hid (slat_new w5 (cellsL [([97], [98]), ([101], [120])]) 41)
      have HB6 := Lib.hid (HB5.out.alloc HB5.out.size (.cells (cellsL [([97], [98]), ([101], [120])]).toArray 41))
      refine (holds_any (some ⟨g, 0, none⟩) (some ⟨w5.heap.size, 0, none⟩) cap 2 tersW [([97], [98]), ([101], [120])] _ (by decide) Hcap.out (by decide) (by decide) ST6.out SL6.out).mono ?_
      rw [hold_W]
      rintro e w6 ⟨rfl, hb⟩
      have SB7 := Lib.hid (SlAt.below SB6.out hb)
      have HB7 := Lib.hid (HB6.out.trans (hb.mono HB6.out.size))
      clear hb ST5 SB5 ST6 SB6 SL6 HB5 HB6
      go_wp2_with fail
      refine (wrong_1 _).mono ?_
      rintro e w7 ⟨rfl, hb⟩
      have SB8 := Lib.hid (SlAt.below SB7.out hb)
      have HB8 := Lib.hid (HB7.out.trans (hb.mono HB7.out.size))
      clear hb SB7 HB7
      go_wp2_with fail
      refine (wrong_2 _).mono ?_
      rintro e w8 ⟨rfl, hb⟩
      have SB9 := Lib.hid (SlAt.below SB8.out hb)
      have HB9 := Lib.hid (HB8.out.trans (hb.mono HB8.out.size))
      clear hb SB8 HB8
      go_wp2_with fail
      refine (wrong_3 _).mono ?_
      rintro e w9 ⟨rfl, hb⟩
      have SBa := Lib.hid (SlAt.below SB9.out hb)
      have HBa := Lib.hid (HB9.out.trans (hb.mono HB9.out.size))
      clear hb SB9 HB9
      go_wp2_with fail
      refine (wrong_4 _).mono ?_
      rintro e wa ⟨rfl, hb⟩
      have SBb := Lib.hid (SlAt.below SBa.out hb)
      have HBb := Lib.hid (HBa.out.trans (hb.mono HBa.out.size))
      clear hb SBa HBa
      go_wp2_with fail
      have SBc := Lib.hid (SlAt.below SBb.out (below1 wa (.cells (cellsL [([107], [118])]).toArray 41)))
      have SLc := Lib.hid (slat_new wa (cellsL [([107], [118])]) 41)
      have HBc := Lib.hid (HBb.out.alloc HBb.out.size (.cells (cellsL [([107], [118])]).toArray 41))
      refine (bears_any (some ⟨gb, 0, none⟩) (some ⟨wa.heap.size, 0, none⟩) cb 1 [([107], [42])] [([107], [118])] _ (by decide) Hcb.out (by decide) (by decide) SBc.out SLc.out).mono ?_
      rw [bear_W1]
      rintro e wb ⟨rfl, hb⟩
      have SLd := Lib.hid (SlAt.below SLc.out hb)
      have HBd := Lib.hid (HBc.out.trans (hb.mono HBc.out.size))
      clear hb SBb SBc SLc HBb HBc
      go_wp2_with fail
      have SLe := Lib.hid (SlAt.below SLd.out (below1 wb (.cells (cellsL [([107], [119])]).toArray 41)))
      have SNe := Lib.hid (slat_new wb (cellsL [([107], [119])]) 41)
      have HBe := Lib.hid (HBd.out.alloc HBd.out.size (.cells (cellsL [([107], [119])]).toArray 41))
      refine (bears_any (some ⟨wb.heap.size, 0, none⟩) (some ⟨wa.heap.size, 0, none⟩) 1 1 [([107], [119])] [([107], [118])] _ (by decide) (by decide) (by decide) (by decide) SNe.out SLe.out).mono ?_
      rw [bear_W2]
      rintro e wc ⟨rfl, hb⟩
      have HBf := Lib.hid (HBe.out.trans (hb.mono HBe.out.size))
      clear hb SLd SLe SNe HBd HBe
      go_wp2
      go_ret
      exact ⟨rfl, HBf.out⟩

end Go.Proofs.Yteclbkjonaildaa
