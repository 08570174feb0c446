/- The chapter's words come out as the chapter says: the examples that every law asks. No conditions. -/
import Derived.Test.YtdiighpmgfbmaaaDoorSMem
namespace Go.Proofs.YtdiighpmgfbmaaaDoor
open Go.RowKit

set_option maxHeartbeats 400000 in
theorem wrong_yes (l : List UInt8) (a b : Nat) (e0 : Int) (w : World) (hl : l.length ≤ 1000) (h : wordsF l = ([], a, b, e0)) :
    Calls Tryd.prog 23 #[strV l, .int .i64 (a : Int), .int .i64 (b : Int), .int .i64 e0] w fun e w' => e = .returned (.bool true) ∧ Below w.heap.size w w' := by
  have K := Lib.hid (words_any l w (by omega))
  rw [h] at K
  clear h
  have b1 : ((a : Int) == (a : Int)) = true := by simp
  have b3 : ((b : Int) == (b : Int)) = true := by simp
  have b2 : (e0 == e0) = true := by simp
  go_enter Tryd.func23, Tryd.ntmps23
  go_wp2_with fail
  refine K.out.mono ?_
  rintro e w1 ⟨v, rfl, ho, hb⟩
  obtain ⟨A, c, rfl, _⟩ := own_sliceS ho
  have HB := Lib.hid hb
  clear hb ho K
  go_wp2
  go_ret
  exact ⟨rfl, HB.out⟩

def worsW : List W4 := [(1, [112, 111, 100], 1, 1), (1, [97], 1, 5), (4, [123], 1, 7), (1, [99, 112, 117], 1, 9), (2, [49, 46, 53, 107], 1, 13), (4, [125], 1, 18)]
def wantW : Array Value := (cellsW worsW).toArray
theorem words_W : wordsF [112, 111, 100, 32, 97, 32, 123, 32, 99, 112, 117, 32, 49, 46, 53, 107, 32, 125, 32, 35, 32, 120] = (worsW, 0, 0, 0) := by decide +kernel
theorem words_W2 : wordsF [10, 32, 32, 34, 195, 169, 92, 34, 98, 34] = ([(3, [195, 169, 34, 98], 2, 3)], 0, 0, 0) := by decide +kernel
theorem wrong_1 (w : World) : Calls Tryd.prog 23 #[.string ⟨#[65]⟩, .int .i64 1, .int .i64 1, .int .i64 4] w fun e w' => e = .returned (.bool true) ∧ Below w.heap.size w w' :=
  wrong_yes [65] 1 1 4 w (by decide) (by decide +kernel)
theorem wrong_2 (w : World) : Calls Tryd.prog 23 #[.string ⟨#[34, 97]⟩, .int .i64 1, .int .i64 3, .int .i64 3] w fun e w' => e = .returned (.bool true) ∧ Below w.heap.size w w' :=
  wrong_yes [34, 97] 1 3 3 w (by decide) (by decide +kernel)
theorem wrong_3 (w : World) : Calls Tryd.prog 23 #[.string ⟨#[97, 61, 98]⟩, .int .i64 1, .int .i64 2, .int .i64 4] w fun e w' => e = .returned (.bool true) ∧ Below w.heap.size w w' :=
  wrong_yes [97, 61, 98] 1 2 4 w (by decide) (by decide +kernel)
theorem wrong_4 (w : World) : Calls Tryd.prog 23 #[.string ⟨#[49, 34, 120, 34]⟩, .int .i64 1, .int .i64 2, .int .i64 4] w fun e w' => e = .returned (.bool true) ∧ Below w.heap.size w w' :=
  wrong_yes [49, 34, 120, 34] 1 2 4 w (by decide) (by decide +kernel)

set_option maxRecDepth 100000 in
set_option maxHeartbeats 4000000 in
theorem works_any (w : World) : Calls Tryd.prog 12 #[] w fun e w' => e = .returned (.bool true) ∧ Below w.heap.size w w' := by
  have K1 := Lib.hid (words_any [112, 111, 100, 32, 97, 32, 123, 32, 99, 112, 117, 32, 49, 46, 53, 107, 32, 125, 32, 35, 32, 120] w (by decide))
  rw [words_W] at K1
  go_enter Tryd.func12, Tryd.ntmps12
  go_wp2_with fail
  refine K1.out.mono ?_
  rintro e w1 ⟨v, rfl, ho, hb⟩
  obtain ⟨g, cap, rfl, hg0, hg1, hcap, hcm, _⟩ := own_cells ho (by decide)
  have ST := Lib.hid (own_slat ho)
  have HB := Lib.hid hb
  have Hcap : Hid (6 ≤ cap) := hcap
  have Hg1 := Lib.hid hg1
  clear ho hb hcm hcap K1 hg0 hg1
  have hlen : worsW.length = 6 := rfl
  simp only
  rw [hlen]
  clear hlen
  go_wp2_with fail
  have ST3 := Lib.hid (SlAt.below ST.out (below1 w1 (.cells wantW 38)))
  have SW3 := Lib.hid (slat_new w1 (cellsW worsW) 38)
  have HB3 := Lib.hid (HB.out.alloc HB.out.size (.cells wantW 38))
  clear ST HB
  go_loopw [6] (fun i wr => ∃ k : Nat, k ≤ 6 ∧ i = .int .i64 k ∧ Below (w1.alloc (.cells wantW 38)).heap.size (w1.alloc (.cells wantW 38)) wr) (fun i _ => 6 - (intOf i).toNat)
  case atStart => exact ⟨0, by omega, rfl, Below.refl _ _⟩
  case round =>
    obtain ⟨k, hk, rfl, hb⟩ := hrel
    have ST4 := Lib.hid (ST3.out.below hb)
    have SW4 := Lib.hid (SW3.out.below hb)
    have HB4 := Lib.hid (HB3.out.trans (hb.mono HB3.out.size))
    have Hwr := Lib.hid hb
    clear hb
    by_cases hlt : k < 6
    · obtain ⟨x, hxk⟩ : ∃ x, worsW[k]? = some x := ⟨worsW[k]'hlt, List.getElem?_eq_getElem hlt⟩
      obtain ⟨b0, o0, hA, hb0, hx⟩ := SlAt.wor ST4.out hxk
      obtain ⟨b1, o1, hA1, hb1, hy⟩ := SlAt.wor SW4.out hxk
      simp only [Option.some.injEq, Addr.mk.injEq] at hA hA1
      obtain ⟨rfl, rfl, _⟩ := hA
      obtain ⟨rfl, rfl, _⟩ := hA1
      simp only [Nat.zero_add] at hx hy
      obtain ⟨hx0, hx1, hx2, hx3⟩ := hx
      obtain ⟨hy0, hy1, hy2, hy3⟩ := hy
      have hq := fun w => eq_wor x w
      have hgd := wor_guard
      have k0 : (0 : Int) ≤ (k : Int) := by omega
      have k1 : (k : Int) < 6 := by omega
      clear hxk
      go_wp2
      go_quiet (fail)
      go_wp2
      go_roundw
      case rel => exact ⟨k + 1, by omega, by go_num, belowN Hwr.out _⟩
      case measure => simp [intOf]; omega
    · obtain rfl : k = 6 := by omega
      have KB := Lib.hid (words_any [10, 32, 32, 34, 195, 169, 92, 34, 98, 34] wr (by decide))
      rw [words_W2] at KB
      go_wp2_with fail
      refine KB.out.mono ?_
      rintro e w5 ⟨v, rfl, ho, hb⟩
      have ho1 : w5.ownsRow wr.heap.size 38 4 v 1 (cellsW [(3, [195, 169, 34, 98], 2, 3)]) := ho
      obtain ⟨gb, cb, rfl, _, _, hcb, hcbm, hcl⟩ := own_cells ho1 (by decide)
      have HB5 := Lib.hid (HB4.out.trans (hb.mono HB4.out.size))
      have z0 : w5.cell? ⟨gb, 0, none⟩ = some (.int .i64 3) := hcl 0 _ rfl
      have z1 : w5.cell? ⟨gb, 1, none⟩ = some (strV [195, 169, 34, 98]) := hcl 1 _ rfl
      have z2 : w5.cell? ⟨gb, 2, none⟩ = some (.int .i64 2) := hcl 2 _ rfl
      have z3 : w5.cell? ⟨gb, 3, none⟩ = some (.int .i64 3) := hcl 3 _ rfl
      have hq := fun w => eq_wor (3, [195, 169, 34, 98], 2, 3) w
      have hgd := wor_guard
      simp only
      clear ho ho1 hb hcb hcbm KB ST3 SW3 HB3 ST4 SW4 HB4 Hwr hcl
      go_wp2_with fail
      refine (wrong_1 _).mono ?_
      rintro e w6 ⟨rfl, hb⟩
      have HB6 := Lib.hid (HB5.out.trans (hb.mono HB5.out.size))
      clear hb z0 z1 z2 z3 hq hgd
      go_wp2_with fail
      refine (wrong_2 _).mono ?_
      rintro e w7 ⟨rfl, hb⟩
      have HB7 := Lib.hid (HB6.out.trans (hb.mono HB6.out.size))
      clear hb
      go_wp2_with fail
      refine (wrong_3 _).mono ?_
      rintro e w8 ⟨rfl, hb⟩
      have HB8 := Lib.hid (HB7.out.trans (hb.mono HB7.out.size))
      clear hb
      go_wp2_with fail
      refine (wrong_4 _).mono ?_
      rintro e w9 ⟨rfl, hb⟩
      have HB9 := Lib.hid (HB8.out.trans (hb.mono HB8.out.size))
      clear hb
      go_wp2
      go_ret
      exact ⟨rfl, HB9.out⟩
end Go.Proofs.YtdiighpmgfbmaaaDoor
