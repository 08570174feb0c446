/- The chapter's bytes and texts, one by one: the walk of the closed law. Condition: the tables of UTF-8 lie as they were laid. -/
import Derived.Test.YtdiighpmgfbmaaaDoorLawSWords
import Derived.Test.YtdiighpmgfbmaaaDoorSRepeat
namespace Go.Proofs.YtdiighpmgfbmaaaDoor
open Go.RowKit

/-- The text of one byte. -/
theorem conv_one (x : UInt8) (W : World) : (convert 33 9 (.slice (some ⟨W.heap.size, 0, none⟩) 1 1)).run Tryd.prog (W.alloc (.cells #[.int .u8 (x.toNat : Int)] 5)) = .ok (strV [x]) (W.alloc (.cells #[.int .u8 (x.toNat : Int)] 5)) :=
  run_text (base := 0) ⟨rfl, .inr ⟨W.heap.size, 1, #[.int .u8 (x.toNat : Int)], rfl, Nat.zero_le _, heap_alloc_new W _, Nat.le_refl _, by unfold maxLen; omega, rfl, rfl⟩⟩

/-- A block of texts. -/
def TextsB (w : World) (L : Nat) (xs : List ByteArray) : Prop := Blk w L (xs.map Value.string).toArray 9
theorem TextsB.cell {w : World} {L : Nat} {xs : List ByteArray} (h : TextsB w L xs) {k : Nat} {y : ByteArray} (hk : xs[k]? = some y) : w.cell? ⟨L, k, none⟩ = some (.string y) := by
  rw [Blk.cell h k]
  simp [hk]
theorem TextsB.below {w w' : World} {L C : Nat} {xs : List ByteArray} (h : TextsB w L xs) (hb : Below C w w') (hL : L < C) : TextsB w' L xs := Blk.below h hb hL
def oneL (x : UInt8) : List ByteArray := [⟨#[x]⟩, ⟨#[97]⟩ ++ ⟨#[x]⟩, ⟨#[49]⟩ ++ ⟨#[x]⟩, ⟨#[97]⟩ ++ ⟨#[x]⟩ ++ ⟨#[98]⟩, ⟨#[34]⟩ ++ ⟨#[x]⟩, ⟨#[34]⟩ ++ ⟨#[x]⟩ ++ ⟨#[34]⟩, ⟨#[34, 92]⟩ ++ ⟨#[x]⟩ ++ ⟨#[34]⟩, ⟨#[35]⟩ ++ ⟨#[x]⟩, ⟨#[x]⟩ ++ ⟨#[10]⟩ ++ ⟨#[x]⟩, ⟨#[123]⟩ ++ ⟨#[x]⟩, ⟨#[34, 97, 34]⟩ ++ ⟨#[x]⟩]
theorem one_size (x : UInt8) : ∀ y ∈ oneL x, y.size ≤ 9223372036854775807 := by
  intro y hy
  simp only [oneL, List.mem_cons, List.not_mem_nil, or_false] at hy
  rcases hy with rfl | rfl | rfl | rfl | rfl | rfl | rfl | rfl | rfl | rfl | rfl <;> simp [ByteArray.size_append, ByteArray.size]

def someL : List ByteArray := [⟨#[]⟩, ⟨#[10]⟩, ⟨#[195, 169]⟩, ⟨#[97, 255]⟩, ⟨#[35, 255]⟩, ⟨#[34, 195, 34]⟩, ⟨#[239, 191, 189]⟩, ⟨#[34, 239, 191, 189, 34]⟩, ⟨#[34, 97, 10, 98, 34]⟩, ⟨#[34, 97, 92]⟩, ⟨#[34, 97, 92, 10, 98, 34]⟩, ⟨#[97, 49, 45]⟩, ⟨#[45, 97]⟩, ⟨#[49, 97, 46, 66, 37]⟩, ⟨#[37, 49]⟩, ⟨#[46, 53]⟩]
theorem some_size : ∀ y ∈ someL, y.size ≤ 9223372036854775807 := by decide

set_option maxRecDepth 100000 in
set_option maxHeartbeats 1000000 in
theorem known_any (w : World) (hT : Utab w) :
    Calls Tryd.prog 5 #[] w fun e w' => e = .returned (.bool true) ∧ Below w.heap.size w w' := by
  have HT := Lib.hid hT
  clear hT
  go_enter Tryd.func5, Tryd.ntmps5
  go_wp2_with fail
  go_loopw [1] (fun i wr => ∃ k : Nat, k ≤ 256 ∧ i = .int .i64 (k : Int) ∧ Below w.heap.size w wr) (fun i _ => 256 - (intOf i).toNat)
  case atStart => exact ⟨0, by omega, rfl, Below.refl _ _⟩
  case round =>
    obtain ⟨k, hk, rfl, hb⟩ := hrel
    have HB := Lib.hid hb
    clear hb
    by_cases hlt : k < 256
    · obtain ⟨x, rfl⟩ : ∃ x : UInt8, k = x.toNat := ⟨UInt8.ofNat k, by simp; omega⟩
      have k1 : (x.toNat : Int) < 256 := by omega
      have hcv := conv_one x
      go_wp2_with fail
      obtain ⟨wo, rfl⟩ : ∃ wo : World, wo = wr := ⟨_, rfl⟩
      have hT0 : TextsB ((wo.alloc (.cells #[.int .u8 (x.toNat : Int)] 5)).alloc (.cells ((oneL x).map Value.string).toArray 9)) (wo.heap.size + 1) (oneL x) := by
        have h := Blk.new (wo.alloc (.cells #[.int .u8 (x.toNat : Int)] 5)) ((oneL x).map Value.string).toArray 9
        rw [show (wo.alloc (.cells #[.int .u8 (x.toNat : Int)] 5)).heap.size = wo.heap.size + 1 by simp] at h
        exact h
      have HT0 := Lib.hid hT0
      have hS := one_size x
      have hlen : (oneL x).length = 11 := rfl
      have HB1 := Lib.hid ((HB.out.alloc HB.out.size (.cells #[.int .u8 (x.toNat : Int)] 5)).alloc (by have := HB.out.size; simp; omega) (.cells ((oneL x).map Value.string).toArray 9))
      have HL := Lib.hid hlen
      have HSz := Lib.hid hS
      clear hT0 hS hlen hcv
      go_loopw [4] (fun i wr => ∃ j : Nat, j ≤ 11 ∧ i = .int .i64 (j : Int) ∧ TextsB wr (wo.heap.size + 1) (oneL x) ∧ Below w.heap.size w wr) (fun i _ => 11 - (intOf i).toNat)
      case atStart => exact ⟨0, by omega, rfl, HT0.out, HB1.out⟩
      case round =>
        obtain ⟨j, hj, rfl, ht, hb2⟩ := hrel
        have HT2 := Lib.hid ht
        have HB2 := Lib.hid hb2
        have hsz := Blk.lt ht
        clear ht hb2
        by_cases hjl : j < 11
        · obtain ⟨y, hy⟩ : ∃ y, (oneL x)[j]? = some y := ⟨(oneL x)[j]'(by rw [HL.out]; exact hjl), List.getElem?_eq_getElem _⟩
          have hys := HSz.out y (List.mem_of_getElem? hy)
          have c1 := HT2.out.cell hy
          have j0 : (0 : Int) ≤ (j : Int) := by omega
          have j1 : (j : Int) < 11 := by omega
          have KW := Lib.hid (swords_any y (j : Int) wr hys (by omega) (by omega) (HT.out.below HB2.out))
          have HY := Lib.hid hy
          have HYs := Lib.hid hys
          clear hy hys
          go_wp2_with fail
          refine KW.out.mono ?_
          rintro e w3 ⟨rfl, hb3⟩
          have HT3 := Lib.hid (HT2.out.below hb3 hsz)
          have HB3 := Lib.hid (HB2.out.trans (hb3.mono HB2.out.size))
          have hsz3 := Blk.lt HT3.out
          have KQ := Lib.hid (quotes_any y w3 HYs.out (HT.out.below HB3.out))
          have c2 := HT3.out.cell HY.out
          clear hb3 KW c1
          go_wp2_with fail
          refine KQ.out.mono ?_
          rintro e w4 ⟨rfl, hb4⟩
          have HT4 := Lib.hid (HT3.out.below hb4 hsz3)
          have HB4 := Lib.hid (HB3.out.trans (hb4.mono HB3.out.size))
          clear hb4 KQ c2
          go_wp2_with fail
          go_roundw
          case rel => exact ⟨j + 1, by omega, by go_num, HT4.out, HB4.out⟩
          case measure => simp [intOf]; omega
        · have j1 : ¬ (j : Int) < 11 := by omega
          go_wp2_with fail
          go_roundw
          case rel => exact ⟨x.toNat + 1, by omega, by go_num, HB2.out⟩
          case measure => simp [intOf]; omega
    · have k1 : ¬ (k : Int) < 256 := by omega
      go_wp2_with fail
      obtain ⟨wo, rfl⟩ : ∃ wo : World, wo = wr := ⟨_, rfl⟩
      have HT0 : Hid (TextsB (wo.alloc (.cells (someL.map Value.string).toArray 9)) wo.heap.size someL) := Blk.new wo _ _
      have HB1 := Lib.hid (HB.out.alloc HB.out.size (.cells (someL.map Value.string).toArray 9))
      have HL : Hid (someL.length = 16) := Lib.hid rfl
      go_loopw [6] (fun i wr => ∃ j : Nat, j ≤ 16 ∧ i = .int .i64 (j : Int) ∧ TextsB wr wo.heap.size someL ∧ Below w.heap.size w wr) (fun i _ => 16 - (intOf i).toNat)
      case atStart => exact ⟨0, by omega, rfl, HT0.out, HB1.out⟩
      case round =>
        obtain ⟨j, hj, rfl, ht, hb2⟩ := hrel
        have HT2 := Lib.hid ht
        have HB2 := Lib.hid hb2
        have hsz := Blk.lt ht
        clear ht hb2
        by_cases hjl : j < 16
        · obtain ⟨y, hy⟩ : ∃ y, someL[j]? = some y := ⟨someL[j]'(by rw [HL.out]; exact hjl), List.getElem?_eq_getElem _⟩
          have hys := some_size y (List.mem_of_getElem? hy)
          have c1 := HT2.out.cell hy
          have j0 : (0 : Int) ≤ (j : Int) := by omega
          have j1 : (j : Int) < 16 := by omega
          have KW := Lib.hid (swords_any y (-1) wr hys (by omega) (by omega) (HT.out.below HB2.out))
          have HY := Lib.hid hy
          have HYs := Lib.hid hys
          clear hy hys
          go_wp2_with fail
          refine KW.out.mono ?_
          rintro e w3 ⟨rfl, hb3⟩
          have HT3 := Lib.hid (HT2.out.below hb3 hsz)
          have HB3 := Lib.hid (HB2.out.trans (hb3.mono HB2.out.size))
          have hsz3 := Blk.lt HT3.out
          have KQ := Lib.hid (quotes_any y w3 HYs.out (HT.out.below HB3.out))
          have c2 := HT3.out.cell HY.out
          clear hb3 KW c1
          go_wp2_with fail
          refine KQ.out.mono ?_
          rintro e w4 ⟨rfl, hb4⟩
          have HT4 := Lib.hid (HT3.out.below hb4 hsz3)
          have HB4 := Lib.hid (HB3.out.trans (hb4.mono HB3.out.size))
          clear hb4 KQ c2
          go_wp2_with fail
          go_roundw
          case rel => exact ⟨j + 1, by omega, by go_num, HT4.out, HB4.out⟩
          case measure => simp [intOf]; omega
        · have j1 : ¬ (j : Int) < 16 := by omega
          obtain ⟨n, hn⟩ : ∃ n : Nat, n = 32768 := ⟨_, rfl⟩
          have KRp := Lib.hid (repeat_any n hn wr)
          have hTl : (Lib.repeatL aB n).length = 65536 := by rw [Lib.repeatL_length, hn]; rfl
          obtain ⟨ws, hW, hwl, hwa⟩ := words_full n (by omega)
          have hW2 := words_over (Lib.repeatL aB n ++ [32]) (by rw [List.length_append, hTl]; decide)
          generalize Lib.repeatL aB n = T at KRp hTl hW hW2
          have KW1 : Hid (∀ w, Calls Tryd.prog 6 #[strV T] w (WordsR w (ws, 0, 0, 0))) := Lib.hid (fun w => by rw [← hW]; exact words_any T w (by omega))
          have KW2 : Hid (∀ w, Calls Tryd.prog 6 #[strV (T ++ [32])] w (WordsR w ([], 0, 0, 5))) := Lib.hid (fun w => by rw [← hW2]; exact words_any (T ++ [32]) w (by rw [List.length_append, hTl]; decide))
          have hjo := fun w => run_joinQ Tryd.prog w T [32] (by rw [hTl]; decide)
          have q1 : ((ws.length : Int) == 32768) = true := by rw [hwl, hn]; rfl
          have q2 : (lineI ws 0 == 32768) = true := by
            unfold lineI
            rw [if_neg (by decide), show (0 : Int).toNat = 0 from rfl, line_all ws hwa, hwl, hn]
            rfl
          have q3 : (lineI ws (-1) == 0) = true := rfl
          have hws : ws.length ≤ 1000000 := by omega
          have HTl := Lib.hid hTl
          clear hn hW hW2 hwl hwa hTl
          go_wp2_with fail
          refine KRp.out.mono ?_
          rintro e w3 ⟨rfl, hb3⟩
          have B3 := Lib.hid (HB2.out.trans (hb3.mono HB2.out.size))
          clear hb3 KRp
          go_wp2_with fail
          refine (KW1.out _).mono ?_
          rintro e w4 ⟨v, rfl, ho, hb4⟩
          simp only at ho
          obtain ⟨A, c, rfl, hc1, hm1⟩ := own_sliceS ho
          have W4 := Lib.hid (own_slat ho)
          have B4 := Lib.hid (B3.out.trans (hb4.mono B3.out.size))
          clear ho hb4 KW1
          simp only
          go_wp2_with fail
          refine (KW2.out _).mono ?_
          rintro e w5 ⟨v, rfl, ho, hb5⟩
          replace W4 := Lib.hid (W4.out.below hb5)
          have B5 := Lib.hid (B4.out.trans (hb5.mono B4.out.size))
          clear ho hb5 KW2
          simp only
          go_wp2_with fail
          refine (works_any _).mono ?_
          rintro e w6 ⟨rfl, hb6⟩
          replace W4 := Lib.hid (W4.out.below hb6)
          have B6 := Lib.hid (B5.out.trans (hb6.mono B5.out.size))
          clear hb6
          go_wp2_with fail
          refine (lineI_any A c 0 ws w6 hc1 hm1 hws W4.out).mono ?_
          rintro e w7 ⟨rfl, hb7⟩
          replace W4 := Lib.hid (W4.out.below hb7)
          have B7 := Lib.hid (B6.out.trans (hb7.mono B6.out.size))
          clear hb7
          go_wp2_with fail
          refine (lineI_any A c (-1) ws w7 hc1 hm1 hws W4.out).mono ?_
          rintro e w8 ⟨rfl, hb8⟩
          have B8 := Lib.hid (B7.out.trans (hb8.mono B7.out.size))
          clear hb8
          go_wp2
          go_ret
          exact ⟨rfl, B8.out⟩
end Go.Proofs.YtdiighpmgfbmaaaDoor
