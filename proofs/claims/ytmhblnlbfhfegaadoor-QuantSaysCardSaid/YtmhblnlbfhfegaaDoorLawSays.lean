/- Digits, a point, three digits and a suffix say what these make: the walk. Condition: the library's table of powers of ten lies as it was laid. -/
import Derived.Test.YtmhblnlbfhfegaaDoorSaysMath
import Derived.Test.YtmhblnlbfhfegaaDoorWorks
import Derived.Test.YtmhblnlbfhfegaaDoorBring
import Derived.Deep.RegionWith
import Derived.LoopN
import Derived.Deep.DeepCutAuto
import Derived.Laws.IdiomStrings
namespace Go.Proofs.YtmhblnlbfhfegaaDoor
open Go.RowKit

theorem text_at (l : List (List UInt8)) (k : Nat) (hk : k < l.length) : (l.map fun t => Value.string ⟨t.toArray⟩).toArray[k]? = some (.string ⟨l[k].toArray⟩) := by simp [hk]
theorem num_at (l : List Int) (k : Nat) (hk : k < l.length) : (l.map (Value.int .i64)).toArray[k]? = some (.int .i64 l[k]) := by simp [hk]

/-- Three bytes in a row of the call's own, as a text. -/
theorem conv3 (W : World) (g : Nat) (x y z : UInt8) (h0 : W.cell? ⟨g, 0, none⟩ = some (.int .u8 (x.toNat : Int))) (h1 : W.cell? ⟨g, 1, none⟩ = some (.int .u8 (y.toNat : Int))) (h2 : W.cell? ⟨g, 2, none⟩ = some (.int .u8 (z.toNat : Int))) :
    (convert 42 9 (.slice (some ⟨g, 0, none⟩) 3 3)).run Tryd.prog W = .ok (.string ⟨#[x, y, z]⟩) W := by
  refine run_convert_bytes_back (P := Tryd.prog) W 42 9 5 ⟨g, 0, none⟩ 3 [x, y, z] Tryd.underlying42 Tryd.underlying5 Tryd.underlying9 ?_
  intro j hj
  rw [WideShapes.add_plain, Nat.zero_add]
  match j, hj with
  | 0, _ => exact h0
  | 1, _ => exact h1
  | 2, _ => exact h2

/-- Behind a call that came when the three bytes had been laid. -/
theorem after_three (W1 w2 : World) (x1 x2 x3 : UInt8) (hb : Below (W1.alloc (.cells #[.int .u8 (x1.toNat : Int), .int .u8 (x2.toNat : Int), .int .u8 (x3.toNat : Int)] 5)).drew.heap.size (W1.alloc (.cells #[.int .u8 (x1.toNat : Int), .int .u8 (x2.toNat : Int), .int .u8 (x3.toNat : Int)] 5)).drew w2) :
    (∀ p : Addr, p.block < W1.heap.size → w2.cell? p = W1.cell? p) ∧ W1.heap.size < w2.heap.size ∧ (convert 42 9 (.slice (some ⟨W1.heap.size, 0, none⟩) 3 3)).run Tryd.prog w2 = .ok (.string ⟨#[x1, x2, x3]⟩) w2 ∧ (∀ w : World, Below w.heap.size w W1 → Below w.heap.size w w2) := by
  have hsz : (W1.alloc (.cells #[.int .u8 (x1.toNat : Int), .int .u8 (x2.toNat : Int), .int .u8 (x3.toNat : Int)] 5)).drew.heap.size = W1.heap.size + 1 := by show (W1.heap.push _).size = _; simp
  rw [hsz] at hb
  have hc : ∀ p : Addr, p.block < W1.heap.size + 1 → w2.cell? p = (W1.alloc (.cells #[.int .u8 (x1.toNat : Int), .int .u8 (x2.toNat : Int), .int .u8 (x3.toNat : Int)] 5)).cell? p := fun p hp => hb.cell hp
  refine ⟨fun p hp => (hc p (by omega)).trans (World.cell?_alloc_lt _ _ _ hp), ?_, ?_, ?_⟩
  · have := hb.size
    rw [hsz] at this
    omega
  · refine conv3 w2 W1.heap.size x1 x2 x3 ?_ ?_ ?_
    · rw [hc _ (Nat.lt_succ_self _)]; simp [go_sem]
    · rw [hc _ (Nat.lt_succ_self _)]; simp [go_sem]
    · rw [hc _ (Nat.lt_succ_self _)]; simp [go_sem]
  · intro w h
    have h2 : Below w.heap.size w (W1.alloc (.cells #[.int .u8 (x1.toNat : Int), .int .u8 (x2.toNat : Int), .int .u8 (x3.toNat : Int)] 5)).drew := (h.alloc h.size _).drew
    exact h2.trans (hb.mono (Nat.le_trans h.size (Nat.le_succ _)))

set_option maxRecDepth 100000 in
set_option maxHeartbeats 4000000 in
theorem says_law (n f which : Int) (w : World) (ht : Tab w) (_h1 : -9223372036854775808 ≤ n) (_h2 : n ≤ 9223372036854775807) (_h3 : -9223372036854775808 ≤ f) (_h4 : f ≤ 9223372036854775807) (_h5 : -9223372036854775808 ≤ which) (_h6 : which ≤ 9223372036854775807) :
    Calls Tryd.prog 7 #[.int .i64 n, .int .i64 f, .int .i64 which] w fun e w' => e = .returned (.bool true) ∧ Below w.heap.size w w' := by
  have HT := Lib.hid ht
  clear ht
  go_enter Tryd.func7, Tryd.ntmps7
  go_wp2_with fail
  refine (bring_any n _ _ (by omega) (by omega)).mono ?_
  rintro e w' ⟨rfl, rfl⟩
  go_wp2_with fail
  refine (bring_any f _ _ (by omega) (by omega)).mono ?_
  rintro e w' ⟨rfl, rfl⟩
  have a0 : 0 ≤ n % 2097152 := by omega
  have a1 : n % 2097152 ≤ 2097151 := by omega
  have b0 : 0 ≤ f % 1000 := by omega
  have b1 : f % 1000 ≤ 999 := by omega
  generalize n % 2097152 = a at *
  generalize f % 1000 = b at *
  go_wp2_with fail
  refine (bring_any which _ _ (by omega) (by omega)).mono ?_
  rintro e w' ⟨rfl, rfl⟩
  have c0 : 0 ≤ which % 6 := by omega
  have c1 : which % 6 ≤ 5 := by omega
  generalize which % 6 = kk at *
  obtain ⟨k, rfl⟩ := Int.eq_ofNat_of_zero_le c0
  have hk : k < 6 := by omega
  have c2 : (k : Int) < 6 := by omega
  obtain ⟨T, hT⟩ : ∃ T, T = sufN[k]'hk := ⟨_, rfl⟩
  obtain ⟨M, hM⟩ : ∃ M, M = sufB[k]'hk := ⟨_, rfl⟩
  have hTl : T.length ≤ 2 := by rw [hT]; exact sufN_le k hk
  have hMr : 1 ≤ M ∧ M ≤ 1048576000 := by rw [hM]; exact sufB_in k hk
  obtain ⟨hM0, hM1⟩ := hMr
  have Hread : Hid (readL ⟨(saysText a b T).toArray⟩ 3 sufM = (1000 * a + b, M, 0, 0)) := by
    show readL _ 3 sufM = _
    rw [hT, hM]
    exact says_read a b k hk a0 a1 b0 b1
  go_upto_region 5 with fail
  obtain ⟨W1, hW1⟩ : ∃ W1, W1 = (w.alloc (.cells (sufN.map fun t => Value.string ⟨t.toArray⟩).toArray 9)).alloc (.cells (sufB.map (Value.int .i64)).toArray 3) := ⟨_, rfl⟩
  have hsz : W1.heap.size = w.heap.size + 1 + 1 := by rw [hW1]; simp
  have hcN : W1.cell? ⟨w.heap.size, k, none⟩ = some (.string ⟨T.toArray⟩) := by
    rw [hW1, World.cell?_alloc_lt _ _ _ (by simp), hT, cell_of_row _ w.heap.size k _ _ _ (MapKept.heap_alloc w _).1]
    exact text_at sufN k hk
  have hcB : W1.cell? ⟨w.heap.size + 1, k, none⟩ = some (.int .i64 M) := by
    have h := (MapKept.heap_alloc (w.alloc (.cells (sufN.map fun t => Value.string ⟨t.toArray⟩).toArray 9)) (.cells (sufB.map (Value.int .i64)).toArray 3)).1
    rw [show (w.alloc (.cells (sufN.map fun t => Value.string ⟨t.toArray⟩).toArray 9)).heap.size = w.heap.size + 1 by simp] at h
    rw [hW1, hM, cell_of_row _ (w.heap.size + 1) k _ _ _ h]
    exact num_at sufB k hk
  have HT1 : Hid (Tab W1.drew) := by
    have h : Tab W1 := by rw [hW1]; exact (HT.out.alloc _).alloc _
    exact h
  have HB1 : Hid (Below w.heap.size w W1.drew) := by
    have h : Below w.heap.size w W1 := by rw [hW1]; exact ((Below.refl _ w).alloc (Nat.le_refl _) _).alloc (by simp) _
    exact h.drew
  have hcd : W1.drew.cell? ⟨w.heap.size, k, none⟩ = some (.string ⟨T.toArray⟩) := hcN
  have hszd : w.heap.size + 1 < W1.drew.heap.size := by show w.heap.size + 1 < W1.heap.size; omega
  have HcB := Lib.hid hcB
  have hsz1 : w.heap.size < W1.heap.size := by omega
  have HB1a : Hid (Below w.heap.size w W1) := ⟨HB1.out.os, HB1.out.tape, HB1.out.output, HB1.out.size, HB1.out.block⟩
  -- the numbers of the region, each by its name
  have q1 : IntKind.i64.wrap (b.tdiv 100) = b / 100 := by rw [Int.tdiv_eq_ediv_of_nonneg b0, IntWalk.i64_in _ (by omega)]
  have q2 : IntKind.i64.wrap (b.tdiv 10) = b / 10 := by rw [Int.tdiv_eq_ediv_of_nonneg b0, IntWalk.i64_in _ (by omega)]
  have q3 : (b / 10).tmod 10 = b / 10 % 10 := Int.tmod_eq_emod_of_nonneg (by omega)
  have q4 : b.tmod 10 = b % 10 := Int.tmod_eq_emod_of_nonneg b0
  have q5 : IntKind.i64.wrap (48 + b / 100) = 48 + b / 100 := IntWalk.i64_in _ (by omega)
  have q6 : IntKind.i64.wrap (48 + b / 10 % 10) = 48 + b / 10 % 10 := IntWalk.i64_in _ (by omega)
  have q7 : IntKind.i64.wrap (48 + b % 10) = 48 + b % 10 := IntWalk.i64_in _ (by omega)
  obtain ⟨x1, hx1⟩ : ∃ x1, x1 = digB (b / 100) := ⟨_, rfl⟩
  obtain ⟨x2, hx2⟩ : ∃ x2, x2 = digB (b / 10 % 10) := ⟨_, rfl⟩
  obtain ⟨x3, hx3⟩ : ∃ x3, x3 = digB (b % 10) := ⟨_, rfl⟩
  have u1 : IntKind.u8.wrap (48 + b / 100) = (x1.toNat : Int) := by rw [hx1, digB_nat (by omega) (by omega), IntKind.wrap_u8]; omega
  have u2 : IntKind.u8.wrap (48 + b / 10 % 10) = (x2.toNat : Int) := by rw [hx2, digB_nat (by omega) (by omega), IntKind.wrap_u8]; omega
  have u3 : IntKind.u8.wrap (48 + b % 10) = (x3.toNat : Int) := by rw [hx3, digB_nat (by omega) (by omega), IntKind.wrap_u8]; omega
  have Hx : Hid (saysText a b T = dec a ++ [46] ++ [x1, x2, x3] ++ T) := by
    show saysText a b T = _
    unfold saysText
    rw [hx1, hx2, hx3]
    simp
  clear hx1 hx2 hx3
  have hcv1 : ∀ W : World, (convert 42 9 (.slice (some ⟨W.heap.size, 0, none⟩) 3 3)).run Tryd.prog (W.alloc (.cells #[.int .u8 (x1.toNat : Int), .int .u8 (x2.toNat : Int), .int .u8 (x3.toNat : Int)] 5)) = .ok (.string ⟨#[x1, x2, x3]⟩) (W.alloc (.cells #[.int .u8 (x1.toNat : Int), .int .u8 (x2.toNat : Int), .int .u8 (x3.toNat : Int)] 5)) :=
    fun W => conv3 _ _ x1 x2 x3 (by simp [go_sem]) (by simp [go_sem]) (by simp [go_sem])
  have hcv2 : (convert 42 9 (.slice (some ⟨W1.heap.size, 0, none⟩) 3 3)).run Tryd.prog (W1.alloc (.cells #[.int .u8 (x1.toNat : Int), .int .u8 (x2.toNat : Int), .int .u8 (x3.toNat : Int)] 5)).drew = .ok (.string ⟨#[x1, x2, x3]⟩) (W1.alloc (.cells #[.int .u8 (x1.toNat : Int), .int .u8 (x2.toNat : Int), .int .u8 (x3.toNat : Int)] 5)).drew := hcv1 W1.drew
  have HT1a : Hid (Tab (W1.alloc (.cells #[.int .u8 (x1.toNat : Int), .int .u8 (x2.toNat : Int), .int .u8 (x3.toNat : Int)] 5)).drew) := (show Tab W1 from HT1.out).alloc _
  have hcda : (W1.alloc (.cells #[.int .u8 (x1.toNat : Int), .int .u8 (x2.toNat : Int), .int .u8 (x3.toNat : Int)] 5)).drew.cell? ⟨w.heap.size, k, none⟩ = some (.string ⟨T.toArray⟩) := (World.cell?_alloc_lt W1.drew _ _ (by show w.heap.size < _; omega)).trans hcd
  have Hda : Hid ((dec a).length ≤ 21) := dec_len a a0 (by omega)
  have Hj2 : Hid (∀ W, (Op.stringOp .add ⟨(dec a ++ [46]).toArray⟩ ⟨#[x1, x2, x3]⟩).run Tryd.prog W = .ok (.string ⟨(dec a ++ [46] ++ [x1, x2, x3]).toArray⟩) W) :=
    fun W => join_l Tryd.prog W (dec a ++ [46]) [x1, x2, x3] (by have := Hda.out; simp; omega) (by simp)
  have Hj3 : Hid (∀ W, (Op.stringOp .add ⟨(dec a ++ [46] ++ [x1, x2, x3]).toArray⟩ ⟨T.toArray⟩).run Tryd.prog W = .ok (.string ⟨(dec a ++ [46] ++ [x1, x2, x3] ++ T).toArray⟩) W) :=
    fun W => join_l Tryd.prog W (dec a ++ [46] ++ [x1, x2, x3]) T (by have := Hda.out; simp; omega) (by omega)
  have Hj1 : Hid (∀ W, (Op.stringOp .add ⟨(dec a).toArray⟩ ⟨#[46]⟩).run Tryd.prog W = .ok (.string ⟨(dec a ++ [46]).toArray⟩) W) :=
    fun W => join_l Tryd.prog W (dec a) [46] (Nat.le_trans (dec_len a a0 (by omega)) (by decide)) (by decide)
  rw [show ((w.alloc (.cells #[.string ⟨#[109]⟩, .string ⟨#[]⟩, .string ⟨#[107]⟩, .string ⟨#[77]⟩, .string ⟨#[75, 105]⟩, .string ⟨#[77, 105]⟩] 9)).alloc (.cells #[.int .i64 1, .int .i64 1000, .int .i64 1000000, .int .i64 1000000000, .int .i64 1024000, .int .i64 1048576000] 3)) = W1 from hW1.symm]
  clear hW1 hT hM hcN hcB hsz
  obtain ⟨t1, ht1⟩ : ∃ t1, t1 = dec a ++ [46] := ⟨_, rfl⟩
  obtain ⟨t2, ht2⟩ : ∃ t2, t2 = t1 ++ [x1, x2, x3] := ⟨_, rfl⟩
  obtain ⟨t3, ht3⟩ : ∃ t3, t3 = t2 ++ T := ⟨_, rfl⟩
  have hj1 := Hj1.out
  have hj2 := Hj2.out
  have hj3 := Hj3.out
  have hxx := Hx.out
  rw [← ht1] at hj1 hj2 hj3 hxx
  rw [← ht2] at hj2 hj3 hxx
  rw [← ht3] at hj3 hxx
  have Hxx := Lib.hid hxx
  clear hxx Hj1 Hj2 Hj3 Hx ht1 ht2 ht3
  go_cut [10] (fun s10 wx => s10 = .string ⟨t3.toArray⟩ ∧ wx.cell? ⟨w.heap.size + 1, k, none⟩ = some (.int .i64 M) ∧ Below w.heap.size w wx)
  case first =>
    go_region_with (first
        | (go_at_call 30; (with_reducible refine (itoa_dec a W1.drew a0 (by omega) HT1.out).mono ?_); rintro e w2 ⟨rfl, hb2⟩; have hc2 := (hb2.cell (p := ⟨w.heap.size, k, none⟩) (by show w.heap.size < _; omega)).trans hcd; have HB2 := Lib.hid (HB1.out.trans (hb2.mono HB1.out.size)); have HcB2 := Lib.hid ((hb2.cell (p := ⟨w.heap.size + 1, k, none⟩) hszd).trans HcB.out); have hsz2 : w.heap.size + 1 < w2.heap.size := Nat.lt_of_lt_of_le hszd hb2.size; have hc2a : (w2.alloc (.cells #[.int .u8 (x1.toNat : Int), .int .u8 (x2.toNat : Int), .int .u8 (x3.toNat : Int)] 5)).cell? ⟨w.heap.size, k, none⟩ = some (.string ⟨T.toArray⟩) := (World.cell?_alloc_lt w2 _ _ (by show w.heap.size < _; omega)).trans hc2; clear hb2)
        | (go_at_call 30; (with_reducible refine (itoa_dec a (W1.alloc (.cells #[.int .u8 (x1.toNat : Int), .int .u8 (x2.toNat : Int), .int .u8 (x3.toNat : Int)] 5)).drew a0 (by omega) HT1a.out).mono ?_); rintro e w2 ⟨rfl, hb2⟩; obtain ⟨af1, af2, hcv3, af4⟩ := after_three W1 w2 x1 x2 x3 hb2; have hc2 := (af1 ⟨w.heap.size, k, none⟩ hsz1).trans hcd; have HB2 := Lib.hid (af4 w HB1a.out); have HcB2 := Lib.hid ((af1 ⟨w.heap.size + 1, k, none⟩ hszd).trans HcB.out); have hsz2 : w.heap.size + 1 < w2.heap.size := Nat.lt_trans hszd af2; clear hb2 af1 af2 af4))
    all_goals (go_wp2_with fail; go_meet)
    all_goals first
      | exact ⟨rfl, HcB2.out, HB2.out⟩
      | exact ⟨rfl, (World.cell?_alloc_lt w2 _ _ hsz2).trans HcB2.out, HB2.out.alloc HB2.out.size _⟩
  case rest =>
    obtain ⟨rfl, hcM, hbx⟩ := hcut
    have HB3 := Lib.hid hbx
    clear hbx hj1 hj2 hj3 hcv1 hcv2 hcda hcd q1 q2 q3 q4 q5 q6 q7 u1 u2 u3
    have hr := Hread.out
    rw [Hxx.out] at hr
    have Hm := Lib.hid (parse_milli hr hM0)
    have Hp := Lib.hid (parse_plain hr hM0)
    clear hr
    obtain ⟨A, hA⟩ : ∃ A, (1000 * a + b) * M = A := ⟨_, rfl⟩
    have hA0 : 0 ≤ A := by rw [← hA]; exact Int.mul_nonneg (by omega) (by omega)
    have hA1 : A ≤ 2097151999 * 1048576000 := by rw [← hA]; exact Int.mul_le_mul (by omega) hM1 (by omega) (by omega)
    have hA2 : A ≤ 4611686018427387904 := by omega
    rw [hA] at Hm Hp
    clear hA1
    go_wp2
    refine wp_loop_rounds 3 ?_
    by_cases f1 : 1099511627776000000 < A
    · have Hf : Hid (parseL ⟨t3.toArray⟩ false = (0, 0, 10)) := by
        show parseL _ false = _
        rw [Hp.out, if_pos (by omega)]
      rw [rounds_succ]
      go_wp2_with fail
      refine (parse_is ⟨t3.toArray⟩ false _ 0 0 10 Hf.out).mono ?_
      rintro e w4 ⟨rfl, hb⟩
      have HB4 := Lib.hid (HB3.out.trans (hb.mono HB3.out.size))
      clear hb
      go_wp2
      have g1 : 1099511627776000 < A := by omega
      have Ht : Hid (parseL ⟨t3.toArray⟩ true = (0, 0, 10)) := by
        show parseL _ true = _
        rw [Hm.out, if_pos (by omega)]
      rw [rounds_succ]
      go_wp2_with fail
      refine (parse_is ⟨t3.toArray⟩ true _ 0 0 10 Ht.out).mono ?_
      rintro e w5 ⟨rfl, hb⟩
      have HB5 := Lib.hid (HB4.out.trans (hb.mono HB4.out.size))
      clear hb
      go_wp2
      rw [rounds_succ]
      go_wp2_with fail
      refine (works_any _ (HT.out.below HB5.out)).mono ?_
      rintro e w6 ⟨rfl, hb⟩
      have HB6 := Lib.hid (HB5.out.trans (hb.mono HB5.out.size))
      clear hb
      go_wp2
      go_ret
      exact ⟨rfl, HB6.out⟩
    · by_cases f2 : A % 1000000 = 0
      · have f2b : (A % 1000000 != 0) = false := by simp [f2]
        have Hf : Hid (parseL ⟨t3.toArray⟩ false = (A / 1000000, 0, 0)) := by
          show parseL _ false = _
          rw [Hp.out, if_neg (by omega), if_neg (by rw [f2]; simp)]
        clear f2
        rw [rounds_succ]
        go_wp2_with fail
        refine (parse_is ⟨t3.toArray⟩ false _ (A / 1000000) 0 0 Hf.out).mono ?_
        rintro e w4 ⟨rfl, hb⟩
        have HB4 := Lib.hid (HB3.out.trans (hb.mono HB3.out.size))
        clear hb
        go_wp2
        by_cases g1 : 1099511627776000 < A
        · have Ht : Hid (parseL ⟨t3.toArray⟩ true = (0, 0, 10)) := by
            show parseL _ true = _
            rw [Hm.out, if_pos (by omega)]
          rw [rounds_succ]
          go_wp2_with fail
          refine (parse_is ⟨t3.toArray⟩ true _ 0 0 10 Ht.out).mono ?_
          rintro e w5 ⟨rfl, hb⟩
          have HB5 := Lib.hid (HB4.out.trans (hb.mono HB4.out.size))
          clear hb
          go_wp2
          rw [rounds_succ]
          go_wp2_with fail
          refine (works_any _ (HT.out.below HB5.out)).mono ?_
          rintro e w6 ⟨rfl, hb⟩
          have HB6 := Lib.hid (HB5.out.trans (hb.mono HB5.out.size))
          clear hb
          go_wp2
          go_ret
          exact ⟨rfl, HB6.out⟩
        · by_cases g2 : A % 1000 = 0
          · have g2b : (A % 1000 != 0) = false := by simp [g2]
            have Ht : Hid (parseL ⟨t3.toArray⟩ true = (A / 1000, 0, 0)) := by
              show parseL _ true = _
              rw [Hm.out, if_neg (by omega), if_neg (by rw [g2]; simp)]
            clear g2
            rw [rounds_succ]
            go_wp2_with fail
            refine (parse_is ⟨t3.toArray⟩ true _ (A / 1000) 0 0 Ht.out).mono ?_
            rintro e w5 ⟨rfl, hb⟩
            have HB5 := Lib.hid (HB4.out.trans (hb.mono HB4.out.size))
            clear hb
            go_wp2
            rw [rounds_succ]
            go_wp2_with fail
            refine (works_any _ (HT.out.below HB5.out)).mono ?_
            rintro e w6 ⟨rfl, hb⟩
            have HB6 := Lib.hid (HB5.out.trans (hb.mono HB5.out.size))
            clear hb
            go_wp2
            go_ret
            exact ⟨rfl, HB6.out⟩
          · have g2b : (A % 1000 != 0) = true := by simpa using g2
            have Ht : Hid (parseL ⟨t3.toArray⟩ true = (0, 0, 4)) := by
              show parseL _ true = _
              rw [Hm.out, if_neg (by omega), if_pos g2]
            clear g2
            rw [rounds_succ]
            go_wp2_with fail
            refine (parse_is ⟨t3.toArray⟩ true _ 0 0 4 Ht.out).mono ?_
            rintro e w5 ⟨rfl, hb⟩
            have HB5 := Lib.hid (HB4.out.trans (hb.mono HB4.out.size))
            clear hb
            go_wp2
            rw [rounds_succ]
            go_wp2_with fail
            refine (works_any _ (HT.out.below HB5.out)).mono ?_
            rintro e w6 ⟨rfl, hb⟩
            have HB6 := Lib.hid (HB5.out.trans (hb.mono HB5.out.size))
            clear hb
            go_wp2
            go_ret
            exact ⟨rfl, HB6.out⟩
      · have f2b : (A % 1000000 != 0) = true := by simpa using f2
        have Hf : Hid (parseL ⟨t3.toArray⟩ false = (0, 0, 4)) := by
          show parseL _ false = _
          rw [Hp.out, if_neg (by omega), if_pos f2]
        clear f2
        rw [rounds_succ]
        go_wp2_with fail
        refine (parse_is ⟨t3.toArray⟩ false _ 0 0 4 Hf.out).mono ?_
        rintro e w4 ⟨rfl, hb⟩
        have HB4 := Lib.hid (HB3.out.trans (hb.mono HB3.out.size))
        clear hb
        go_wp2
        by_cases g1 : 1099511627776000 < A
        · have Ht : Hid (parseL ⟨t3.toArray⟩ true = (0, 0, 10)) := by
            show parseL _ true = _
            rw [Hm.out, if_pos (by omega)]
          rw [rounds_succ]
          go_wp2_with fail
          refine (parse_is ⟨t3.toArray⟩ true _ 0 0 10 Ht.out).mono ?_
          rintro e w5 ⟨rfl, hb⟩
          have HB5 := Lib.hid (HB4.out.trans (hb.mono HB4.out.size))
          clear hb
          go_wp2
          rw [rounds_succ]
          go_wp2_with fail
          refine (works_any _ (HT.out.below HB5.out)).mono ?_
          rintro e w6 ⟨rfl, hb⟩
          have HB6 := Lib.hid (HB5.out.trans (hb.mono HB5.out.size))
          clear hb
          go_wp2
          go_ret
          exact ⟨rfl, HB6.out⟩
        · by_cases g2 : A % 1000 = 0
          · have g2b : (A % 1000 != 0) = false := by simp [g2]
            have Ht : Hid (parseL ⟨t3.toArray⟩ true = (A / 1000, 0, 0)) := by
              show parseL _ true = _
              rw [Hm.out, if_neg (by omega), if_neg (by rw [g2]; simp)]
            clear g2
            rw [rounds_succ]
            go_wp2_with fail
            refine (parse_is ⟨t3.toArray⟩ true _ (A / 1000) 0 0 Ht.out).mono ?_
            rintro e w5 ⟨rfl, hb⟩
            have HB5 := Lib.hid (HB4.out.trans (hb.mono HB4.out.size))
            clear hb
            go_wp2
            rw [rounds_succ]
            go_wp2_with fail
            refine (works_any _ (HT.out.below HB5.out)).mono ?_
            rintro e w6 ⟨rfl, hb⟩
            have HB6 := Lib.hid (HB5.out.trans (hb.mono HB5.out.size))
            clear hb
            go_wp2
            go_ret
            exact ⟨rfl, HB6.out⟩
          · have g2b : (A % 1000 != 0) = true := by simpa using g2
            have Ht : Hid (parseL ⟨t3.toArray⟩ true = (0, 0, 4)) := by
              show parseL _ true = _
              rw [Hm.out, if_neg (by omega), if_pos g2]
            clear g2
            rw [rounds_succ]
            go_wp2_with fail
            refine (parse_is ⟨t3.toArray⟩ true _ 0 0 4 Ht.out).mono ?_
            rintro e w5 ⟨rfl, hb⟩
            have HB5 := Lib.hid (HB4.out.trans (hb.mono HB4.out.size))
            clear hb
            go_wp2
            rw [rounds_succ]
            go_wp2_with fail
            refine (works_any _ (HT.out.below HB5.out)).mono ?_
            rintro e w6 ⟨rfl, hb⟩
            have HB6 := Lib.hid (HB5.out.trans (hb.mono HB5.out.size))
            clear hb
            go_wp2
            go_ret
            exact ⟨rfl, HB6.out⟩

end Go.Proofs.YtmhblnlbfhfegaaDoor
