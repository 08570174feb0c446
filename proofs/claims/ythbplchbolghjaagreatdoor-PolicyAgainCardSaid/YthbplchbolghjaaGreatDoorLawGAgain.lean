/- What can be parsed prints to a text that says the same; lines doubled, or in another order, can't: the walk of the law. Conditions: the names lie in memory; the variables hold what was laid. -/
import Derived.Test.YthbplchbolghjaaGreatDoorGMadeX
import Derived.Test.YthbplchbolghjaaGreatDoorGAgainM
namespace Go.Proofs.YthbplchbolghjaaGreatDoor
open Go.RowKit

theorem idx_hit : ∀ (a b : List UInt8), (10 : UInt8) ∉ a → Lib.indexByte (a ++ 10 :: b) 10 = (a.length : Int)
  | [], b, _ => by simp [Lib.indexByte]
  | x :: a, b, h => by
    have hx : ¬ x = 10 := fun e => h (by rw [e]; exact List.mem_cons_self ..)
    have ih := idx_hit a b (fun hh => h (List.mem_cons_of_mem _ hh))
    have h1 : (x == 10) = false := by simpa using hx
    have h2 : ((a.length : Int) == -1) = false := by simp
    rw [List.cons_append, Lib.indexByte, h1, ih, h2]
    simp
theorem cut_fst (a b : List UInt8) : (⟨(a ++ 10 :: b).toArray⟩ : ByteArray).extract 0 a.length = ⟨a.toArray⟩ := by
  apply ByteArray.ext
  apply Array.toList_inj.1
  simp
theorem cut_snd (a b : List UInt8) : (⟨(a ++ 10 :: b).toArray⟩ : ByteArray).extract (a.length + 1) (a ++ 10 :: b).length = ⟨b.toArray⟩ := by
  apply ByteArray.ext
  apply Array.toList_inj.1
  simp
  exact List.take_of_length_le (by omega)

set_option maxHeartbeats 1000000 in
theorem lcut_hit (a b : List UInt8) (h : (10 : UInt8) ∉ a) (w : World) (hl : (a ++ 10 :: b).length ≤ 100000) :
    Calls Tryz.prog 50 #[strV (a ++ 10 :: b), .string ⟨#[10]⟩] w fun e w' => e = .returned (.tuple #[strV a, strV b, .bool true]) ∧ ∃ n, w' = w.drewN n := by
  have K := Lib.hid (fun w => Tryz.stringslite_Index_one ⟨(a ++ 10 :: b).toArray⟩ 10 w)
  have E1 := Lib.hid (cut_fst a b)
  have E2 := Lib.hid (cut_snd a b)
  have hi : Lib.indexByte (⟨(a ++ 10 :: b).toArray⟩ : ByteArray).data.toList 10 = (a.length : Int) := idx_hit a b h
  rw [hi] at K
  clear hi h
  have hle : a.length + 1 ≤ (a ++ 10 :: b).length := by simp
  generalize (a ++ 10 :: b) = s at K E1 E2 hl hle ⊢
  generalize a.length = i at K E1 E2 hle
  have i0 : (0 : Int) ≤ (i : Int) := by omega
  have i1 : (i : Int) ≤ (s.length : Int) := by omega
  have i2 : (0 : Int) ≤ (i : Int) + 1 := by omega
  have i3 : (i : Int) + 1 ≤ (s.length : Int) := by omega
  go_enter Tryz.func50, Tryz.ntmps50
  go_wp2_with fail
  refine (K.out _).mono ?_
  rintro e w1 ⟨rfl, rfl⟩
  go_wp2
  go_region
  go_wp2
  go_ret3
  refine ⟨?_, 1, rfl⟩
  show Ending.returned (.tuple #[.string ((⟨s.toArray⟩ : ByteArray).extract 0 i), .string ((⟨s.toArray⟩ : ByteArray).extract (i + 1) s.length), .bool true]) = _
  rw [E1.out, E2.out]

set_option maxHeartbeats 1000000 in
theorem lcut_nil (w : World) : Calls Tryz.prog 50 #[strV [], .string ⟨#[10]⟩] w fun e w' => e = .returned (.tuple #[strV [], strV [], .bool false]) ∧ ∃ n, w' = w.drewN n := by
  have K := Lib.hid (fun w => Tryz.stringslite_Index_one ⟨#[]⟩ 10 w)
  rw [show Lib.indexByte (⟨#[]⟩ : ByteArray).data.toList 10 = -1 from rfl] at K
  go_enter Tryz.func50, Tryz.ntmps50
  go_wp2_with fail
  refine (K.out _).mono ?_
  rintro e w1 ⟨rfl, rfl⟩
  go_wp2
  go_ret3
  exact ⟨rfl, 0, rfl⟩

theorem gcut_hit (a b : List UInt8) (h : (10 : UInt8) ∉ a) (w : World) (hl : (a ++ 10 :: b).length ≤ 100000) :
    Calls Tryz.prog 22 #[strV (a ++ 10 :: b), .string ⟨#[10]⟩] w fun e w' => e = .returned (.tuple #[strV a, strV b, .bool true]) ∧ ∃ n, w' = w.drewN n := by
  have K := Lib.hid (lcut_hit a b h w hl)
  generalize (a ++ 10 :: b) = s at K hl ⊢
  clear h
  go_enter Tryz.func22, Tryz.ntmps22
  go_wp2_with fail
  refine K.out.mono ?_
  rintro e w1 ⟨rfl, n, rfl⟩
  go_wp2
  go_ret3
  exact ⟨rfl, n, rfl⟩
theorem gcut_nil (w : World) : Calls Tryz.prog 22 #[strV [], .string ⟨#[10]⟩] w fun e w' => e = .returned (.tuple #[strV [], strV [], .bool false]) ∧ ∃ n, w' = w.drewN n := by
  have K := Lib.hid (lcut_nil w)
  go_enter Tryz.func22, Tryz.ntmps22
  go_wp2_with fail
  refine K.out.mono ?_
  rintro e w1 ⟨rfl, n, rfl⟩
  go_wp2
  go_ret3
  exact ⟨rfl, n, rfl⟩
theorem print_may {g : Pol} (h : checkG g = 0) : printG g = (textK g 7, 0) := by
  unfold printG
  rw [if_pos h]
theorem check_pol0 : checkG pol0 = 0 := by decide +kernel
/-- What Parse tells may be, whatever it is. -/
theorem parse_may (t : List UInt8) : checkG (parseP t).1 = 0 := by
  unfold parseP
  simp only
  split
  · exact check_pol0
  · split
    · exact check_pol0
    · split
      · assumption
      · exact check_pol0
theorem pcut (T : List UInt8) (m : Nat) : (⟨T.toArray⟩ : ByteArray).extract 0 m = ⟨(T.take m).toArray⟩ := by
  apply ByteArray.ext
  apply Array.toList_inj.1
  simp
theorem pjoin (a b : List UInt8) : (⟨a.toArray⟩ : ByteArray) ++ (⟨b.toArray⟩ : ByteArray) = ⟨(a ++ b).toArray⟩ := by
  apply ByteArray.ext
  simp [ByteArray.data_append]
theorem may_big {g : Pol} (h : checkG g = 0) : ∀ x ∈ g.drain, x.length ≤ 9223372036854775807 := fun x hx => by
  obtain ⟨_, _, ⟨_, hn⟩, _⟩ := polB_all h
  have := (names_15 hn x hx).2
  omega
theorem parse_names (t : List UInt8) (w : World) (he : Env w) (ht : t.length ≤ 20000) {g : Pol} {a b e0 : Int} (hP : parseP t = (g, a, b, e0)) :
    Calls Tryz.prog 16 #[strV t] w fun e w' => ∃ A' c', e = .returned (.tuple #[.agg #[.int .i64 g.l0, .int .i64 g.l1, .int .i64 g.h0, .int .i64 g.h1, .int .i64 g.on, .slice A' g.drain.length c', .int .i64 g.mx, .int .i64 g.tr, .bool g.rb], .int .i64 a, .int .i64 b, .int .i64 e0]) ∧ NamesAt w' A' c' g.drain ∧ Below w.heap.size w w' := by
  have hc := parse_may t
  have k := parse_any t w he ht
  rw [hP] at k hc
  refine k.mono ?_
  rintro e w'' ⟨A', c', rfl, ho, hb''⟩
  exact ⟨A', c', rfl, ⟨fun j y hj => Sc.own_slat ho j y hj, (Sc.own_cap ho).1, (Sc.own_cap ho).2, may_big hc⟩, hb''⟩

theorem gap9 {w : World} {b i : Nat} {H : Pol} {B : Option Addr} {d : Nat} {t : List UInt8} (hb : Blk w b (cellsG H B d) 25) (hc : w.cell? ⟨b, i, none⟩ = some (strV t)) : False := by
  by_cases hi : i < 9
  · obtain rfl | rfl | rfl | rfl | rfl | rfl | rfl | rfl | rfl : i = 0 ∨ i = 1 ∨ i = 2 ∨ i = 3 ∨ i = 4 ∨ i = 5 ∨ i = 6 ∨ i = 7 ∨ i = 8 := by omega
    · have := Blk.cell hb 0; rw [this] at hc; cases hc
    · have := Blk.cell hb 1; rw [this] at hc; cases hc
    · have := Blk.cell hb 2; rw [this] at hc; cases hc
    · have := Blk.cell hb 3; rw [this] at hc; cases hc
    · have := Blk.cell hb 4; rw [this] at hc; cases hc
    · have := Blk.cell hb 5; rw [this] at hc; cases hc
    · have := Blk.cell hb 6; rw [this] at hc; cases hc
    · have := Blk.cell hb 7; rw [this] at hc; cases hc
    · have := Blk.cell hb 8; rw [this] at hc; cases hc
  · unfold Blk at hb
    have hs : (cellsG H B d)[i]? = none := Array.getElem?_eq_none (by simp [cellsG]; omega)
    simp [World.cell?, hb, hs] at hc
theorem rest_seven (g : Pol) : (restL g 0).length ≤ 7 := by
  unfold restL
  exact Nat.le_trans (List.length_filter_le _ _) (by simp)
theorem count_rows {g : Pol} (hc : checkG g = 0) : Lib.countByte (textK g 7) 10 = (restL g 0).length := by
  rw [text_rest]
  exact rows_count _ (lines_ok hc (i := 0))
/-- The first line end: what stands ahead of it, and behind; and what these make the other way round. -/
theorem cut_turn {g : Pol} (hc : checkG g = 0) : ∃ (a b : List UInt8) (z : Bool), (∀ w, Calls Tryz.prog 22 #[strV (textK g 7), .string ⟨#[10]⟩] w fun e w' => e = .returned (.tuple #[strV a, strV b, .bool z]) ∧ ∃ n, w' = w.drewN n) ∧ (b ++ a).length ≤ 7000 ∧ (2 ≤ (restL g 0).length → ∃ q, parseP (b ++ a) = (q, ((restL g 0).length : Int), 1, 4)) := by
  have hlen := textK_len hc 7
  by_cases h0 : restL g 0 = []
  · refine ⟨[], [], false, fun w => ?_, by simp, fun h => ?_⟩
    · rw [text_rest, h0]
      exact gcut_nil w
    · rw [h0] at h
      simp at h
  · obtain ⟨j, _, hj, hno, hne, hr⟩ := first_line 7 0 rfl h0
    have hok := toks_ok hc hj
    have e : textK g 7 = openT (lineI g j) ++ 10 :: (restL g (j + 1)).flatMap rowT := by
      rw [text_rest, hr, List.flatMap_cons, ← open_row hne, List.append_assoc]
      rfl
    rw [e] at hlen
    simp only [List.length_append, List.length_cons] at hlen
    refine ⟨openT (lineI g j), (restL g (j + 1)).flatMap rowT, true, fun w => ?_, by rw [List.length_append]; omega, fun h => ?_⟩
    · rw [e]
      exact gcut_hit _ _ (open_no10 hok) w (by simp only [List.length_append, List.length_cons]; omega)
    · rw [hr, List.length_cons] at h
      have hr1 : restL g (j + 1) ≠ [] := fun e => by rw [e] at h; simp at h
      refine ⟨pol0, ?_⟩
      rw [parse_turned hc hj (fun i hi => hno i (Nat.zero_le _) hi) hne hr1, hr, List.length_cons]
      rfl

set_option maxRecDepth 100000 in
set_option maxHeartbeats 4000000 in
theorem again_law (T : List UInt8) (g : Pol) (A : Option Addr) (c : Nat) (w : World) (he : Env w) (hT : T.length ≤ 9223372036854775807) (h : NamesAt w A c g.drain) :
    Calls Tryz.prog 6 #[strV T, valG g A c] w fun e w' => e = .returned (.bool true) ∧ Below w.heap.size w w' := by
  have HE := Lib.hid he
  have HN := Lib.hid h
  obtain ⟨m, hm⟩ : ∃ m, min T.length 1000 = m := ⟨_, rfl⟩
  have hml : m ≤ T.length := by omega
  have hmi : min (T.length : Int) 1000 = (m : Int) := by omega
  have hmk : m ≤ 1000 := by omega
  have hmt : (T.take m).length ≤ 20000 := by rw [List.length_take]; omega
  have B0 : Hid (Below w.heap.size w (w.alloc (.cells (cellsG g A c) 25))) := Lib.hid (below1 w _)
  have Q0 : Hid (Blk (w.alloc (.cells (cellsG g A c) 25)) w.heap.size (cellsG g A c) 25) := Lib.hid (Blk.new w _ _)
  rcases hP : parseP (T.take m) with ⟨a, x, y, e0⟩
  have ha : checkG a = 0 := by have := parse_may (T.take m); rw [hP] at this; exact this
  have KP : Hid (∀ w', Below w.heap.size w w' → Calls Tryz.prog 16 #[.string ((⟨T.toArray⟩ : ByteArray).extract 0 m)] w' fun e w'' => ∃ A' c', e = .returned (.tuple #[.agg #[.int .i64 a.l0, .int .i64 a.l1, .int .i64 a.h0, .int .i64 a.h1, .int .i64 a.on, .slice A' a.drain.length c', .int .i64 a.mx, .int .i64 a.tr, .bool a.rb], .int .i64 x, .int .i64 y, .int .i64 e0]) ∧ NamesAt w'' A' c' a.drain ∧ Below w'.heap.size w' w'') := Lib.hid (fun w' hb => by
    rw [pcut]
    exact parse_names _ w' (HE.out.below hb) hmt hP)
  have HA := Lib.hid ha
  clear h he hP ha hm hmt hmk
  go_enter Tryz.func6, Tryz.ntmps6
  go_upto_region 1 with fail
  change Code.wp _ _ _ _ (w.alloc (.cells (cellsG g A c) 25))
  generalize (w.alloc (.cells (cellsG g A c) 25)) = W0 at B0 Q0 ⊢
  have hl0 := Blk.lt Q0.out
  go_wp2_with fail
  refine (KP.out _ B0.out).mono ?_
  rintro e w1 ⟨A1, c1, rfl, hn1, hb1⟩
  have B1 := Lib.hid (B0.out.trans (hb1.mono B0.out.size))
  have Q1 := Lib.hid (Blk.below Q0.out hb1 hl0)
  have N1 := Lib.hid hn1
  clear hn1 hb1 KP Q0 B0 hl0 hmi hml
  have hl1 := Blk.lt Q1.out
  go_upto_if 37 with fail
  change Code.wp _ _ _ _ (w1.alloc (.cells #[.int .i64 a.l0, .int .i64 a.l1, .int .i64 a.h0, .int .i64 a.h1, .int .i64 a.on, .slice A1 a.drain.length c1, .int .i64 a.mx, .int .i64 a.tr, .bool a.rb] 25))
  have B2 : Hid (Below w.heap.size w (w1.alloc (.cells #[.int .i64 a.l0, .int .i64 a.l1, .int .i64 a.h0, .int .i64 a.h1, .int .i64 a.on, .slice A1 a.drain.length c1, .int .i64 a.mx, .int .i64 a.tr, .bool a.rb] 25))) := Lib.hid (B1.out.alloc B1.out.size _)
  have Q2 : Hid (Blk (w1.alloc (.cells #[.int .i64 a.l0, .int .i64 a.l1, .int .i64 a.h0, .int .i64 a.h1, .int .i64 a.on, .slice A1 a.drain.length c1, .int .i64 a.mx, .int .i64 a.tr, .bool a.rb] 25)) w.heap.size (cellsG g A c) 25) := Lib.hid (Blk.alloc Q1.out _)
  have Z2 : Hid (Blk (w1.alloc (.cells #[.int .i64 a.l0, .int .i64 a.l1, .int .i64 a.h0, .int .i64 a.h1, .int .i64 a.on, .slice A1 a.drain.length c1, .int .i64 a.mx, .int .i64 a.tr, .bool a.rb] 25)) w1.heap.size #[.int .i64 a.l0, .int .i64 a.l1, .int .i64 a.h0, .int .i64 a.h1, .int .i64 a.on, .slice A1 a.drain.length c1, .int .i64 a.mx, .int .i64 a.tr, .bool a.rb] 25) := Lib.hid (Blk.new w1 _ _)
  have N2 : Hid (NamesAt (w1.alloc (.cells #[.int .i64 a.l0, .int .i64 a.l1, .int .i64 a.h0, .int .i64 a.h1, .int .i64 a.on, .slice A1 a.drain.length c1, .int .i64 a.mx, .int .i64 a.tr, .bool a.rb] 25)) A1 c1 a.drain) := Lib.hid (N1.out.below (below1 w1 _))
  generalize (w1.alloc (.cells #[.int .i64 a.l0, .int .i64 a.l1, .int .i64 a.h0, .int .i64 a.h1, .int .i64 a.on, .slice A1 a.drain.length c1, .int .i64 a.mx, .int .i64 a.tr, .bool a.rb] 25)) = W2 at B2 Q2 Z2 N2 ⊢
  have hl2 := Blk.lt Q2.out
  have hz2 := Blk.lt Z2.out
  clear B1 Q1 N1
  go_cut [37] (fun _ wc => Below w.heap.size w wc ∧ Blk wc w.heap.size (cellsG g A c) 25)
  case first =>
    by_cases h0 : e0 = 0
    · subst h0
      have KPr : Hid (∀ w', Below w.heap.size w w' → NamesAt w' A1 c1 a.drain → Calls Tryz.prog 9 #[.agg #[.int .i64 a.l0, .int .i64 a.l1, .int .i64 a.h0, .int .i64 a.h1, .int .i64 a.on, .slice A1 a.drain.length c1, .int .i64 a.mx, .int .i64 a.tr, .bool a.rb]] w' fun e w'' => e = .returned (.tuple #[strV (textK a 7), .int .i64 0]) ∧ Below w'.heap.size w' w'') := Lib.hid (fun w' hb hn => by
        have k := print_any a A1 c1 w' (HE.out.below hb) hn
        rw [print_may HA.out] at k
        exact k)
      have hpf := parse_first HA.out
      have hlen := textK_len HA.out 7
      generalize textK a 7 = S at KPr hpf hlen
      have KF : Hid (∀ w', Below w.heap.size w w' → Calls Tryz.prog 16 #[.string ((⟨#[32, 35, 32, 102, 105, 114, 115, 116, 10]⟩ : ByteArray) ++ (⟨S.toArray⟩ : ByteArray) ++ (⟨#[10, 10]⟩ : ByteArray))] w' fun e w'' => ∃ A' c', e = .returned (.tuple #[.agg #[.int .i64 a.l0, .int .i64 a.l1, .int .i64 a.h0, .int .i64 a.h1, .int .i64 a.on, .slice A' a.drain.length c', .int .i64 a.mx, .int .i64 a.tr, .bool a.rb], .int .i64 0, .int .i64 0, .int .i64 0]) ∧ NamesAt w'' A' c' a.drain ∧ Below w'.heap.size w' w'') := Lib.hid (fun w' hb => by
        have e : (⟨#[32, 35, 32, 102, 105, 114, 115, 116, 10]⟩ : ByteArray) ++ (⟨S.toArray⟩ : ByteArray) ++ (⟨#[10, 10]⟩ : ByteArray) = ⟨(firstT ++ S ++ [10, 10]).toArray⟩ := by
          rw [← pjoin, ← pjoin]
          rfl
        rw [e]
        exact parse_names _ w' (HE.out.below hb) (by simp [firstT]; omega) hpf)
      have hS : S.length ≤ 7000 := by omega
      clear hpf hlen
      have a0 : W2.cell? ⟨w1.heap.size, 0, none⟩ = some (.int .i64 a.l0) := Blk.cell Z2.out 0
      have a1 : W2.cell? ⟨w1.heap.size, 1, none⟩ = some (.int .i64 a.l1) := Blk.cell Z2.out 1
      have a2 : W2.cell? ⟨w1.heap.size, 2, none⟩ = some (.int .i64 a.h0) := Blk.cell Z2.out 2
      have a3 : W2.cell? ⟨w1.heap.size, 3, none⟩ = some (.int .i64 a.h1) := Blk.cell Z2.out 3
      have a4 : W2.cell? ⟨w1.heap.size, 4, none⟩ = some (.int .i64 a.on) := Blk.cell Z2.out 4
      have a5 : W2.cell? ⟨w1.heap.size, 5, none⟩ = some (.slice A1 a.drain.length c1) := Blk.cell Z2.out 5
      have a6 : W2.cell? ⟨w1.heap.size, 6, none⟩ = some (.int .i64 a.mx) := Blk.cell Z2.out 6
      have a7 : W2.cell? ⟨w1.heap.size, 7, none⟩ = some (.int .i64 a.tr) := Blk.cell Z2.out 7
      have a8 : W2.cell? ⟨w1.heap.size, 8, none⟩ = some (.bool a.rb) := Blk.cell Z2.out 8
      go_wp2_with fail
      refine (KPr.out _ B2.out N2.out).mono ?_
      rintro e w3 ⟨rfl, hb3⟩
      have B3 := Lib.hid (B2.out.trans (hb3.mono B2.out.size))
      have Q3 := Lib.hid (Blk.below Q2.out hb3 hl2)
      have Z3 := Lib.hid (Blk.below Z2.out hb3 hz2)
      have N3 := Lib.hid (N2.out.below hb3)
      clear hb3 KPr a0 a1 a2 a3 a4 a5 a6 a7 a8
      have hl3 := Blk.lt Q3.out
      have hz3 := Blk.lt Z3.out
      go_wp2_with fail
      refine (KF.out _ B3.out).mono ?_
      rintro e w4 ⟨A4, c4, rfl, hn4, hb4⟩
      have B4 := Lib.hid (B3.out.trans (hb4.mono B3.out.size))
      have Q4 := Lib.hid (Blk.below Q3.out hb4 hl3)
      have Z4 := Lib.hid (Blk.below Z3.out hb4 hz3)
      have N4 := Lib.hid (N3.out.below hb4)
      have M4 := Lib.hid hn4
      clear hb4 hn4 KF
      have hl4 := Blk.lt Q4.out
      have hz4 := Blk.lt Z4.out
      go_upto_region 5 with fail
      change Code.wp _ _ _ _ (w4.alloc (.cells #[.int .i64 a.l0, .int .i64 a.l1, .int .i64 a.h0, .int .i64 a.h1, .int .i64 a.on, .slice A4 a.drain.length c4, .int .i64 a.mx, .int .i64 a.tr, .bool a.rb] 25))
      have B5 : Hid (Below w.heap.size w (w4.alloc (.cells #[.int .i64 a.l0, .int .i64 a.l1, .int .i64 a.h0, .int .i64 a.h1, .int .i64 a.on, .slice A4 a.drain.length c4, .int .i64 a.mx, .int .i64 a.tr, .bool a.rb] 25))) := Lib.hid (B4.out.alloc B4.out.size _)
      have Q5 : Hid (Blk (w4.alloc (.cells #[.int .i64 a.l0, .int .i64 a.l1, .int .i64 a.h0, .int .i64 a.h1, .int .i64 a.on, .slice A4 a.drain.length c4, .int .i64 a.mx, .int .i64 a.tr, .bool a.rb] 25)) w.heap.size (cellsG g A c) 25) := Lib.hid (Blk.alloc Q4.out _)
      have Z5 : Hid (Blk (w4.alloc (.cells #[.int .i64 a.l0, .int .i64 a.l1, .int .i64 a.h0, .int .i64 a.h1, .int .i64 a.on, .slice A4 a.drain.length c4, .int .i64 a.mx, .int .i64 a.tr, .bool a.rb] 25)) w1.heap.size #[.int .i64 a.l0, .int .i64 a.l1, .int .i64 a.h0, .int .i64 a.h1, .int .i64 a.on, .slice A1 a.drain.length c1, .int .i64 a.mx, .int .i64 a.tr, .bool a.rb] 25) := Lib.hid (Blk.alloc Z4.out _)
      have Y5 : Hid (Blk (w4.alloc (.cells #[.int .i64 a.l0, .int .i64 a.l1, .int .i64 a.h0, .int .i64 a.h1, .int .i64 a.on, .slice A4 a.drain.length c4, .int .i64 a.mx, .int .i64 a.tr, .bool a.rb] 25)) w4.heap.size #[.int .i64 a.l0, .int .i64 a.l1, .int .i64 a.h0, .int .i64 a.h1, .int .i64 a.on, .slice A4 a.drain.length c4, .int .i64 a.mx, .int .i64 a.tr, .bool a.rb] 25) := Lib.hid (Blk.new w4 _ _)
      have N5 : Hid (NamesAt (w4.alloc (.cells #[.int .i64 a.l0, .int .i64 a.l1, .int .i64 a.h0, .int .i64 a.h1, .int .i64 a.on, .slice A4 a.drain.length c4, .int .i64 a.mx, .int .i64 a.tr, .bool a.rb] 25)) A1 c1 a.drain) := Lib.hid (N4.out.below (below1 w4 _))
      have M5 : Hid (NamesAt (w4.alloc (.cells #[.int .i64 a.l0, .int .i64 a.l1, .int .i64 a.h0, .int .i64 a.h1, .int .i64 a.on, .slice A4 a.drain.length c4, .int .i64 a.mx, .int .i64 a.tr, .bool a.rb] 25)) A4 c4 a.drain) := Lib.hid (M4.out.below (below1 w4 _))
      generalize (w4.alloc (.cells #[.int .i64 a.l0, .int .i64 a.l1, .int .i64 a.h0, .int .i64 a.h1, .int .i64 a.on, .slice A4 a.drain.length c4, .int .i64 a.mx, .int .i64 a.tr, .bool a.rb] 25)) = W5 at B5 Q5 Z5 Y5 N5 M5 ⊢
      have KS : Hid (Calls Tryz.prog 19 #[.agg #[.int .i64 a.l0, .int .i64 a.l1, .int .i64 a.h0, .int .i64 a.h1, .int .i64 a.on, .slice A1 a.drain.length c1, .int .i64 a.mx, .int .i64 a.tr, .bool a.rb], .agg #[.int .i64 a.l0, .int .i64 a.l1, .int .i64 a.h0, .int .i64 a.h1, .int .i64 a.on, .slice A4 a.drain.length c4, .int .i64 a.mx, .int .i64 a.tr, .bool a.rb]] W5 fun e w' => e = .returned (.bool true) ∧ Below W5.heap.size W5 w') := Lib.hid (same_yes a A1 A4 c1 c4 _ N5.out M5.out)
      have hl5 := Blk.lt Q5.out
      clear B4 Q4 Z4 N4 M4 B3 Q3 Z3 N3 B2 Q2 Z2 N2
      have a0 : W5.cell? ⟨w1.heap.size, 0, none⟩ = some (.int .i64 a.l0) := Blk.cell Z5.out 0
      have a1 : W5.cell? ⟨w1.heap.size, 1, none⟩ = some (.int .i64 a.l1) := Blk.cell Z5.out 1
      have a2 : W5.cell? ⟨w1.heap.size, 2, none⟩ = some (.int .i64 a.h0) := Blk.cell Z5.out 2
      have a3 : W5.cell? ⟨w1.heap.size, 3, none⟩ = some (.int .i64 a.h1) := Blk.cell Z5.out 3
      have a4 : W5.cell? ⟨w1.heap.size, 4, none⟩ = some (.int .i64 a.on) := Blk.cell Z5.out 4
      have a5 : W5.cell? ⟨w1.heap.size, 5, none⟩ = some (.slice A1 a.drain.length c1) := Blk.cell Z5.out 5
      have a6 : W5.cell? ⟨w1.heap.size, 6, none⟩ = some (.int .i64 a.mx) := Blk.cell Z5.out 6
      have a7 : W5.cell? ⟨w1.heap.size, 7, none⟩ = some (.int .i64 a.tr) := Blk.cell Z5.out 7
      have a8 : W5.cell? ⟨w1.heap.size, 8, none⟩ = some (.bool a.rb) := Blk.cell Z5.out 8
      have b0 : W5.cell? ⟨w4.heap.size, 0, none⟩ = some (.int .i64 a.l0) := Blk.cell Y5.out 0
      have b1 : W5.cell? ⟨w4.heap.size, 1, none⟩ = some (.int .i64 a.l1) := Blk.cell Y5.out 1
      have b2 : W5.cell? ⟨w4.heap.size, 2, none⟩ = some (.int .i64 a.h0) := Blk.cell Y5.out 2
      have b3 : W5.cell? ⟨w4.heap.size, 3, none⟩ = some (.int .i64 a.h1) := Blk.cell Y5.out 3
      have b4 : W5.cell? ⟨w4.heap.size, 4, none⟩ = some (.int .i64 a.on) := Blk.cell Y5.out 4
      have b5 : W5.cell? ⟨w4.heap.size, 5, none⟩ = some (.slice A4 a.drain.length c4) := Blk.cell Y5.out 5
      have b6 : W5.cell? ⟨w4.heap.size, 6, none⟩ = some (.int .i64 a.mx) := Blk.cell Y5.out 6
      have b7 : W5.cell? ⟨w4.heap.size, 7, none⟩ = some (.int .i64 a.tr) := Blk.cell Y5.out 7
      have b8 : W5.cell? ⟨w4.heap.size, 8, none⟩ = some (.bool a.rb) := Blk.cell Y5.out 8
      go_wp2_with fail
      refine KS.out.mono ?_
      rintro e w6 ⟨rfl, hb6⟩
      have B6 := Lib.hid (B5.out.trans (hb6.mono B5.out.size))
      have Q6 := Lib.hid (Blk.below Q5.out hb6 hl5)
      clear hb6 KS a0 a1 a2 a3 a4 a5 a6 a7 a8 b0 b1 b2 b3 b4 b5 b6 b7 b8
      go_wp2
      go_meet
      exact ⟨B6.out, Q6.out⟩
    · have h0b : (e0 == 0) = false := by simpa using h0
      go_wp2
      go_meet
      exact ⟨B2.out, Q2.out⟩
  case rest =>
    rename_i wc
    obtain ⟨hbc, hqc⟩ := hcut
    have B3 := Lib.hid hbc
    have Q3 := Lib.hid hqc
    clear hbc hqc B2 Q2 Z2 N2 hl2 hz2 hl1
    have N3 := Lib.hid (HN.out.below B3.out)
    have KM : Hid (Calls Tryz.prog 20 #[.agg #[.int .i64 g.l0, .int .i64 g.l1, .int .i64 g.h0, .int .i64 g.h1, .int .i64 g.on, .slice A g.drain.length c, .int .i64 g.mx, .int .i64 g.tr, .bool g.rb]] wc fun e w'' => ∃ A' c', e = .returned (.agg #[.int .i64 (madeG g).l0, .int .i64 (madeG g).l1, .int .i64 (madeG g).h0, .int .i64 (madeG g).h1, .int .i64 (madeG g).on, .slice A' (madeG g).drain.length c', .int .i64 (madeG g).mx, .int .i64 (madeG g).tr, .bool (madeG g).rb]) ∧ NamesAt w'' A' c' (madeG g).drain ∧ Below wc.heap.size wc w'') := Lib.hid (made_any g A c wc N3.out)
    have hmc := made_check g
    generalize madeG g = G at KM hmc
    have a0 : wc.cell? ⟨w.heap.size, 0, none⟩ = some (.int .i64 g.l0) := Blk.cell Q3.out 0
    have a1 : wc.cell? ⟨w.heap.size, 1, none⟩ = some (.int .i64 g.l1) := Blk.cell Q3.out 1
    have a2 : wc.cell? ⟨w.heap.size, 2, none⟩ = some (.int .i64 g.h0) := Blk.cell Q3.out 2
    have a3 : wc.cell? ⟨w.heap.size, 3, none⟩ = some (.int .i64 g.h1) := Blk.cell Q3.out 3
    have a4 : wc.cell? ⟨w.heap.size, 4, none⟩ = some (.int .i64 g.on) := Blk.cell Q3.out 4
    have a5 : wc.cell? ⟨w.heap.size, 5, none⟩ = some (.slice A g.drain.length c) := Blk.cell Q3.out 5
    have a6 : wc.cell? ⟨w.heap.size, 6, none⟩ = some (.int .i64 g.mx) := Blk.cell Q3.out 6
    have a7 : wc.cell? ⟨w.heap.size, 7, none⟩ = some (.int .i64 g.tr) := Blk.cell Q3.out 7
    have a8 : wc.cell? ⟨w.heap.size, 8, none⟩ = some (.bool g.rb) := Blk.cell Q3.out 8
    go_wp2_with fail
    refine KM.out.mono ?_
    rintro e w5 ⟨A5, c5, rfl, hn5, hb5⟩
    have B5 := Lib.hid (B3.out.trans (hb5.mono B3.out.size))
    have Q5 := Lib.hid (Blk.below Q3.out hb5 (Blk.lt Q3.out))
    have N5 := Lib.hid hn5
    clear hb5 hn5 KM a0 a1 a2 a3 a4 a5 a6 a7 a8
    have a0 : w5.cell? ⟨w.heap.size, 0, none⟩ = some (.int .i64 g.l0) := Blk.cell Q5.out 0
    have a1 : w5.cell? ⟨w.heap.size, 1, none⟩ = some (.int .i64 g.l1) := Blk.cell Q5.out 1
    have a2 : w5.cell? ⟨w.heap.size, 2, none⟩ = some (.int .i64 g.h0) := Blk.cell Q5.out 2
    have a3 : w5.cell? ⟨w.heap.size, 3, none⟩ = some (.int .i64 g.h1) := Blk.cell Q5.out 3
    have a4 : w5.cell? ⟨w.heap.size, 4, none⟩ = some (.int .i64 g.on) := Blk.cell Q5.out 4
    have a5 : w5.cell? ⟨w.heap.size, 5, none⟩ = some (.slice A g.drain.length c) := Blk.cell Q5.out 5
    have a6 : w5.cell? ⟨w.heap.size, 6, none⟩ = some (.int .i64 g.mx) := Blk.cell Q5.out 6
    have a7 : w5.cell? ⟨w.heap.size, 7, none⟩ = some (.int .i64 g.tr) := Blk.cell Q5.out 7
    have a8 : w5.cell? ⟨w.heap.size, 8, none⟩ = some (.bool g.rb) := Blk.cell Q5.out 8
    have f0 : w5.frozen? ⟨w.heap.size, 0, none⟩ = false := Blk.free Q5.out 0
    have f1 : w5.frozen? ⟨w.heap.size, 1, none⟩ = false := Blk.free Q5.out 1
    have f2 : w5.frozen? ⟨w.heap.size, 2, none⟩ = false := Blk.free Q5.out 2
    have f3 : w5.frozen? ⟨w.heap.size, 3, none⟩ = false := Blk.free Q5.out 3
    have f4 : w5.frozen? ⟨w.heap.size, 4, none⟩ = false := Blk.free Q5.out 4
    have f5 : w5.frozen? ⟨w.heap.size, 5, none⟩ = false := Blk.free Q5.out 5
    have f6 : w5.frozen? ⟨w.heap.size, 6, none⟩ = false := Blk.free Q5.out 6
    have f7 : w5.frozen? ⟨w.heap.size, 7, none⟩ = false := Blk.free Q5.out 7
    have f8 : w5.frozen? ⟨w.heap.size, 8, none⟩ = false := Blk.free Q5.out 8
    have QX : Hid (Blk (set9 w5 w.heap.size (.int .i64 G.l0) (.int .i64 G.l1) (.int .i64 G.h0) (.int .i64 G.h1) (.int .i64 G.on) (.slice A5 G.drain.length c5) (.int .i64 G.mx) (.int .i64 G.tr) (.bool G.rb)) w.heap.size (cellsG G A5 c5) 25) := Lib.hid (blk9 Q5.out _ _ _ _ _ _ _ _ _)
    have BX : Hid (Below w.heap.size w (set9 w5 w.heap.size (.int .i64 G.l0) (.int .i64 G.l1) (.int .i64 G.h0) (.int .i64 G.h1) (.int .i64 G.on) (.slice A5 G.drain.length c5) (.int .i64 G.mx) (.int .i64 G.tr) (.bool G.rb))) := Lib.hid (below9 B5.out (Nat.le_refl _) _ _ _ _ _ _ _ _ _)
    have NX : Hid (NamesAt (set9 w5 w.heap.size (.int .i64 G.l0) (.int .i64 G.l1) (.int .i64 G.h0) (.int .i64 G.h1) (.int .i64 G.on) (.slice A5 G.drain.length c5) (.int .i64 G.mx) (.int .i64 G.tr) (.bool G.rb)) A5 c5 G.drain) := Lib.hid (by
      have K := keep9 w5 w.heap.size (.int .i64 G.l0) (.int .i64 G.l1) (.int .i64 G.h0) (.int .i64 G.h1) (.int .i64 G.on) (.slice A5 G.drain.length c5) (.int .i64 G.mx) (.int .i64 G.tr) (.bool G.rb)
      refine ⟨fun j y hj => ?_, N5.out.le, N5.out.most, N5.out.big⟩
      obtain ⟨b, o, hA, hc⟩ := N5.out.cells j y hj
      refine ⟨b, o, hA, K.cell hc (fun e => ?_)⟩
      subst e
      obtain ⟨t7, ht7⟩ : ∃ t, y = strV t := by
        simp only [strC, List.getElem?_map, Option.map_eq_some_iff] at hj
        obtain ⟨t, _, h⟩ := hj
        exact ⟨t, h.symm⟩
      rw [ht7] at hc
      exact gap9 Q5.out hc)
    have hSl := textK_len hmc 7
    obtain ⟨ca, cb, cz, hcut, hcl, hct⟩ := cut_turn hmc
    have hpt := parse_twice hmc
    have hcount := count_rows hmc
    obtain ⟨n, hn⟩ : ∃ n, (restL G 0).length = n := ⟨_, rfl⟩
    have hn7 : n ≤ 7 := by rw [← hn]; exact rest_seven G
    rw [hn] at hct hpt hcount
    have KPr : Hid (∀ w', Below w.heap.size w w' → NamesAt w' A5 c5 G.drain → Calls Tryz.prog 9 #[.agg #[.int .i64 G.l0, .int .i64 G.l1, .int .i64 G.h0, .int .i64 G.h1, .int .i64 G.on, .slice A5 G.drain.length c5, .int .i64 G.mx, .int .i64 G.tr, .bool G.rb]] w' fun e w'' => e = .returned (.tuple #[strV (textK G 7), .int .i64 0]) ∧ Below w'.heap.size w' w'') := Lib.hid (fun w' hb hn => by
      have k := print_any G A5 c5 w' (HE.out.below hb) hn
      rw [print_may hmc] at k
      exact k)
    generalize textK G 7 = S at KPr hSl hcut hpt hcount
    have hS : S.length ≤ 7000 := by omega
    have KCo : Hid (∀ w', Calls Tryz.prog 21 #[strV S, .string ⟨#[10]⟩] w' fun e w'' => e = .returned (.int .i64 (n : Int)) ∧ w'' = w') := Lib.hid (fun w' => by
      have k := Tryz.strings_Count_one ⟨S.toArray⟩ 10 w'
      rw [show Lib.countByte (⟨S.toArray⟩ : ByteArray).data.toList 10 = n from hcount] at k
      exact k)
    have KCu := Lib.hid hcut
    rcases hD : parseP (S ++ S) with ⟨d2, l2, k2, h2⟩
    have KD : Hid (∀ w', Below w.heap.size w w' → Calls Tryz.prog 16 #[.string ((⟨S.toArray⟩ : ByteArray) ++ (⟨S.toArray⟩ : ByteArray))] w' fun e w'' => ∃ A' c', e = .returned (.tuple #[.agg #[.int .i64 d2.l0, .int .i64 d2.l1, .int .i64 d2.h0, .int .i64 d2.h1, .int .i64 d2.on, .slice A' d2.drain.length c', .int .i64 d2.mx, .int .i64 d2.tr, .bool d2.rb], .int .i64 l2, .int .i64 k2, .int .i64 h2]) ∧ NamesAt w'' A' c' d2.drain ∧ Below w'.heap.size w' w'') := Lib.hid (fun w' hb => by
      rw [pjoin]
      exact parse_names _ w' (HE.out.below hb) (by simp; omega) hD)
    have HD2 : Hid (0 < n → l2 = (n : Int) + 1 ∧ k2 = 1 ∧ h2 = 4) := Lib.hid (fun h => by
      have := hpt h
      rw [hD] at this
      cases this
      exact ⟨rfl, rfl, rfl⟩)
    rcases hF : parseP (cb ++ ca) with ⟨d3, l3, k3, h3⟩
    have KF : Hid (∀ w', Below w.heap.size w w' → Calls Tryz.prog 16 #[.string ((⟨cb.toArray⟩ : ByteArray) ++ (⟨ca.toArray⟩ : ByteArray))] w' fun e w'' => ∃ A' c', e = .returned (.tuple #[.agg #[.int .i64 d3.l0, .int .i64 d3.l1, .int .i64 d3.h0, .int .i64 d3.h1, .int .i64 d3.on, .slice A' d3.drain.length c', .int .i64 d3.mx, .int .i64 d3.tr, .bool d3.rb], .int .i64 l3, .int .i64 k3, .int .i64 h3]) ∧ NamesAt w'' A' c' d3.drain ∧ Below w'.heap.size w' w'') := Lib.hid (fun w' hb => by
      rw [pjoin]
      exact parse_names _ w' (HE.out.below hb) (by omega) hF)
    have HF2 : Hid (2 ≤ n → l3 = (n : Int) ∧ k3 = 1 ∧ h3 = 4) := Lib.hid (fun h => by
      obtain ⟨q, hq⟩ := hct h
      rw [hF] at hq
      cases hq
      exact ⟨rfl, rfl, rfl⟩)
    have hcal : ca.length ≤ 7000 := by rw [List.length_append] at hcl; omega
    have hcbl : cb.length ≤ 7000 := by rw [List.length_append] at hcl; omega
    clear hD hF hpt hct hcount hcut hn hSl hcl
    go_upto_region 8 with fail
    change Code.wp _ _ _ _ (set9 w5 w.heap.size (.int .i64 G.l0) (.int .i64 G.l1) (.int .i64 G.h0) (.int .i64 G.h1) (.int .i64 G.on) (.slice A5 G.drain.length c5) (.int .i64 G.mx) (.int .i64 G.tr) (.bool G.rb))
    generalize (set9 w5 w.heap.size (.int .i64 G.l0) (.int .i64 G.l1) (.int .i64 G.h0) (.int .i64 G.h1) (.int .i64 G.on) (.slice A5 G.drain.length c5) (.int .i64 G.mx) (.int .i64 G.tr) (.bool G.rb)) = W6 at QX BX NX ⊢
    clear Q5 B5 N5 N3 Q3 B3 a0 a1 a2 a3 a4 a5 a6 a7 a8 f0 f1 f2 f3 f4 f5 f6 f7 f8
    have a0 : W6.cell? ⟨w.heap.size, 0, none⟩ = some (.int .i64 G.l0) := Blk.cell QX.out 0
    have a1 : W6.cell? ⟨w.heap.size, 1, none⟩ = some (.int .i64 G.l1) := Blk.cell QX.out 1
    have a2 : W6.cell? ⟨w.heap.size, 2, none⟩ = some (.int .i64 G.h0) := Blk.cell QX.out 2
    have a3 : W6.cell? ⟨w.heap.size, 3, none⟩ = some (.int .i64 G.h1) := Blk.cell QX.out 3
    have a4 : W6.cell? ⟨w.heap.size, 4, none⟩ = some (.int .i64 G.on) := Blk.cell QX.out 4
    have a5 : W6.cell? ⟨w.heap.size, 5, none⟩ = some (.slice A5 G.drain.length c5) := Blk.cell QX.out 5
    have a6 : W6.cell? ⟨w.heap.size, 6, none⟩ = some (.int .i64 G.mx) := Blk.cell QX.out 6
    have a7 : W6.cell? ⟨w.heap.size, 7, none⟩ = some (.int .i64 G.tr) := Blk.cell QX.out 7
    have a8 : W6.cell? ⟨w.heap.size, 8, none⟩ = some (.bool G.rb) := Blk.cell QX.out 8
    go_wp2_with fail
    refine (KPr.out _ BX.out NX.out).mono ?_
    rintro e w7 ⟨rfl, hb7⟩
    have B7 := Lib.hid (BX.out.trans (hb7.mono BX.out.size))
    clear hb7 KPr a0 a1 a2 a3 a4 a5 a6 a7 a8 QX NX BX
    go_wp2_with fail
    refine (KCo.out _).mono ?_
    rintro e w8 ⟨rfl, rfl⟩
    go_wp2_with fail
    refine (KD.out _ B7.out).mono ?_
    rintro e w9 ⟨A9, c9, rfl, -, hb9⟩
    have B9 := Lib.hid (B7.out.trans (hb9.mono B7.out.size))
    clear hb9 KD KCo
    go_upto_region 13 with fail
    change Code.wp _ _ _ _ (w9.alloc (.cells #[.int .i64 d2.l0, .int .i64 d2.l1, .int .i64 d2.h0, .int .i64 d2.h1, .int .i64 d2.on, .slice A9 d2.drain.length c9, .int .i64 d2.mx, .int .i64 d2.tr, .bool d2.rb] 25))
    have B10 : Hid (Below w.heap.size w (w9.alloc (.cells #[.int .i64 d2.l0, .int .i64 d2.l1, .int .i64 d2.h0, .int .i64 d2.h1, .int .i64 d2.on, .slice A9 d2.drain.length c9, .int .i64 d2.mx, .int .i64 d2.tr, .bool d2.rb] 25))) := Lib.hid (B9.out.alloc B9.out.size _)
    generalize (w9.alloc (.cells #[.int .i64 d2.l0, .int .i64 d2.l1, .int .i64 d2.h0, .int .i64 d2.h1, .int .i64 d2.on, .slice A9 d2.drain.length c9, .int .i64 d2.mx, .int .i64 d2.tr, .bool d2.rb] 25)) = W10 at B10 ⊢
    clear B9 B7
    have n0 : (0 : Int) ≤ (n : Int) := by omega
    have n7 : (n : Int) ≤ 7 := by omega
    have q1 : ((n : Int) + 1 != (n : Int) + 1) = false := by simp
    have q2 : ((n : Int) == (n : Int)) = true := by simp
    by_cases h1 : 0 < n
    · obtain ⟨rfl, rfl, rfl⟩ := HD2.out h1
      have h1i : (0 : Int) < (n : Int) := by omega
      have h1b : decide (0 < n) = true := decide_eq_true h1
      go_wp2_with fail
      refine (KCu.out _).mono ?_
      rintro e w11 ⟨rfl, nn, rfl⟩
      go_wp2_with fail
      refine (KF.out _ (belowN B10.out nn)).mono ?_
      rintro e w12 ⟨A12, c12, rfl, -, hb12⟩
      have B12 := Lib.hid ((belowN B10.out nn).trans (hb12.mono (belowN B10.out nn).size))
      clear hb12 KF KCu
      by_cases h2 : n < 2
      · have h2i : (n : Int) < 2 := by omega
        have h2b : decide (n < 2) = true := decide_eq_true h2
        go_wp2_with fail
        refine (gworks_any _ (HE.out.below B12.out)).mono ?_
        rintro e w13 ⟨rfl, hb13⟩
        have B13 := Lib.hid (B12.out.trans (hb13.mono B12.out.size))
        clear hb13
        go_wp2
        go_ret
        exact ⟨rfl, B13.out⟩
      · obtain ⟨rfl, rfl, rfl⟩ := HF2.out (by omega)
        have h2i : ¬ (n : Int) < 2 := by omega
        have h2b : decide (n < 2) = false := decide_eq_false h2
        go_wp2_with fail
        refine (gworks_any _ (HE.out.below B12.out)).mono ?_
        rintro e w13 ⟨rfl, hb13⟩
        have B13 := Lib.hid (B12.out.trans (hb13.mono B12.out.size))
        clear hb13
        go_wp2
        go_ret
        exact ⟨rfl, B13.out⟩
    · have h1i : ¬ (0 : Int) < (n : Int) := by omega
      have h1b : decide (0 < n) = false := decide_eq_false h1
      have h2 : n < 2 := by omega
      have h2i : (n : Int) < 2 := by omega
      have h2b : decide (n < 2) = true := decide_eq_true h2
      go_wp2_with fail
      refine (KCu.out _).mono ?_
      rintro e w11 ⟨rfl, nn, rfl⟩
      go_wp2_with fail
      refine (KF.out _ (belowN B10.out nn)).mono ?_
      rintro e w12 ⟨A12, c12, rfl, -, hb12⟩
      have B12 := Lib.hid ((belowN B10.out nn).trans (hb12.mono (belowN B10.out nn).size))
      clear hb12 KF KCu
      go_wp2_with fail
      refine (gworks_any _ (HE.out.below B12.out)).mono ?_
      rintro e w13 ⟨rfl, hb13⟩
      have B13 := Lib.hid (B12.out.trans (hb13.mono B12.out.size))
      clear hb13
      go_wp2
      go_ret
      exact ⟨rfl, B13.out⟩
end Go.Proofs.YthbplchbolghjaaGreatDoor
