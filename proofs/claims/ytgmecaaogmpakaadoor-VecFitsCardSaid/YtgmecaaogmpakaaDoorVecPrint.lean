/- What Print, the program's, answers of every row: as a plain function. Conditions: the names of the places, and the library's table of powers of ten, lie as they were laid. -/
import Derived.Test.YtgmecaaogmpakaaDoorVecCheck
import Derived.Test.YtgmecaaogmpakaaDoorVecNames
import Derived.Test.YtgmecaaogmpakaaDoorIs
import Derived.Lib.Join
namespace Go.Proofs.YtgmecaaogmpakaaDoor
open Go.RowKit

/-- A part's text; those of the first k places that are not 0; a row's text. -/
def partT (x : Nat → Int) (k : Nat) : List UInt8 := nameL k ++ [61] ++ (printL (x k) (decide (k = 0))).1
def partsT (x : Nat → Int) : Nat → List (List UInt8)
  | 0 => []
  | k + 1 => if x k = 0 then partsT x k else partsT x k ++ [partT x k]
def printV (x : Nat → Int) : List UInt8 × Int := if chkV x ≠ 0 then ([], chkV x) else (Lib.join (partsT x 5) [44], 0)

theorem name_len (k : Nat) : (nameL k).length ≤ 5 := by
  unfold nameL
  split <;> decide
theorem milli_len (n : Int) (h0 : 0 ≤ n) (h1 : n ≤ 1099511627776) : (milliL n).length ≤ 24 := by
  unfold milliL dec
  have a := dec_len (n / 1000) (by omega) (by omega)
  have b := dec_len n (by omega) (by omega)
  split
  · omega
  · simp; omega
theorem whole_len (n : Int) (h0 : 0 ≤ n) (h1 : n ≤ 1099511627776) : (wholeL n).length ≤ 24 := by
  unfold wholeL dec
  have a := dec_len (n / 1073741824) (by omega) (by omega)
  have b := dec_len n (by omega) (by omega)
  have c := dec_len (n / 1048576) (by omega) (by omega)
  have d := dec_len (n / 1024) (by omega) (by omega)
  repeat' split
  all_goals (simp; try omega)
theorem print_len (n : Int) (m : Bool) (h0 : 0 ≤ n) (h1 : n ≤ 1099511627776) : (printL n m).1.length ≤ 24 := by
  unfold printL
  rw [if_neg (by omega)]
  cases m
  · exact whole_len n h0 h1
  · exact milli_len n h0 h1
theorem print_ok (n : Int) (m : Bool) (h0 : 0 ≤ n) (h1 : n ≤ 1099511627776) : printL n m = ((printL n m).1, 0) := by
  unfold printL
  rw [if_neg (by omega)]
  cases m <;> rfl
theorem partT_len (x : Nat → Int) (k : Nat) (h0 : 0 ≤ x k) (h1 : x k ≤ 1099511627776) : (partT x k).length ≤ 30 := by
  unfold partT
  have a := name_len k
  have b := print_len (x k) (decide (k = 0)) h0 h1
  simp only [List.length_append, List.length_cons, List.length_nil]
  omega
theorem partsT_len (x : Nat → Int) : ∀ k, (partsT x k).length ≤ k
  | 0 => Nat.le_refl _
  | k + 1 => by
    rw [partsT]
    have := partsT_len x k
    split
    · omega
    · simp; omega

theorem own_below {w w' : World} {base : Nat} {e : TypeId} {size : Nat} {v : Value} {n : Nat} {xs : List Value} (h : w.ownsRow base e size v n xs) (hb : Below w.heap.size w w') : w'.ownsRow base e size v n xs := by
  obtain ⟨h1, h2⟩ := h
  refine ⟨h1, ?_⟩
  rcases h2 with h2 | ⟨g, cap, cur, hv, hg, hc, h3⟩
  · exact .inl h2
  · refine .inr ⟨g, cap, cur, hv, hg, ?_, h3⟩
    have hlt : g < w.heap.size := by
      rcases Nat.lt_or_ge g w.heap.size with q | q
      · exact q
      · rw [Array.getElem?_eq_none q] at hc; cases hc
    rw [hb.block g hlt, hc]

def strV (t : List UInt8) : Value := .string ⟨t.toArray⟩
theorem info_str : (Tryd.prog.info? 9).map (fun i => (i.zero, i.size, i.bytes)) = some (some (.string ⟨#[]⟩), 1, 16) := by kernel_rfl
theorem own_ge' {w : World} {base : Nat} {e : TypeId} {v : Value} {n : Nat} {xs : List Value} (h : w.ownsRow base e 1 v n xs) {j : Nat} (hj : v.ownBlock = some j) : base ≤ j := (h.lt j hj).1

theorem join_len : ∀ (xs : List (List UInt8)) (n : Nat), (∀ t ∈ xs, t.length ≤ n) → (Lib.join xs [44]).length ≤ xs.length * (n + 1)
  | [], n, _ => by simp [Lib.join]
  | [t], n, h => by
    have := h t (by simp)
    simp [Lib.join, List.intercalate]
    omega
  | t :: u :: xs, n, h => by
    have h1 := h t (by simp)
    have h2 := join_len (u :: xs) n (fun y hy => h y (by simp [hy]))
    have e : Lib.join (t :: u :: xs) [44] = t ++ [44] ++ Lib.join (u :: xs) [44] := by simp [Lib.join, List.intercalate, List.intersperse]
    rw [e]
    simp only [List.length_append, List.length_cons, List.length_nil] at h2 ⊢
    rw [Nat.succ_mul]
    omega
theorem parts_mem (x : Nat → Int) : ∀ k, ∀ t ∈ partsT x k, ∃ j, j < k ∧ t = partT x j
  | 0, t, h => by simp [partsT] at h
  | k + 1, t, h => by
    rw [partsT] at h
    split at h
    · obtain ⟨j, hj, e⟩ := parts_mem x k t h
      exact ⟨j, by omega, e⟩
    · simp only [List.mem_append, List.mem_singleton] at h
      rcases h with h | h
      · obtain ⟨j, hj, e⟩ := parts_mem x k t h
        exact ⟨j, by omega, e⟩
      · exact ⟨k, by omega, h⟩

/-- The parts that were collected, joined. -/
theorem join_own {x : Nat → Int} {W w : World} {v : Value} (h : w.ownsRow W.heap.size 9 1 v (partsT x 5).length ((partsT x 5).map strV)) (hb : Below W.heap.size W w) :
    ∃ A c, v = .slice A (partsT x 5).length c ∧ ((∀ j, j < 5 → 0 ≤ x j ∧ x j ≤ top) → Calls Tryd.prog 45 #[.slice A (partsT x 5).length c, .string ⟨#[44]⟩] w fun e w' => e = .returned (.string ⟨(Lib.join (partsT x 5) [44]).toArray⟩) ∧ Below w.heap.size w w') := by
  have hn : partsT x 5 = [] → ∀ A c, Calls Tryd.prog 45 #[.slice A (partsT x 5).length c, .string ⟨#[44]⟩] w fun e w' => e = .returned (.string ⟨(Lib.join (partsT x 5) [44]).toArray⟩) ∧ Below w.heap.size w w' := by
    intro e A c
    rw [e]
    refine (Tryd.strings_Join_none A c ⟨#[44]⟩ w).mono ?_
    rintro e w' ⟨rfl, rfl⟩
    exact ⟨rfl, Below.refl _ _⟩
  rcases h.2 with ⟨rfl, h0⟩ | ⟨g, cap, cur, rfl, hg, hc, h1, h2, h3, h4⟩
  · refine ⟨none, 0, by rw [h0], fun _ => hn (List.length_eq_zero_iff.1 h0) _ _⟩
  · refine ⟨some ⟨g, 0, none⟩, cap, rfl, fun hx => ?_⟩
    have hl := partsT_len x 5
    have hlt : g < w.heap.size := by
      rcases Nat.lt_or_ge g w.heap.size with q | q
      · exact q
      · rw [Array.getElem?_eq_none q] at hc; cases hc
    have hm : ((partsT x 5).map (fun t => (⟨t.toArray⟩ : ByteArray))).map (·.data.toList) = partsT x 5 := by
      rw [List.map_map]
      exact List.map_id' _
    have hlen : (partsT x 5).length = ((partsT x 5).map (fun t => (⟨t.toArray⟩ : ByteArray))).length := by simp
    have hj := join_len (partsT x 5) 30 (fun t ht => by
      obtain ⟨j, hj, rfl⟩ := parts_mem x 5 t ht
      exact partT_len x j (hx j hj).1 (by have := (hx j hj).2; unfold top at this; exact this))
    have k := Tryd.strings_Join g 0 cap ((partsT x 5).map (fun t => (⟨t.toArray⟩ : ByteArray))) ⟨#[44]⟩ w ?_ hlt (by rw [← hlen]; omega) (by rw [← hlen]; omega) ?_
    · rw [hm, ← hlen] at k
      exact k
    · intro j y hy
      rw [cell_of_row w g _ cur _ _ hc, Nat.zero_add]
      rw [List.getElem?_map] at hy
      cases hq : (partsT x 5)[j]? with
      | none => rw [hq] at hy; cases hy
      | some t =>
        rw [hq] at hy
        simp only [Option.map_some, Option.some.injEq] at hy
        subst hy
        have hjl : j < (partsT x 5).length := (List.getElem?_eq_some_iff.1 hq).1
        have e : (cur.toList.take ((partsT x 5).length * 1))[j]? = some (strV t) := by
          rw [h4, List.getElem?_map, hq]
          rfl
        rw [List.getElem?_take_of_lt (by omega)] at e
        rw [Array.getElem?_toList] at e
        exact e
    · rw [hm]
      show (Lib.join (partsT x 5) [44]).length ≤ _
      have : (partsT x 5).length * (30 + 1) ≤ 5 * 31 := Nat.mul_le_mul hl (Nat.le_refl _)
      omega

set_option maxRecDepth 100000 in
set_option maxHeartbeats 1000000 in
theorem vprint_ok (x : Nat → Int) (w : World) (hc : chkV x = 0) (hx : ∀ j, j < 5 → 0 ≤ x j ∧ x j ≤ top) (hn : NamesAt w) (ht : Tab w) :
    Calls Tryd.prog 23 #[.agg #[.int .i64 (x 0), .int .i64 (x 1), .int .i64 (x 2), .int .i64 (x 3), .int .i64 (x 4)]] w fun e w' => e = .returned (.tuple #[.string ⟨(Lib.join (partsT x 5) [44]).toArray⟩, .int .i64 0]) ∧ Below w.heap.size w w' := by
  have HN := Lib.hid hn
  have HT := Lib.hid ht
  have HX := Lib.hid hx
  have HC := Lib.hid hc
  clear hn ht hx hc
  obtain ⟨i0, hi0, hz0, hz1, hz2⟩ := info_parts info_str
  go_enter Tryd.func23, Tryd.ntmps23
  go_wp2_with fail
  refine (vcheck_any x _).mono ?_
  rw [HC.out]
  rintro e w1 ⟨rfl, hb⟩
  have HB := Lib.hid ((below1 w _).trans (hb.mono (below1 w _).size))
  have hrow := (RowAt.new w x).below hb (RowAt.new w x).lt
  clear hb
  have Hrow := Lib.hid hrow
  clear hrow
  go_wp2_with (refine wpList_load_row rfl 24 (.tmp 1) rfl w.heap.size rfl 24 _ (0, 0) _ Hrow.out Tryd.underlying24 rfl vec_size ?_)
  go_loopw [5, 16] (fun v i wr => ∃ k : Nat, k ≤ 5 ∧ i = .int .i64 k ∧ wr.ownsRow w.heap.size 9 1 v (partsT x k).length ((partsT x k).map strV) ∧ Below w.heap.size w wr) (fun _ i _ => 5 - (intOf i).toNat)
  case atStart => exact ⟨0, by omega, rfl, ⟨by simp [partsT], .inl ⟨rfl, rfl⟩⟩, HB.out⟩
  case round =>
    obtain ⟨k, hk, rfl, hown, hbw⟩ := hrel
    have Hown := Lib.hid hown
    have Hbw := Lib.hid hbw
    clear hown hbw
    have hlen := partsT_len x k
    by_cases hlt : k < 5
    · have hi := fun w => idx_row x k hlt w
      obtain ⟨hx0, hx1⟩ := HX.out k hlt
      unfold top at hx1
      by_cases hz : x k = 0
      · have hzb : (x k == 0) = true := by simpa using hz
        have Hz := Lib.hid hz
        clear hz
        go_wp2
        go_roundw
        case rel => exact ⟨k + 1, by omega, by go_num, by rw [partsT, if_pos Hz.out]; exact Hown.out, Hbw.out⟩
        case measure => simp [intOf]; omega
      · have hzb : (x k == 0) = false := by simpa using hz
        have Hz := Lib.hid hz
        clear hz
        go_wp2_with fail
        refine (milli_any k _).mono ?_
        rintro e w2 ⟨rfl, rfl⟩
        go_wp2_with fail
        refine (print_is (x k) (decide (k = 0)) _ _ 0 (HT.out.below Hbw.out) (print_ok (x k) _ hx0 hx1)).mono ?_
        rintro e w2 ⟨rfl, hb2⟩
        have Hown1 := Lib.hid (own_below Hown.out hb2)
        have Hbw1 := Lib.hid (Hbw.out.trans (hb2.mono Hbw.out.size))
        have hwz := Hbw1.out.size
        clear hb2 hi
        have hcn := (HN.out.below Hbw1.out).2 k hlt
        have nl := name_len k
        have pl := print_len (x k) (decide (k = 0)) hx0 hx1
        have j1 := join_l Tryd.prog w2 (nameL k) [61] (by omega) (by decide)
        have j2 := join_l Tryd.prog w2 (nameL k ++ [61]) (printL (x k) (decide (k = 0))).1 (by simp; omega) (by omega)
        have HP : Hid (partT x k = nameL k ++ [61] ++ (printL (x k) (decide (k = 0))).1) := rfl
        rw [← HP.out] at j2
        generalize nameL k ++ [61] = y at j1 j2
        clear HP
        go_wp2_with (at_builtin; refine wpList_append_own _ rfl _ _ 55 rfl w.heap.size 9 i0 (.string ⟨#[]⟩) 1 16 Tryd.underlying55 hi0 hz0 hz1 hz2 rfl (by decide) _ _ _ rfl (Hown1.out.alloc _) ⟨w2.heap.size, 0, none⟩ 1 1 [strV (partT x k)] rfl rfl ?c1 ?c2 ?c3 ?c4 ?c5 ?_)
        case c1 =>
          intro j u hj
          match j, hj with
          | 0, hj => simp at hj; subst hj; simp [Addr.add, strV]
        case c2 => first | rfl | (intro u hu; simp at hu; subst hu; rfl)
        case c3 => unfold maxLen; omega
        case c4 => omega
        case c5 => simp; omega
        intro v' w3 hown' hgrow' _
        have Hown2 := Lib.hid hown'
        have Hbw2 := Lib.hid ((Hbw1.out.alloc Hbw1.out.size (.cells #[strV (partT x k)] 9)).grown hgrow' (by simp; omega) (fun j hj => own_ge' Hown1.out hj))
        clear hown' hgrow' hcn j1 j2
        go_wp2
        go_roundw
        case rel => exact ⟨k + 1, by omega, by go_num, by rw [partsT, if_neg Hz.out, List.map_append, List.length_append]; exact Hown2.out, Hbw2.out⟩
        case measure => simp [intOf]; omega
    · obtain rfl : k = 5 := by omega
      obtain ⟨A, c, rfl, hjoin⟩ := join_own (x := x) Hown.out Hbw.out
      have HJ := Lib.hid hjoin
      clear hjoin
      go_wp2_with fail
      refine (HJ.out HX.out).mono ?_
      rintro e w2 ⟨rfl, hb2⟩
      have Hb2 := Lib.hid (Hbw.out.trans (hb2.mono Hbw.out.size))
      clear hb2
      go_wp2
      go_ret2
      exact ⟨rfl, Hb2.out⟩

set_option maxRecDepth 100000 in
set_option maxHeartbeats 1000000 in
theorem vprint_no (x : Nat → Int) (w : World) (hc : chkV x ≠ 0) :
    Calls Tryd.prog 23 #[.agg #[.int .i64 (x 0), .int .i64 (x 1), .int .i64 (x 2), .int .i64 (x 3), .int .i64 (x 4)]] w fun e w' => e = .returned (.tuple #[.string ⟨#[]⟩, .int .i64 (chkV x)]) ∧ Below w.heap.size w w' := by
  have hcb : (chkV x != 0) = true := by simpa using hc
  have HC := Lib.hid hc
  clear hc
  go_enter Tryd.func23, Tryd.ntmps23
  go_wp2_with fail
  refine (vcheck_any x _).mono ?_
  rintro e w1 ⟨rfl, hb⟩
  have HB := Lib.hid ((below1 w _).trans (hb.mono (below1 w _).size))
  clear hb
  go_wp2
  go_ret2
  exact ⟨rfl, HB.out⟩

theorem vprint_is (x : Nat → Int) (w : World) (t : List UInt8) (e0 : Int) (hn : NamesAt w) (ht : Tab w) (h : printV x = (t, e0)) :
    Calls Tryd.prog 23 #[.agg #[.int .i64 (x 0), .int .i64 (x 1), .int .i64 (x 2), .int .i64 (x 3), .int .i64 (x 4)]] w fun e w' => e = .returned (.tuple #[.string ⟨t.toArray⟩, .int .i64 e0]) ∧ Below w.heap.size w w' := by
  unfold printV at h
  by_cases hc : chkV x = 0
  · rw [if_neg (by simpa using hc)] at h
    simp only [Prod.mk.injEq] at h
    obtain ⟨rfl, rfl⟩ := h
    rcases chkV_cases x with h2 | h2 | ⟨_, h2⟩
    · rw [hc] at h2; cases h2
    · rw [hc] at h2; cases h2
    · exact vprint_ok x w hc h2 hn ht
  · rw [if_pos hc] at h
    simp only [Prod.mk.injEq] at h
    obtain ⟨rfl, rfl⟩ := h
    exact vprint_no x w hc

end Go.Proofs.YtgmecaaogmpakaaDoor
