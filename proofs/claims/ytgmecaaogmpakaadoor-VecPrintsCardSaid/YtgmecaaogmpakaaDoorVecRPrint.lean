/- What the document's Print answers of every row: as a plain function. Condition: the library's table of powers of ten lies as it was laid. -/
import Derived.Test.YtgmecaaogmpakaaDoorVecPrint
import Derived.Test.YtgmecaaogmpakaaDoorVecFits
import Derived.Test.YtgmecaaogmpakaaDoorRefPrint
namespace Go.Proofs.YtgmecaaogmpakaaDoor
open Go.RowKit

theorem names_any (w : World) : Calls Tryd.prog 46 #[] w fun e w' => e = .returned (.slice (some ⟨w.heap.size, 0, none⟩) 5 5) ∧ w' = w.alloc (.cells #[.string ⟨#[99, 112, 117]⟩, .string ⟨#[109, 101, 109]⟩, .string ⟨#[100, 105, 115, 107]⟩, .string ⟨#[115, 108, 111, 116, 115]⟩, .string ⟨#[101, 120, 116, 114, 97]⟩] 9) := by
  go_enter Tryd.func46, Tryd.ntmps46
  go_wp2
  go_ret
  exact ⟨rfl, rfl⟩

/-- The names lie in a block. -/
def NmAt (w : World) (b : Nat) : Prop := b < w.heap.size ∧ ∀ k, k < 5 → w.cell? ⟨b, k, none⟩ = some (.string ⟨(nameL k).toArray⟩)
theorem NmAt.below {w w' : World} {b : Nat} (h : NmAt w b) (hb : Below w.heap.size w w') : NmAt w' b :=
  ⟨Nat.lt_of_lt_of_le h.1 hb.size, fun k hk => (hb.cell (p := ⟨b, k, none⟩) h.1).trans (h.2 k hk)⟩
theorem nm_new (w : World) : NmAt (w.alloc (.cells #[.string ⟨#[99, 112, 117]⟩, .string ⟨#[109, 101, 109]⟩, .string ⟨#[100, 105, 115, 107]⟩, .string ⟨#[115, 108, 111, 116, 115]⟩, .string ⟨#[101, 120, 116, 114, 97]⟩] 9)) w.heap.size := by
  refine ⟨?_, fun k hk => ?_⟩
  · show _ < (w.heap.push _).size
    simp
  · rw [cell_of_row _ _ k _ _ _ (heap_alloc_new _ _)]
    have hk : k = 0 ∨ k = 1 ∨ k = 2 ∨ k = 3 ∨ k = 4 := by omega
    rcases hk with rfl | rfl | rfl | rfl | rfl <;> rfl

theorem join_m (P : Program) (w : World) (s t : List UInt8) (hs : s.length ≤ 1000) (ht : t.length ≤ 1000) : (Op.stringOp .add ⟨s.toArray⟩ ⟨t.toArray⟩).run P w = .ok (.string ⟨(s ++ t).toArray⟩) w :=
  run_string_add_lists w s t (by omega) (by omega)
theorem join_snoc (xs : List (List UInt8)) (t : List UInt8) (h : xs ≠ []) : Lib.join (xs ++ [t]) [44] = Lib.join xs [44] ++ [44] ++ t := by
  induction xs with
  | nil => exact absurd rfl h
  | cons a l ih =>
    cases l with
    | nil => simp [Lib.join, List.intercalate, List.intersperse]
    | cons b l =>
      have e1 : ∀ (u v : List UInt8) (r : List (List UInt8)), Lib.join (u :: v :: r) [44] = u ++ [44] ++ Lib.join (v :: r) [44] := fun u v r => by simp [Lib.join, List.intercalate, List.intersperse]
      have e2 : (a :: b :: l) ++ [t] = a :: b :: (l ++ [t]) := rfl
      have e3 := ih (by simp)
      rw [e2, e1, e1, show b :: (l ++ [t]) = (b :: l) ++ [t] from rfl, e3]
      simp
theorem join_one (t : List UInt8) : Lib.join ([] ++ [t]) [44] = t := by simp [Lib.join, List.intercalate]
theorem partT_ne (x : Nat → Int) (k : Nat) : partT x k ≠ [] := by
  unfold partT nameL
  split <;> simp
theorem join_ne (x : Nat → Int) (k : Nat) (h : partsT x k ≠ []) : Lib.join (partsT x k) [44] ≠ [] := by
  cases hq : partsT x k with
  | nil => exact absurd hq h
  | cons a l =>
    obtain ⟨j, _, e⟩ := parts_mem x k a (by rw [hq]; simp)
    have ha : a ≠ [] := by rw [e]; exact partT_ne x j
    cases l with
    | nil => simpa [Lib.join, List.intercalate] using ha
    | cons b l =>
      intro g
      have e1 : Lib.join (a :: b :: l) [44] = a ++ [44] ++ Lib.join (b :: l) [44] := by simp [Lib.join, List.intercalate, List.intersperse]
      rw [e1] at g
      simp at g
theorem join_len2 (x : Nat → Int) (k : Nat) (hk : k ≤ 5) (hx : ∀ j, j < 5 → 0 ≤ x j ∧ x j ≤ top) : (Lib.join (partsT x k) [44]).length ≤ 155 := by
  have hj := join_len (partsT x k) 30 (fun t ht => by
    obtain ⟨j, hj, rfl⟩ := parts_mem x k t ht
    have h := hx j (by omega)
    exact partT_len x j h.1 (by have := h.2; unfold top at this; exact this))
  have hl := partsT_len x k
  have : (partsT x k).length * (30 + 1) ≤ 5 * 31 := Nat.mul_le_mul (by omega) (Nat.le_refl _)
  omega

theorem rqprint_is (n : Int) (milli : Bool) (w : World) (t : List UInt8) (e0 : Int) (ht : Tab w) (h : printL n milli = (t, e0)) :
    Calls Tryd.prog 47 #[.int .i64 n, .bool milli] w fun e w' => e = .returned (.tuple #[.string ⟨t.toArray⟩, .int .i64 e0]) ∧ Below w.heap.size w w' := by
  have k := rprint_any n milli w ht
  rw [h] at k
  exact k

set_option maxRecDepth 100000 in
set_option maxHeartbeats 1000000 in
theorem rvprint_ok (x : Nat → Int) (w : World) (hc : chkV x = 0) (hx : ∀ j, j < 5 → 0 ≤ x j ∧ x j ≤ top) (ht : Tab w) :
    Calls Tryd.prog 24 #[.agg #[.int .i64 (x 0), .int .i64 (x 1), .int .i64 (x 2), .int .i64 (x 3), .int .i64 (x 4)]] w fun e w' => e = .returned (.tuple #[.string ⟨(Lib.join (partsT x 5) [44]).toArray⟩, .int .i64 0]) ∧ Below w.heap.size w w' := by
  have HT := Lib.hid ht
  have HX := Lib.hid hx
  have HC := Lib.hid hc
  clear ht hx hc
  go_enter Tryd.func24, Tryd.ntmps24
  go_wp2_with fail
  refine (rvcheck_any x _).mono ?_
  rw [HC.out]
  rintro e w1 ⟨rfl, hb⟩
  have HB := Lib.hid ((below1 w _).trans (hb.mono (below1 w _).size))
  have Hrow := Lib.hid ((RowAt.new w x).below hb (RowAt.new w x).lt)
  clear hb
  go_wp2_with fail
  refine (names_any _).mono ?_
  rintro e w2 ⟨rfl, rfl⟩
  go_wp2
  go_loopw [6, 7] (fun s i wr => ∃ k : Nat, k ≤ 5 ∧ i = .int .i64 k ∧ s = .string ⟨(Lib.join (partsT x k) [44]).toArray⟩ ∧ RowAt wr w.heap.size x ∧ NmAt wr w1.heap.size ∧ Below w.heap.size w wr) (fun _ i _ => 5 - (intOf i).toNat)
  case atStart => exact ⟨0, by omega, rfl, rfl, Hrow.out.alloc _, nm_new _, HB.out.alloc HB.out.size _⟩
  case round =>
    obtain ⟨k, hk, rfl, rfl, hrow, hnm, hbw⟩ := hrel
    have HR := Lib.hid hrow
    have HNm := Lib.hid hnm
    have Hbw := Lib.hid hbw
    clear hrow hnm hbw
    by_cases hlt : k < 5
    · have cx := HR.out.cell hlt
      obtain ⟨hx0, hx1⟩ := HX.out k hlt
      unfold top at hx1
      by_cases hz : x k = 0
      · have hzb : (x k == 0) = true := by simpa using hz
        have Hz := Lib.hid hz
        clear hz
        go_wp2
        go_roundw
        case rel => exact ⟨k + 1, by omega, by go_num, by rw [partsT, if_pos Hz.out], HR.out, HNm.out, Hbw.out⟩
        case measure => simp [intOf]; omega
      · have hzb : (x k == 0) = false := by simpa using hz
        have Hz := Lib.hid hz
        clear hz
        have Hkb : Hid (((k : Int) == 0) = decide (k = 0)) := by
          show ((k : Int) == 0) = decide (k = 0)
          by_cases g : k = 0
          · simp [g]
          · have g2 : ((k : Int) == 0) = false := by simp; omega
            rw [g2]
            simp [g]
        have nl := name_len k
        have pl := print_len (x k) (decide (k = 0)) hx0 hx1
        have jl := join_len2 x k hk HX.out
        go_wp2_with fail
        refine (rqprint_is (x k) ((k : Int) == 0) _ (printL (x k) (decide (k = 0))).1 0 (HT.out.below Hbw.out) (by rw [Hkb.out]; exact print_ok (x k) _ hx0 hx1)).mono ?_
        rintro e w2 ⟨rfl, hb2⟩
        have HR2 := Lib.hid (HR.out.below hb2 HR.out.lt)
        have HNm2 := Lib.hid (HNm.out.below hb2)
        have Hbw2 := Lib.hid (Hbw.out.trans (hb2.mono Hbw.out.size))
        clear hb2 cx
        have hcn := HNm2.out.2 k hlt
        by_cases hp : partsT x k = []
        · have he : Lib.join (partsT x k) [44] = [] := by rw [hp]; simp [Lib.join, List.intercalate]
          have HS : Hid (Lib.join (partsT x (k + 1)) [44] = partT x k) := by
            show Lib.join (partsT x (k + 1)) [44] = partT x k
            rw [partsT, if_neg Hz.out, hp]
            exact join_one _
          have hev : (Lib.join (partsT x k) [44]).isEmpty = true := by rw [he]; rfl
          have j0 := join_m Tryd.prog w2 (Lib.join (partsT x k) [44]) (nameL k) (by omega) (by omega)
          have ee : Lib.join (partsT x k) [44] ++ nameL k = nameL k := by rw [he]; rfl
          rw [ee] at j0
          have j1 := join_m Tryd.prog w2 (nameL k) [61] (by omega) (by decide)
          have j2 := join_m Tryd.prog w2 (nameL k ++ [61]) (printL (x k) (decide (k = 0))).1 (by simp; omega) (by omega)
          have HP : Hid (partT x k = nameL k ++ [61] ++ (printL (x k) (decide (k = 0))).1) := rfl
          rw [← HP.out] at j2
          generalize nameL k ++ [61] = y at j1 j2
          have Hp := Lib.hid hp
          clear HP hp he ee
          go_wp2
          go_roundw
          case rel => exact ⟨k + 1, by omega, by go_num, by rw [HS.out], HR2.out, HNm2.out, Hbw2.out⟩
          case measure => simp [intOf]; omega
        · have he := join_ne x k hp
          have HS : Hid (Lib.join (partsT x (k + 1)) [44] = Lib.join (partsT x k) [44] ++ [44] ++ nameL k ++ [61] ++ (printL (x k) (decide (k = 0))).1) := by
            show Lib.join (partsT x (k + 1)) [44] = _
            rw [partsT, if_neg Hz.out, join_snoc _ _ hp]
            unfold partT
            simp
          have hev : (Lib.join (partsT x k) [44]).isEmpty = false := by simpa using he
          have j0 := join_m Tryd.prog w2 (Lib.join (partsT x k) [44]) [44] (by omega) (by decide)
          have j1 := join_m Tryd.prog w2 (Lib.join (partsT x k) [44] ++ [44]) (nameL k) (by simp; omega) (by omega)
          have j2 := join_m Tryd.prog w2 (Lib.join (partsT x k) [44] ++ [44] ++ nameL k) [61] (by simp; omega) (by decide)
          have j3 := join_m Tryd.prog w2 (Lib.join (partsT x k) [44] ++ [44] ++ nameL k ++ [61]) (printL (x k) (decide (k = 0))).1 (by simp; omega) (by omega)
          have h0 := HS.out
          rw [← h0] at j3
          generalize Lib.join (partsT x k) [44] ++ [44] ++ nameL k ++ [61] = y3 at j2 j3
          generalize Lib.join (partsT x k) [44] ++ [44] ++ nameL k = y2 at j1 j2
          generalize Lib.join (partsT x k) [44] ++ [44] = y1 at j0 j1
          have Hp := Lib.hid hp
          clear h0 hp he HS
          go_wp2
          go_roundw
          case rel => exact ⟨k + 1, by omega, by go_num, rfl, HR2.out, HNm2.out, Hbw2.out⟩
          case measure => simp [intOf]; omega
    · obtain rfl : k = 5 := by omega
      go_wp2
      go_ret2
      exact ⟨rfl, Hbw.out⟩

set_option maxRecDepth 100000 in
set_option maxHeartbeats 1000000 in
theorem rvprint_no (x : Nat → Int) (w : World) (hc : chkV x ≠ 0) :
    Calls Tryd.prog 24 #[.agg #[.int .i64 (x 0), .int .i64 (x 1), .int .i64 (x 2), .int .i64 (x 3), .int .i64 (x 4)]] w fun e w' => e = .returned (.tuple #[.string ⟨#[]⟩, .int .i64 (chkV x)]) ∧ Below w.heap.size w w' := by
  have hcb : (chkV x != 0) = true := by simpa using hc
  have HC := Lib.hid hc
  clear hc
  go_enter Tryd.func24, Tryd.ntmps24
  go_wp2_with fail
  refine (rvcheck_any x _).mono ?_
  rintro e w1 ⟨rfl, hb⟩
  have HB := Lib.hid ((below1 w _).trans (hb.mono (below1 w _).size))
  clear hb
  go_wp2
  go_ret2
  exact ⟨rfl, HB.out⟩

theorem rvprint_is (x : Nat → Int) (w : World) (t : List UInt8) (e0 : Int) (ht : Tab w) (h : printV x = (t, e0)) :
    Calls Tryd.prog 24 #[.agg #[.int .i64 (x 0), .int .i64 (x 1), .int .i64 (x 2), .int .i64 (x 3), .int .i64 (x 4)]] w fun e w' => e = .returned (.tuple #[.string ⟨t.toArray⟩, .int .i64 e0]) ∧ Below w.heap.size w w' := by
  unfold printV at h
  by_cases hc : chkV x = 0
  · rw [if_neg (by simpa using hc)] at h
    simp only [Prod.mk.injEq] at h
    obtain ⟨rfl, rfl⟩ := h
    rcases chkV_cases x with h2 | h2 | ⟨_, h2⟩
    · rw [hc] at h2; cases h2
    · rw [hc] at h2; cases h2
    · exact rvprint_ok x w hc h2 ht
  · rw [if_pos hc] at h
    simp only [Prod.mk.injEq] at h
    obtain ⟨rfl, rfl⟩ := h
    exact rvprint_no x w hc

end Go.Proofs.YtgmecaaogmpakaaDoor
