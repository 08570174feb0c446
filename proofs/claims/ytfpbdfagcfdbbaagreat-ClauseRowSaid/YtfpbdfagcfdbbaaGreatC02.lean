/- Words that the proofs on rows share: a row is five numbers; where it stands in memory; what an index reads. No conditions. What Check answers, the program's and the document's, of every row. No conditions. What the document's Check, and Fits and Over, the program's and the document's, answer of every row. No conditions. What the document's Fits, and Over, the program's and the document's, answer of every two rows. No conditions. What eachPlace answers: the row of what is reckoned for each place, or the first error. Condition: what it is handed answers so at each place, and leaves what was there as it was. What the program's look at its arguments answers, of every row of numbers. No conditions but that the row lies in memory. What Add, Sub, Mul and Share answer, the program's and the document's, of every number. No conditions but that a row lies in memory. Sub, Mul and Share, the program's and the document's, at a call whose answer is known. No conditions but that the numbers are ints. What the functions that Minus, Times and Share hand to eachPlace answer at each place. Conditions: the rows that they hold lie in memory, and hold ints. What Minus, Times and Share answer of every two rows, or a row and a number: place by place, or the first error. Condition: they are ints. What the document's Minus, Times and Share answer of every two rows, or a row and a number: place by place, or the first error. Condition: they are ints. What eachPlace answers, handed a function that holds one variable: the row of what is reckoned for each place, or the first error. Condition: what it is handed answers so at each place, and leaves what was there as it was. What Add answers, the program's and the document's, of every row of numbers. No conditions but that the row lies in memory. What the document's Share answers of every two rows; what column answers of rows and a place. Conditions: they are ints; the rows lie in memory. What Plus, the program's and the document's, answers of every twelve rows at most. Condition: they lie in memory. What a cluster is in memory: its nodes, pods and owners, and the lists within them. No conditions. Names and rows of a cluster's parts: contracts of the small functions. No conditions. What each makes of a cluster's lists: names. Condition: the list lies in memory. Are names names, and do they rise? A contract. Condition: the list lies in memory. May a node, an owner, a Near be, each by itself? Contracts. Condition: its lists lie in memory. -/
import Derived.Test.YtfpbdfagcfdbbaaGreatC01
import Derived.RegionTactic
import Derived.Laws.CopyOwn
import Derived.Deep.RegionHeld3
import Derived.Laws.MakeOwn
import Derived.Laws.Cover3

namespace Go.Proofs.YtfpbdfagcfdbbaaGreat.Qu
open Go.RowKit

/-- Each of a row is an int. -/
def Ints (x : Nat → Int) : Prop := ∀ k, k < 5 → -9223372036854775808 ≤ x k ∧ x k ≤ 9223372036854775807

/-- What an index reads of a row that is a value. -/
theorem idx_row0 (x0 x1 x2 x3 x4 : Int) (w : World) : (Instr.index 60 (.agg #[.int .i64 x0, .int .i64 x1, .int .i64 x2, .int .i64 x3, .int .i64 x4]) (.int .i64 0)).run Tryz.prog w = .ok (.int .i64 x0) w := by kernel_rfl
theorem idx_row1 (x0 x1 x2 x3 x4 : Int) (w : World) : (Instr.index 60 (.agg #[.int .i64 x0, .int .i64 x1, .int .i64 x2, .int .i64 x3, .int .i64 x4]) (.int .i64 1)).run Tryz.prog w = .ok (.int .i64 x1) w := by kernel_rfl
theorem idx_row2 (x0 x1 x2 x3 x4 : Int) (w : World) : (Instr.index 60 (.agg #[.int .i64 x0, .int .i64 x1, .int .i64 x2, .int .i64 x3, .int .i64 x4]) (.int .i64 2)).run Tryz.prog w = .ok (.int .i64 x2) w := by kernel_rfl
theorem idx_row3 (x0 x1 x2 x3 x4 : Int) (w : World) : (Instr.index 60 (.agg #[.int .i64 x0, .int .i64 x1, .int .i64 x2, .int .i64 x3, .int .i64 x4]) (.int .i64 3)).run Tryz.prog w = .ok (.int .i64 x3) w := by kernel_rfl
theorem idx_row4 (x0 x1 x2 x3 x4 : Int) (w : World) : (Instr.index 60 (.agg #[.int .i64 x0, .int .i64 x1, .int .i64 x2, .int .i64 x3, .int .i64 x4]) (.int .i64 4)).run Tryz.prog w = .ok (.int .i64 x4) w := by kernel_rfl
theorem idx_row (x : Nat → Int) (k : Nat) (h : k < 5) (w : World) : (Instr.index 60 (.agg #[.int .i64 (x 0), .int .i64 (x 1), .int .i64 (x 2), .int .i64 (x 3), .int .i64 (x 4)]) (.int .i64 (k : Int))).run Tryz.prog w = .ok (.int .i64 (x k)) w := by
  match k, h with
  | 0, _ => exact idx_row0 _ _ _ _ _ w
  | 1, _ => exact idx_row1 _ _ _ _ _ w
  | 2, _ => exact idx_row2 _ _ _ _ _ w
  | 3, _ => exact idx_row3 _ _ _ _ _ w
  | 4, _ => exact idx_row4 _ _ _ _ _ w

/-- What stands in a block that holds a row. -/
theorem cell_row (x : Nat → Int) (k : Nat) (h : k < 5) (w : World) (b t : Nat) (fr : Nat × Nat) (hb : w.heap[b]? = some (.cells #[.int .i64 (x 0), .int .i64 (x 1), .int .i64 (x 2), .int .i64 (x 3), .int .i64 (x 4)] t fr)) : w.cell? ⟨b, k, none⟩ = some (.int .i64 (x k)) := by
  rw [cell_of_row w b k _ t fr hb]
  match k, h with
  | 0, _ => rfl
  | 1, _ => rfl
  | 2, _ => rfl
  | 3, _ => rfl
  | 4, _ => rfl

/-- What the look at a row answers. -/
def chkV (x : Nat → Int) : Int := checkL [x 0, x 1, x 2, x 3, x 4]

theorem mem5 {x : Nat → Int} {y : Int} : y ∈ [x 0, x 1, x 2, x 3, x 4] ↔ ∃ k, k < 5 ∧ y = x k := by
  constructor
  · intro h
    simp only [List.mem_cons, List.not_mem_nil, or_false] at h
    rcases h with h | h | h | h | h
    · exact ⟨0, by omega, h⟩
    · exact ⟨1, by omega, h⟩
    · exact ⟨2, by omega, h⟩
    · exact ⟨3, by omega, h⟩
    · exact ⟨4, by omega, h⟩
  · rintro ⟨k, hk, rfl⟩
    have hk : k = 0 ∨ k = 1 ∨ k = 2 ∨ k = 3 ∨ k = 4 := by omega
    rcases hk with rfl | rfl | rfl | rfl | rfl <;> simp

theorem chkV_neg {x : Nat → Int} {k : Nat} (hk : k < 5) (h : x k < 0) : chkV x = 2 := by
  unfold chkV checkL
  rw [if_pos ⟨x k, mem5.2 ⟨k, hk, rfl⟩, h⟩]
theorem chkV_over {x : Nat → Int} (h0 : ∀ j, j < 5 → 0 ≤ x j) {k : Nat} (hk : k < 5) (h : top < x k) : chkV x = 10 := by
  unfold chkV checkL
  rw [if_neg, if_pos ⟨x k, mem5.2 ⟨k, hk, rfl⟩, h⟩]
  rintro ⟨y, hy, hlt⟩
  obtain ⟨j, hj, rfl⟩ := mem5.1 hy
  have := h0 j hj
  omega
theorem chkV_ok {x : Nat → Int} (h0 : ∀ j, j < 5 → 0 ≤ x j) (h1 : ∀ j, j < 5 → x j ≤ top) : chkV x = 0 := by
  unfold chkV checkL
  rw [if_neg, if_neg]
  · rintro ⟨y, hy, hlt⟩
    obtain ⟨j, hj, rfl⟩ := mem5.1 hy
    have := h1 j hj
    omega
  · rintro ⟨y, hy, hlt⟩
    obtain ⟨j, hj, rfl⟩ := mem5.1 hy
    have := h0 j hj
    omega
theorem chkV_cases (x : Nat → Int) : (chkV x = 2) ∨ (chkV x = 10) ∨ (chkV x = 0 ∧ ∀ j, j < 5 → 0 ≤ x j ∧ x j ≤ top) := by
  by_cases h : ∃ k, k < 5 ∧ x k < 0
  · obtain ⟨k, hk, h⟩ := h
    exact .inl (chkV_neg hk h)
  · have h0 : ∀ j, j < 5 → 0 ≤ x j := fun j hj => by
      rcases Int.lt_or_le (x j) 0 with g | g
      · exact absurd ⟨j, hj, g⟩ h
      · exact g
    by_cases h2 : ∃ k, k < 5 ∧ top < x k
    · obtain ⟨k, hk, h2⟩ := h2
      exact .inr (.inl (chkV_over h0 hk h2))
    · have h1 : ∀ j, j < 5 → x j ≤ top := fun j hj => by
        rcases Int.lt_or_le top (x j) with g | g
        · exact absurd ⟨j, hj, g⟩ h2
        · exact g
      exact .inr (.inr ⟨chkV_ok h0 h1, fun j hj => ⟨h0 j hj, h1 j hj⟩⟩)
theorem all_snoc {p : Nat → Prop} {k : Nat} (h : ∀ j, j < k → p j) (hk : p k) : ∀ j, j < k + 1 → p j := fun j hj => by
  rcases Nat.lt_or_eq_of_le (Nat.le_of_lt_succ hj) with g | rfl
  · exact h j g
  · exact hk

theorem belowN {B : Nat} {a w : World} (h : Below B a w) (n : Nat) : Below B a (w.drewN n) := ⟨h.os, h.tape, h.output, h.size, h.block⟩

theorem below1 (w : World) (o : Obj) : Below w.heap.size w (w.alloc o) := (Below.refl _ _).alloc (Nat.le_refl _) _
theorem vec_size : (Tryz.prog.info? 60).map (·.size) = some 5 := by kernel_rfl

/-- A row lies in this block. -/
def RowAt (w : World) (b : Nat) (x : Nat → Int) : Prop := w.heap[b]? = some (.cells #[.int .i64 (x 0), .int .i64 (x 1), .int .i64 (x 2), .int .i64 (x 3), .int .i64 (x 4)] 60 (0, 0))
theorem RowAt.cell {w : World} {b : Nat} {x : Nat → Int} (h : RowAt w b x) {k : Nat} (hk : k < 5) : w.cell? ⟨b, k, none⟩ = some (.int .i64 (x k)) := cell_row x k hk w b _ _ h
theorem RowAt.free {w : World} {b : Nat} {x : Nat → Int} (h : RowAt w b x) (k : Nat) : w.frozen? ⟨b, k, none⟩ = false := by
  unfold RowAt at h
  simp [World.frozen?, h]
theorem RowAt.lt {w : World} {b : Nat} {x : Nat → Int} (h : RowAt w b x) : b < w.heap.size := by
  unfold RowAt at h
  rcases Nat.lt_or_ge b w.heap.size with g | g
  · exact g
  · rw [Array.getElem?_eq_none g] at h; cases h
theorem RowAt.below {w w' : World} {b B : Nat} {x : Nat → Int} (h : RowAt w b x) (hb : Below B w w') (hB : b < B) : RowAt w' b x := by
  unfold RowAt at h ⊢
  rw [hb.block b hB, h]
def upd (x : Nat → Int) (k : Nat) (v : Int) : Nat → Int := fun j => if j = k then v else x j
theorem RowAt.set {w : World} {b : Nat} {x : Nat → Int} (h : RowAt w b x) {k : Nat} (hk : k < 5) (v : Int) : RowAt (w.setCell ⟨b, k, none⟩ (.int .i64 v)) b (upd x k v) := by
  unfold RowAt at h ⊢
  rw [heap_setCell_same w b k _ _ _ h]
  have hk : k = 0 ∨ k = 1 ∨ k = 2 ∨ k = 3 ∨ k = 4 := by omega
  rcases hk with rfl | rfl | rfl | rfl | rfl <;> simp [upd]
theorem RowAt.other {w : World} {b : Nat} {x : Nat → Int} (h : RowAt w b x) (a : Addr) (v : Value) (hne : b ≠ a.block) : RowAt (w.setCell a v) b x := by
  unfold RowAt at h ⊢
  rw [heap_setCell_other w a b v hne, h]
theorem RowAt.alloc {w : World} {b : Nat} {x : Nat → Int} (h : RowAt w b x) (o : Obj) : RowAt (w.alloc o) b x := by
  have hlt := h.lt
  unfold RowAt at h ⊢
  rw [Below.heap_alloc w o b hlt, h]
theorem RowAt.new (w : World) (x : Nat → Int) : RowAt (w.alloc (.cells #[.int .i64 (x 0), .int .i64 (x 1), .int .i64 (x 2), .int .i64 (x 3), .int .i64 (x 4)] 60)) w.heap.size x := heap_alloc_new _ _

end Go.Proofs.YtfpbdfagcfdbbaaGreat.Qu

namespace Go.Proofs.YtfpbdfagcfdbbaaGreat.Qu
open Go.RowKit

set_option maxHeartbeats 400000 in
theorem vcheck_any (x : Nat → Int) (w : World) :
    Calls Tryz.prog 130 #[.agg #[.int .i64 (x 0), .int .i64 (x 1), .int .i64 (x 2), .int .i64 (x 3), .int .i64 (x 4)]] w fun e w' => e = .returned (.int .i64 (chkV x)) ∧ Below w.heap.size w w' := by
  go_enter Tryz.func130, Tryz.ntmps130
  go_wp2
  go_loop [8] (fun i => ∃ k : Nat, k ≤ 5 ∧ i = .int .i64 k ∧ ∀ j, j < k → 0 ≤ x j) (fun i => 5 - (intOf i).toNat)
  case atStart => exact ⟨0, by omega, rfl, by omega⟩
  case round =>
    obtain ⟨k, hk, rfl, hall⟩ := hrel
    have Hall := Lib.hid hall
    clear hall
    by_cases hlt : k < 5
    · have hi := fun w => idx_row x k hlt w
      by_cases hneg : x k < 0
      · go_wp2
        go_ret
        exact ⟨retI (chkV_neg hlt hneg).symm, (Below.refl _ _).alloc (Nat.le_refl _) _⟩
      · go_wp2
        go_round
        case rel => exact ⟨k + 1, by omega, by go_num, all_snoc Hall.out (by omega)⟩
        case measure => simp [intOf]; omega
    · have H0 : Hid (∀ j, j < 5 → 0 ≤ x j) := fun j hj => Hall.out j (by omega)
      go_wp2
      go_loop [15] (fun i => ∃ k : Nat, k ≤ 5 ∧ i = .int .i64 k ∧ ∀ j, j < k → x j ≤ top) (fun i => 5 - (intOf i).toNat)
      case atStart => exact ⟨0, by omega, rfl, by omega⟩
      case round =>
        obtain ⟨m, hm, rfl, hall⟩ := hrel
        have Hall2 := Lib.hid hall
        clear hall
        by_cases hlt : m < 5
        · have hi := fun w => idx_row x m hlt w
          by_cases hbig : 1099511627776 < x m
          · go_wp2
            go_ret
            exact ⟨retI (chkV_over H0.out hlt (by unfold top; omega)).symm, (Below.refl _ _).alloc (Nat.le_refl _) _⟩
          · go_wp2
            go_round
            case rel => exact ⟨m + 1, by omega, by go_num, all_snoc Hall2.out (by unfold top; omega)⟩
            case measure => simp [intOf]; omega
        · go_wp2
          go_ret
          exact ⟨retI (chkV_ok H0.out (fun j hj => Hall2.out j (by omega))).symm, (Below.refl _ _).alloc (Nat.le_refl _) _⟩

end Go.Proofs.YtfpbdfagcfdbbaaGreat.Qu

namespace Go.Proofs.YtfpbdfagcfdbbaaGreat.Qu
open Go.RowKit

theorem cell_new (x : Nat → Int) (k : Nat) (h : k < 5) (w : World) (t : Nat) : (w.alloc (.cells #[.int .i64 (x 0), .int .i64 (x 1), .int .i64 (x 2), .int .i64 (x 3), .int .i64 (x 4)] t)).cell? ⟨w.heap.size, k, none⟩ = some (.int .i64 (x k)) :=
  cell_row x k h _ _ _ _ (heap_alloc_new _ _)

set_option maxHeartbeats 400000 in
theorem rvcheck_any (x : Nat → Int) (w : World) :
    Calls Tryz.prog 155 #[.agg #[.int .i64 (x 0), .int .i64 (x 1), .int .i64 (x 2), .int .i64 (x 3), .int .i64 (x 4)]] w fun e w' => e = .returned (.int .i64 (chkV x)) ∧ Below w.heap.size w w' := by
  go_enter Tryz.func155, Tryz.ntmps155
  go_wp2
  go_loop [3] (fun i => ∃ k : Nat, k ≤ 5 ∧ i = .int .i64 k ∧ ∀ j, j < k → 0 ≤ x j) (fun i => 5 - (intOf i).toNat)
  case atStart => exact ⟨0, by omega, rfl, by omega⟩
  case round =>
    obtain ⟨k, hk, rfl, hall⟩ := hrel
    have Hall := Lib.hid hall
    clear hall
    by_cases hlt : k < 5
    · have hi := cell_new x k hlt w 60
      by_cases hneg : x k < 0
      · go_wp2
        go_ret
        exact ⟨retI (chkV_neg hlt hneg).symm, (Below.refl _ _).alloc (Nat.le_refl _) _⟩
      · go_wp2
        go_round
        case rel => exact ⟨k + 1, by omega, by go_num, all_snoc Hall.out (by omega)⟩
        case measure => simp [intOf]; omega
    · have H0 : Hid (∀ j, j < 5 → 0 ≤ x j) := fun j hj => Hall.out j (by omega)
      go_wp2
      go_loop [4] (fun i => ∃ k : Nat, k ≤ 5 ∧ i = .int .i64 k ∧ ∀ j, j < k → x j ≤ top) (fun i => 5 - (intOf i).toNat)
      case atStart => exact ⟨0, by omega, rfl, by omega⟩
      case round =>
        obtain ⟨m, hm, rfl, hall⟩ := hrel
        have Hall2 := Lib.hid hall
        clear hall
        by_cases hlt : m < 5
        · have hi := cell_new x m hlt w 60
          by_cases hbig : 1099511627776 < x m
          · go_wp2
            go_ret
            exact ⟨retI (chkV_over H0.out hlt (by unfold top; omega)).symm, (Below.refl _ _).alloc (Nat.le_refl _) _⟩
          · go_wp2
            go_round
            case rel => exact ⟨m + 1, by omega, by go_num, all_snoc Hall2.out (by unfold top; omega)⟩
            case measure => simp [intOf]; omega
        · go_wp2
          go_ret
          exact ⟨retI (chkV_ok H0.out (fun j hj => Hall2.out j (by omega))).symm, (Below.refl _ _).alloc (Nat.le_refl _) _⟩

/-- Whether each of x is at most that of y. -/
def fitsV (x y : Nat → Int) : Bool := decide (x 0 ≤ y 0) && decide (x 1 ≤ y 1) && decide (x 2 ≤ y 2) && decide (x 3 ≤ y 3) && decide (x 4 ≤ y 4)
theorem fitsV_no {x y : Nat → Int} {k : Nat} (hk : k < 5) (h : y k < x k) : fitsV x y = false := by
  have hk : k = 0 ∨ k = 1 ∨ k = 2 ∨ k = 3 ∨ k = 4 := by omega
  have h' : decide (x k ≤ y k) = false := by simp; omega
  unfold fitsV
  rcases hk with rfl | rfl | rfl | rfl | rfl <;> simp [h']
theorem fitsV_yes {x y : Nat → Int} (h : ∀ j, j < 5 → x j ≤ y j) : fitsV x y = true := by
  unfold fitsV
  simp [h]
theorem fitsV_iff (x y : Nat → Int) : fitsV x y = true ↔ ∀ j, j < 5 → x j ≤ y j := by
  refine ⟨fun h j hj => ?_, fitsV_yes⟩
  rcases Int.lt_or_le (y j) (x j) with g | g
  · rw [fitsV_no hj g] at h; cases h
  · exact g

theorem retB {a b : Bool} (h : a = b) : Ending.returned (.bool a) = .returned (.bool b) := by rw [h]

theorem cell_two (x : Nat → Int) (k : Nat) (h : k < 5) (w : World) (t : Nat) (o : Obj) : ((w.alloc (.cells #[.int .i64 (x 0), .int .i64 (x 1), .int .i64 (x 2), .int .i64 (x 3), .int .i64 (x 4)] t)).alloc o).cell? ⟨w.heap.size, k, none⟩ = some (.int .i64 (x k)) :=
  cell_row x k h _ _ _ _ (heap_alloc2_old _ _ _)
theorem cell_two' (x : Nat → Int) (k : Nat) (h : k < 5) (w : World) (t : Nat) (o : Obj) : ((w.alloc o).alloc (.cells #[.int .i64 (x 0), .int .i64 (x 1), .int .i64 (x 2), .int .i64 (x 3), .int .i64 (x 4)] t)).cell? ⟨w.heap.size + 1, k, none⟩ = some (.int .i64 (x k)) :=
  cell_row x k h _ _ _ _ (heap_alloc2_new _ _ _)
theorem below2 (w : World) (a b : Obj) : Below w.heap.size w ((w.alloc a).alloc b) := ((Below.refl _ _).alloc (Nat.le_refl _) _).alloc (by simp) _

end Go.Proofs.YtfpbdfagcfdbbaaGreat.Qu

namespace Go.Proofs.YtfpbdfagcfdbbaaGreat.Qu
open Go.RowKit

theorem two_at (w : World) (x y : Nat → Int) : RowAt ((w.alloc (.cells #[.int .i64 (x 0), .int .i64 (x 1), .int .i64 (x 2), .int .i64 (x 3), .int .i64 (x 4)] 60)).alloc (.cells #[.int .i64 (y 0), .int .i64 (y 1), .int .i64 (y 2), .int .i64 (y 3), .int .i64 (y 4)] 60)) w.heap.size x ∧ RowAt ((w.alloc (.cells #[.int .i64 (x 0), .int .i64 (x 1), .int .i64 (x 2), .int .i64 (x 3), .int .i64 (x 4)] 60)).alloc (.cells #[.int .i64 (y 0), .int .i64 (y 1), .int .i64 (y 2), .int .i64 (y 3), .int .i64 (y 4)] 60)) (w.heap.size + 1) y :=
  ⟨heap_alloc2_old _ _ _, heap_alloc2_new _ _ _⟩

/-- What of x is above y, summed, as an int goes round. -/
def overV (x y : Nat → Int) : Nat → Int
  | 0 => 0
  | k + 1 => if y k < x k then wrap64 (overV x y k + (x k - y k)) else overV x y k

theorem wr_l (s d : Int) : wrap64 (s + wrap64 d) = wrap64 (s + d) := by unfold wrap64; omega
theorem wr_r (s a b : Int) : wrap64 (wrap64 (s + a) - b) = wrap64 (s + (a - b)) := by unfold wrap64; omega

set_option maxHeartbeats 400000 in
theorem over_any (x y : Nat → Int) (w : World) :
    Calls Tryz.prog 113 #[.agg #[.int .i64 (x 0), .int .i64 (x 1), .int .i64 (x 2), .int .i64 (x 3), .int .i64 (x 4)], .agg #[.int .i64 (y 0), .int .i64 (y 1), .int .i64 (y 2), .int .i64 (y 3), .int .i64 (y 4)]] w fun e w' => e = .returned (.int .i64 (overV x y 5)) ∧ Below w.heap.size w w' := by
  go_enter Tryz.func113, Tryz.ntmps113
  go_wp2
  go_loop [5, 9] (fun s i => ∃ k : Nat, k ≤ 5 ∧ i = .int .i64 k ∧ s = .int .i64 (overV x y k)) (fun _ i => 5 - (intOf i).toNat)
  case atStart => exact ⟨0, by omega, rfl, rfl⟩
  case round =>
    obtain ⟨k, hk, rfl, rfl⟩ := hrel
    by_cases hlt : k < 5
    · have hi := fun w => idx_row x k hlt w
      have hc := cell_two' y k hlt w 60 (.cells #[.int .i64 (x 0), .int .i64 (x 1), .int .i64 (x 2), .int .i64 (x 3), .int .i64 (x 4)] 60)
      by_cases hneg : y k < x k
      · go_wp2
        go_round
        case rel => exact ⟨k + 1, by omega, by go_num, by rw [overV, if_pos hneg, wr_l]⟩
        case measure => simp [intOf]; omega
      · go_wp2
        go_round
        case rel => exact ⟨k + 1, by omega, by go_num, by rw [overV, if_neg (by omega)]⟩
        case measure => simp [intOf]; omega
    · obtain rfl : k = 5 := by omega
      go_wp2
      go_ret
      exact ⟨rfl, below2 _ _ _⟩

end Go.Proofs.YtfpbdfagcfdbbaaGreat.Qu

namespace Go.Proofs.YtfpbdfagcfdbbaaGreat.Qu
open Go.RowKit

/-- The first error, or none. -/
def firstE (f : Nat → Int × Int) : Nat → Int
  | 0 => 0
  | k + 1 => if firstE f k ≠ 0 then firstE f k else (f k).2
/-- The row, all noughts beside an error. -/
def eachR (f : Nat → Int × Int) : Nat → Int := fun k => if firstE f 5 ≠ 0 then 0 else (f k).1

theorem firstE_none {f : Nat → Int × Int} : ∀ {k : Nat}, (∀ j, j < k → (f j).2 = 0) → firstE f k = 0
  | 0, _ => rfl
  | k + 1, h => by
    rw [firstE, firstE_none (fun j hj => h j (by omega)), if_neg (by simp), h k (by omega)]
theorem firstE_keep {f : Nat → Int × Int} {k : Nat} (h : firstE f k ≠ 0) : ∀ {n : Nat}, k ≤ n → firstE f n = firstE f k := by
  intro n hn
  induction n with
  | zero => obtain rfl : k = 0 := by omega
            rfl
  | succ n ih =>
    rcases Nat.lt_or_eq_of_le hn with g | rfl
    · rw [firstE, ih (by omega), if_pos h]
    · rfl
theorem firstE_at {f : Nat → Int × Int} {k : Nat} (hk : k < 5) (h : ∀ j, j < k → (f j).2 = 0) (he : (f k).2 ≠ 0) : firstE f 5 = (f k).2 := by
  have h1 : firstE f (k + 1) = (f k).2 := by rw [firstE, firstE_none h, if_neg (by simp)]
  rw [firstE_keep (k := k + 1) (by rw [h1]; exact he) (by omega), h1]

/-- A row and a number are handed back. -/
theorem results_row2 {P : Program} {fn : Func} {p s : Tmp} {ty : TypeId} (h : fn.results = #[.cell p ty, .tmp s]) (tmps : Array Value) (w : World) (g : Nat) (t : TypeId) (cs : Array Value) (fr : Nat × Nat) (d : TypeDesc) (v : Value)
    (hp : tmps.getD p undef = .pointer (some ⟨g, 0, none⟩)) (hs : tmps.getD s undef = v) (hg : w.heap[g]? = some (.cells cs t fr))
    (hu : P.underlying ty = some d) (hd : (match d with | .struct _ | .array _ _ => true | _ => false) = true) (hi : (P.info? ty).map (·.size) = some cs.size) :
    (results fn tmps).run P w = .ok (.tuple #[.agg cs, v]) w := by
  have hp' : tmps[p]?.getD undef = .pointer (some ⟨g, 0, none⟩) := by simpa using hp
  have hs' : tmps[s]?.getD undef = v := by simpa using hs
  simp [results, h, hp', hs', asAddr, run_loadVar_row w g t ty cs fr d hg hu hd hi]

theorem bodyPost_row2 {P : Program} {fn : Func} {p s : Tmp} {ty : TypeId} {R : Ending → World → Prop} {a : Act} {w : World} (h : fn.results = #[.cell p ty, .tmp s]) (g : Nat) (t : TypeId) (cs : Array Value) (fr : Nat × Nat) (d : TypeDesc) (v : Value)
    (hd0 : a.defers = []) (hp : a.tmps.getD p undef = .pointer (some ⟨g, 0, none⟩)) (hs : a.tmps.getD s undef = v) (hg : w.heap[g]? = some (.cells cs t fr))
    (hu : P.underlying ty = some d) (hd : (match d with | .struct _ | .array _ _ => true | _ => false) = true) (hi : (P.info? ty).map (·.size) = some cs.size)
    (hR : R (.returned (.tuple #[.agg cs, v])) w) : bodyPost P fn R .ret a w :=
  bodyPost_ret (results_row2 h a.tmps w g t cs fr d v hp hs hg hu hd hi) hd0 hR

theorem RowAt.put {w : World} {b : Nat} {x : Nat → Int} (h : RowAt w b x) (y : Nat → Int) : RowAt (w.setRow b #[.int .i64 (y 0), .int .i64 (y 1), .int .i64 (y 2), .int .i64 (y 3), .int .i64 (y 4)]) b y := setRow_heap w b _ _ _ _ h

theorem endRow {x y : Nat → Int} {e e' : Int} (h : ∀ k, k < 5 → x k = y k) (he : e = e') : Ending.returned (.tuple #[.agg #[.int .i64 (x 0), .int .i64 (x 1), .int .i64 (x 2), .int .i64 (x 3), .int .i64 (x 4)], .int .i64 e]) = .returned (.tuple #[.agg #[.int .i64 (y 0), .int .i64 (y 1), .int .i64 (y 2), .int .i64 (y 3), .int .i64 (y 4)], .int .i64 e']) := by
  rw [h 0 (by omega), h 1 (by omega), h 2 (by omega), h 3 (by omega), h 4 (by omega), he]

set_option maxHeartbeats 400000 in
theorem each_any (g : FuncId) (p q : Value) (f : Nat → Int × Int) (w : World) (henter : ∀ (args : Array Value) (w : World), (callFunc g args).run Tryz.prog w = .ok (.enter g args) w)
    (hcl : ∀ k : Nat, k < 5 → ∀ w', Below w.heap.size w w' → Calls Tryz.prog g #[.int .i64 (k : Int), p, q] w' fun e w'' => e = .returned (.tuple #[.int .i64 (f k).1, .int .i64 (f k).2]) ∧ Below w'.heap.size w' w'') :
    Calls Tryz.prog 138 #[.func (Fn.func g) #[] #[p, q]] w fun e w' => e = .returned (.tuple #[.agg #[.int .i64 (eachR f 0), .int .i64 (eachR f 1), .int .i64 (eachR f 2), .int .i64 (eachR f 3), .int .i64 (eachR f 4)], .int .i64 (firstE f 5)]) ∧ Below w.heap.size w w' := by
  have Hcl := Lib.hid hcl
  clear hcl
  go_enter Tryz.func138, Tryz.ntmps138
  go_wp2
  go_loopw [8] (fun i wr => ∃ k : Nat, k ≤ 5 ∧ i = .int .i64 k ∧ (∀ j, j < k → (f j).2 = 0) ∧ RowAt wr w.heap.size (fun _ => 0) ∧ RowAt wr (w.heap.size + 1) (fun j => if j < k then (f j).1 else 0) ∧ Below w.heap.size w wr) (fun i _ => 5 - (intOf i).toNat)
  case atStart => exact ⟨0, by omega, rfl, by omega, heap_alloc2_old _ _ _, heap_alloc2_new _ _ _, below2 _ _ _⟩
  case round =>
    obtain ⟨k, hk, rfl, hall, hx, hy, hb⟩ := hrel
    have Hall := Lib.hid hall
    have Hx := Lib.hid hx
    have Hy := Lib.hid hy
    have HB := Lib.hid hb
    clear hall hx hy hb
    by_cases hlt : k < 5
    · have hk5 : Below w.heap.size w wr := HB.out
      have Hk5 := Lib.hid hk5
      clear hk5
      rcases hq : f k with ⟨n, e0⟩
      have Hq := Lib.hid hq
      clear hq
      go_wp2_with fail
      have kc := Hcl.out k hlt wr HB.out
      rw [Hq.out] at kc
      refine kc.mono ?_
      rintro e w1 ⟨rfl, hb1⟩
      clear kc
      have Hx1 := Lib.hid (Hx.out.below hb1 Hx.out.lt)
      have Hy1 := Lib.hid (Hy.out.below hb1 Hy.out.lt)
      have HB1 := Lib.hid (HB.out.trans (hb1.mono HB.out.size))
      clear hb1
      by_cases he : e0 = 0
      · have heb : (e0 != 0) = false := by simp [he]
        have He := Lib.hid he
        clear he
        have cy := Hy1.out.cell hlt
        have fy := Hy1.out.free k
        go_wp2
        go_roundw
        case rel =>
          have h0 : (f k).2 = 0 := by rw [Hq.out]; exact He.out
          have h1 : (f k).1 = n := by rw [Hq.out]
          refine ⟨k + 1, by omega, by go_num, all_snoc Hall.out h0, Hx1.out.other _ _ (by simp), ?_, HB1.out.setCell (by simp) _⟩
          have h := Hy1.out.set hlt n
          have e : (fun j => if j < k + 1 then (f j).1 else 0) = upd (fun j => if j < k then (f j).1 else 0) k n := by
            funext j
            unfold upd
            by_cases hj : j = k
            · subst hj; simp [h1]
            · by_cases hj2 : j < k
              · simp [hj, hj2, show j < k + 1 by omega]
              · simp [hj, hj2, show ¬ j < k + 1 by omega]
          rw [e]
          exact h
        case measure => simp [intOf]; omega
      · have heb : (e0 != 0) = true := by simpa using he
        have He := Lib.hid he
        clear he
        go_wp2_with (refine wpList_store_row rfl 60 (.tmp 2) (.tmp 19) rfl w.heap.size #[.int .i64 0, .int .i64 0, .int .i64 0, .int .i64 0, .int .i64 0] rfl rfl 60 _ Hx1.out vec_size (by kernel_rfl) (by kernel_rfl) ?_)
        have h1 : (f k).2 = e0 := by rw [Hq.out]
        have h2 : firstE f 5 = e0 := by rw [firstE_at hlt Hall.out (by rw [h1]; exact He.out), h1]
        refine bodyPost_row2 Tryz.results138 w.heap.size _ _ _ _ (.int .i64 e0) ?d1 ?p1 ?s1 (Hx1.out.put (fun _ => 0)) Tryz.underlying60 rfl vec_size ?_
        case d1 => rfl
        case p1 => rfl
        case s1 => rfl
        exact ⟨endRow (x := fun _ => 0) (fun j _ => by unfold eachR; rw [if_pos (by rw [h2]; exact He.out)]) h2.symm, below_setRow HB1.out (Nat.le_refl _) _⟩
    · go_wp2_with (first | refine wpList_load_row rfl 60 (.tmp 4) rfl (w.heap.size + 1) rfl 60 _ (0, 0) _ Hy.out Tryz.underlying60 rfl vec_size ?_ | refine wpList_store_row rfl 60 (.tmp 2) (.tmp 25) rfl w.heap.size _ rfl rfl 60 _ Hx.out vec_size (by kernel_rfl) (by kernel_rfl) ?_)
      have h2 : firstE f 5 = 0 := firstE_none (fun j hj => Hall.out j (by omega))
      refine bodyPost_row2 Tryz.results138 w.heap.size _ _ _ _ (.int .i64 0) ?d2 ?p2 ?s2 (Hx.out.put (fun j => (f j).1)) Tryz.underlying60 rfl vec_size ?_
      case d2 => rfl
      case p2 => rfl
      case s2 => rfl
      exact ⟨endRow (x := fun j => (f j).1) (fun j _ => by unfold eachR; rw [if_neg (by rw [h2]; simp)]) h2.symm, below_setRow HB.out (Nat.le_refl _) _⟩

end Go.Proofs.YtfpbdfagcfdbbaaGreat.Qu

namespace Go.Proofs.YtfpbdfagcfdbbaaGreat.Qu
open Go.RowKit

set_option maxHeartbeats 400000 in
theorem check_any (A : Option Addr) (c : Nat) (l : List Int) (w : World) (hl : l.length ≤ maxLen) (hr : RowOf w A l) :
    Calls Tryz.prog 177 #[.slice A l.length c] w fun e w' => e = .returned (.int .i64 (checkL l)) ∧ w = w' := by
  unfold maxLen at hl
  go_enter Tryz.func177, Tryz.ntmps177
  go_wp2
  go_loop [9] (fun i => ∃ k : Nat, k ≤ l.length ∧ i = .int .i64 k ∧ ∀ y ∈ l.take k, 0 ≤ y) (fun i => l.length - (intOf i).toNat)
  case atStart => exact ⟨0, Nat.zero_le _, rfl, by simp⟩
  case round =>
    obtain ⟨k, hk, rfl, hall⟩ := hrel
    have Hall := Lib.hid hall
    clear hall
    by_cases hlt : k < l.length
    · obtain ⟨b, o, rfl, hc⟩ := hr k l[k] (List.getElem?_eq_getElem hlt)
      have hx : l[k]? = some l[k] := List.getElem?_eq_getElem hlt
      have Hx := Lib.hid hx
      clear hx
      have Hr := Lib.hid hr
      clear hr
      by_cases hneg : l[k] < 0
      · go_wp2
        go_ret
        exact ⟨retI (by unfold checkL; rw [if_pos ⟨l[k], List.getElem_mem _, hneg⟩]), rfl⟩
      · go_wp2
        go_round
        case rel => exact ⟨k + 1, by omega, by go_num, take_all_snoc Hx.out Hall.out (by omega)⟩
        case measure => simp [intOf]; omega
    · have Hn : Hid (∀ y ∈ l, 0 ≤ y) := by
        have h := Hall.out
        rw [List.take_of_length_le (by omega)] at h
        exact h
      go_wp2
      go_loop [18] (fun i => ∃ j : Nat, j ≤ l.length ∧ i = .int .i64 j ∧ ∀ y ∈ l.take j, y ≤ top) (fun i => l.length - (intOf i).toNat)
      case atStart => exact ⟨0, Nat.zero_le _, rfl, by simp⟩
      case round =>
        obtain ⟨j, hj, rfl, hall⟩ := hrel
        have Hall2 := Lib.hid hall
        clear hall
        have hnone : ¬ ∃ x ∈ l, x < 0 := fun ⟨x, hx, h0⟩ => by have := Hn.out x hx; omega
        have Hnone := Lib.hid hnone
        clear hnone
        by_cases hlt : j < l.length
        · obtain ⟨b, o, rfl, hc⟩ := hr j l[j] (List.getElem?_eq_getElem hlt)
          have hx : l[j]? = some l[j] := List.getElem?_eq_getElem hlt
          have Hx := Lib.hid hx
          clear hx
          have Hr := Lib.hid hr
          clear hr
          by_cases hbig : 1099511627776 < l[j]
          · go_wp2
            go_ret
            exact ⟨retI (by unfold checkL; rw [if_neg Hnone.out, if_pos ⟨l[j], List.getElem_mem _, by unfold top; omega⟩]), rfl⟩
          · go_wp2
            go_round
            case rel => exact ⟨j + 1, by omega, by go_num, take_all_snoc Hx.out Hall2.out (by unfold top; omega)⟩
            case measure => simp [intOf]; omega
        · go_wp2
          go_ret
          refine ⟨retI ?_, rfl⟩
          have h := Hall2.out
          rw [List.take_of_length_le (by omega)] at h
          unfold checkL
          rw [if_neg Hnone.out, if_neg (fun ⟨x, hx, h0⟩ => by have := h x hx; omega)]

end Go.Proofs.YtfpbdfagcfdbbaaGreat.Qu

namespace Go.Proofs.YtfpbdfagcfdbbaaGreat.Qu
open Go.RowKit

def subL (a b : Int) : Int × Int := if a < 0 ∨ b < 0 ∨ a < b then (0, 2) else if top < a then (0, 10) else (a - b, 0)
def mulL (a b : Int) : Int × Int := if a < 0 ∨ b < 0 then (0, 2) else if top < a ∨ top < b ∨ top < a * b then (0, 10) else (a * b, 0)
def shareL (a b : Int) : Int × Int := if a < 0 ∨ b < 0 ∨ (b = 0 ∧ a ≠ 0) then (0, 2) else if top < a ∨ top < b then (0, 10) else if b = 0 then (0, 0) else (a * 1000 / b, 0)

theorem check2 (a b r : Int) (g o c : Nat) (w : World) (hr : checkL [a, b] = r) (h0 : w.cell? ⟨g, o, none⟩ = some (.int .i64 a)) (h1 : w.cell? ⟨g, o + 1, none⟩ = some (.int .i64 b)) :
    Calls Tryz.prog 177 #[.slice (some ⟨g, o, none⟩) 2 c] w fun e w' => e = .returned (.int .i64 r) ∧ w = w' := by
  subst hr
  refine check_any (some ⟨g, o, none⟩) c [a, b] w (by simp [maxLen]) ?_
  intro k x hk
  match k, hk with
  | 0, hk => exact ⟨g, o, rfl, by simp at hk; subst hk; exact h0⟩
  | 1, hk => exact ⟨g, o, rfl, by simp at hk; subst hk; exact h1⟩
  | k + 2, hk => simp at hk

theorem chk_neg {a b : Int} (h : a < 0 ∨ b < 0) : checkL [a, b] = 2 := by
  unfold checkL; rw [if_pos]; rcases h with h | h
  · exact ⟨a, by simp, h⟩
  · exact ⟨b, by simp, h⟩
theorem chk_over {a b : Int} (ha : 0 ≤ a) (hb : 0 ≤ b) (h : top < a ∨ top < b) : checkL [a, b] = 10 := by
  unfold checkL; rw [if_neg, if_pos]
  · rcases h with h | h
    · exact ⟨a, by simp, h⟩
    · exact ⟨b, by simp, h⟩
  · rintro ⟨x, hx, h0⟩; simp at hx; rcases hx with rfl | rfl <;> omega
theorem chk_ok {a b : Int} (ha : 0 ≤ a) (hb : 0 ≤ b) (ha' : a ≤ top) (hb' : b ≤ top) : checkL [a, b] = 0 := by
  unfold checkL; rw [if_neg, if_neg]
  · rintro ⟨x, hx, h0⟩; simp at hx; rcases hx with rfl | rfl <;> omega
  · rintro ⟨x, hx, h0⟩; simp at hx; rcases hx with rfl | rfl <;> omega

theorem ret2I {a b c d : Int} (h : a = c) (k : b = d) : Ending.returned (.tuple #[.int .i64 a, .int .i64 b]) = .returned (.tuple #[.int .i64 c, .int .i64 d]) := by rw [h, k]

end Go.Proofs.YtfpbdfagcfdbbaaGreat.Qu

namespace Go.Proofs.YtfpbdfagcfdbbaaGreat.Qu
open Go.RowKit

end Go.Proofs.YtfpbdfagcfdbbaaGreat.Qu

namespace Go.Proofs.YtfpbdfagcfdbbaaGreat.Qu
open Go.RowKit

end Go.Proofs.YtfpbdfagcfdbbaaGreat.Qu

namespace Go.Proofs.YtfpbdfagcfdbbaaGreat.Qu
open Go.RowKit

def minusF (x y : Nat → Int) : Nat → Int × Int := fun k => subL (x k) (y k)
def timesF (x : Nat → Int) (m : Int) : Nat → Int × Int := fun k => mulL (x k) m
def shareF (x y : Nat → Int) : Nat → Int × Int := fun k => shareL (x k) (y k)

theorem run_func (fn : Fn) (first cap : Array Value) (w : World) : (Instr.makeFunc fn first cap).run Tryz.prog w = .ok (.func fn first cap) w := rfl
theorem alloc_size (w : World) (o : Obj) : (w.alloc o).heap.size = w.heap.size + 1 := by
  show (w.heap.push o).size = _
  simp
theorem below3 (w : World) (a b c : Obj) : Below w.heap.size w (((w.alloc a).alloc b).alloc c) := (below2 w a b).alloc (by rw [alloc_size, alloc_size]; omega) _
theorem new3 (w : World) (a b : Obj) (z : Nat → Int) : RowAt (((w.alloc a).alloc b).alloc (.cells #[.int .i64 (z 0), .int .i64 (z 1), .int .i64 (z 2), .int .i64 (z 3), .int .i64 (z 4)] 60)) (w.heap.size + 2) z := by
  have h := RowAt.new ((w.alloc a).alloc b) z
  rwa [alloc_size, alloc_size] at h

/-- The greatest of a row, 0 at least. -/
def greatest (r : Nat → Int) : Nat → Int
  | 0 => 0
  | k + 1 => if greatest r k < r k then r k else greatest r k

end Go.Proofs.YtfpbdfagcfdbbaaGreat.Qu

namespace Go.Proofs.YtfpbdfagcfdbbaaGreat.Qu
open Go.RowKit

theorem RowAt.drew {w : World} {b : Nat} {x : Nat → Int} (h : RowAt w b x) : RowAt w.drew b x := h

/-- A row of which the first k are reckoned. -/
def part (f : Nat → Int × Int) (x : Nat → Int) (k : Nat) : Nat → Int := fun j => if j < k then (f j).1 else x j
theorem part_zero (f : Nat → Int × Int) (x : Nat → Int) : part f x 0 = x := by
  funext j
  simp [part]
theorem part_at (f : Nat → Int × Int) (x : Nat → Int) (k : Nat) : part f x k k = x k := by simp [part]
theorem part_succ {f : Nat → Int × Int} {x : Nat → Int} {k : Nat} {n : Int} (h : (f k).1 = n) : part f x (k + 1) = upd (part f x k) k n := by
  funext j
  unfold part upd
  by_cases hj : j = k
  · subst hj; simp [h]
  · by_cases hj2 : j < k
    · simp [hj, hj2, show j < k + 1 by omega]
    · simp [hj, hj2, show ¬ j < k + 1 by omega]

end Go.Proofs.YtfpbdfagcfdbbaaGreat.Qu

namespace Go.Proofs.YtfpbdfagcfdbbaaGreat.Qu
open Go.RowKit

set_option maxHeartbeats 400000 in
theorem each1_any (g : FuncId) (p : Value) (f : Nat → Int × Int) (w : World) (henter : ∀ (args : Array Value) (w : World), (callFunc g args).run Tryz.prog w = .ok (.enter g args) w)
    (hcl : ∀ k : Nat, k < 5 → ∀ w', Below w.heap.size w w' → Calls Tryz.prog g #[.int .i64 (k : Int), p] w' fun e w'' => e = .returned (.tuple #[.int .i64 (f k).1, .int .i64 (f k).2]) ∧ Below w'.heap.size w' w'') :
    Calls Tryz.prog 138 #[.func (Fn.func g) #[] #[p]] w fun e w' => e = .returned (.tuple #[.agg #[.int .i64 (eachR f 0), .int .i64 (eachR f 1), .int .i64 (eachR f 2), .int .i64 (eachR f 3), .int .i64 (eachR f 4)], .int .i64 (firstE f 5)]) ∧ Below w.heap.size w w' := by
  have Hcl := Lib.hid hcl
  clear hcl
  go_enter Tryz.func138, Tryz.ntmps138
  go_wp2
  go_loopw [8] (fun i wr => ∃ k : Nat, k ≤ 5 ∧ i = .int .i64 k ∧ (∀ j, j < k → (f j).2 = 0) ∧ RowAt wr w.heap.size (fun _ => 0) ∧ RowAt wr (w.heap.size + 1) (fun j => if j < k then (f j).1 else 0) ∧ Below w.heap.size w wr) (fun i _ => 5 - (intOf i).toNat)
  case atStart => exact ⟨0, by omega, rfl, by omega, heap_alloc2_old _ _ _, heap_alloc2_new _ _ _, below2 _ _ _⟩
  case round =>
    obtain ⟨k, hk, rfl, hall, hx, hy, hb⟩ := hrel
    have Hall := Lib.hid hall
    have Hx := Lib.hid hx
    have Hy := Lib.hid hy
    have HB := Lib.hid hb
    clear hall hx hy hb
    by_cases hlt : k < 5
    · have hk5 : Below w.heap.size w wr := HB.out
      have Hk5 := Lib.hid hk5
      clear hk5
      rcases hq : f k with ⟨n, e0⟩
      have Hq := Lib.hid hq
      clear hq
      go_wp2_with fail
      have kc := Hcl.out k hlt wr HB.out
      rw [Hq.out] at kc
      refine kc.mono ?_
      rintro e w1 ⟨rfl, hb1⟩
      clear kc
      have Hx1 := Lib.hid (Hx.out.below hb1 Hx.out.lt)
      have Hy1 := Lib.hid (Hy.out.below hb1 Hy.out.lt)
      have HB1 := Lib.hid (HB.out.trans (hb1.mono HB.out.size))
      clear hb1
      by_cases he : e0 = 0
      · have heb : (e0 != 0) = false := by simp [he]
        have He := Lib.hid he
        clear he
        have cy := Hy1.out.cell hlt
        have fy := Hy1.out.free k
        go_wp2
        go_roundw
        case rel =>
          have h0 : (f k).2 = 0 := by rw [Hq.out]; exact He.out
          have h1 : (f k).1 = n := by rw [Hq.out]
          refine ⟨k + 1, by omega, by go_num, all_snoc Hall.out h0, Hx1.out.other _ _ (by simp), ?_, HB1.out.setCell (by simp) _⟩
          have h := Hy1.out.set hlt n
          have e : (fun j => if j < k + 1 then (f j).1 else 0) = upd (fun j => if j < k then (f j).1 else 0) k n := by
            funext j
            unfold upd
            by_cases hj : j = k
            · subst hj; simp [h1]
            · by_cases hj2 : j < k
              · simp [hj, hj2, show j < k + 1 by omega]
              · simp [hj, hj2, show ¬ j < k + 1 by omega]
          rw [e]
          exact h
        case measure => simp [intOf]; omega
      · have heb : (e0 != 0) = true := by simpa using he
        have He := Lib.hid he
        clear he
        go_wp2_with (refine wpList_store_row rfl 60 (.tmp 2) (.tmp 19) rfl w.heap.size #[.int .i64 0, .int .i64 0, .int .i64 0, .int .i64 0, .int .i64 0] rfl rfl 60 _ Hx1.out vec_size (by kernel_rfl) (by kernel_rfl) ?_)
        have h1 : (f k).2 = e0 := by rw [Hq.out]
        have h2 : firstE f 5 = e0 := by rw [firstE_at hlt Hall.out (by rw [h1]; exact He.out), h1]
        refine bodyPost_row2 Tryz.results138 w.heap.size _ _ _ _ (.int .i64 e0) ?d1 ?p1 ?s1 (Hx1.out.put (fun _ => 0)) Tryz.underlying60 rfl vec_size ?_
        case d1 => rfl
        case p1 => rfl
        case s1 => rfl
        exact ⟨endRow (x := fun _ => 0) (fun j _ => by unfold eachR; rw [if_pos (by rw [h2]; exact He.out)]) h2.symm, below_setRow HB1.out (Nat.le_refl _) _⟩
    · go_wp2_with (first | refine wpList_load_row rfl 60 (.tmp 4) rfl (w.heap.size + 1) rfl 60 _ (0, 0) _ Hy.out Tryz.underlying60 rfl vec_size ?_ | refine wpList_store_row rfl 60 (.tmp 2) (.tmp 25) rfl w.heap.size _ rfl rfl 60 _ Hx.out vec_size (by kernel_rfl) (by kernel_rfl) ?_)
      have h2 : firstE f 5 = 0 := firstE_none (fun j hj => Hall.out j (by omega))
      refine bodyPost_row2 Tryz.results138 w.heap.size _ _ _ _ (.int .i64 0) ?d2 ?p2 ?s2 (Hx.out.put (fun j => (f j).1)) Tryz.underlying60 rfl vec_size ?_
      case d2 => rfl
      case p2 => rfl
      case s2 => rfl
      exact ⟨endRow (x := fun j => (f j).1) (fun j _ => by unfold eachR; rw [if_neg (by rw [h2]; simp)]) h2.symm, below_setRow HB.out (Nat.le_refl _) _⟩

end Go.Proofs.YtfpbdfagcfdbbaaGreat.Qu

namespace Go.Proofs.YtfpbdfagcfdbbaaGreat.Qu
open Go.RowKit

def addL (l : List Int) : Int × Int := if checkL l ≠ 0 then (0, checkL l) else if top < l.sum then (0, 10) else (l.sum, 0)

theorem sum_snoc {l : List Int} {k : Nat} {x : Int} (hk : l[k]? = some x) : (l.take (k + 1)).sum = (l.take k).sum + x := by
  rw [List.take_add_one, hk]; simp
theorem sum_nonneg {l : List Int} (h : ∀ y ∈ l, 0 ≤ y) : 0 ≤ l.sum := by
  induction l with
  | nil => simp
  | cons a t ih =>
    have h1 := h a (by simp)
    have h2 := ih (fun y hy => h y (by simp [hy]))
    simp only [List.sum_cons]; omega
theorem sum_take_le {l : List Int} (h : ∀ y ∈ l, 0 ≤ y) (k : Nat) : 0 ≤ (l.take k).sum ∧ (l.take k).sum ≤ l.sum := by
  have e : l.sum = (l.take k).sum + (l.drop k).sum := by rw [← List.sum_append, List.take_append_drop]
  have h1 := sum_nonneg (l := l.take k) (fun y hy => h y (List.mem_of_mem_take hy))
  have h2 := sum_nonneg (l := l.drop k) (fun y hy => h y (List.mem_of_mem_drop hy))
  omega
theorem chk_cases (l : List Int) : ((∃ x ∈ l, x < 0) ∧ checkL l = 2) ∨ ((∀ x ∈ l, 0 ≤ x) ∧ (∃ x ∈ l, top < x) ∧ checkL l = 10) ∨ ((∀ x ∈ l, 0 ≤ x) ∧ (∀ x ∈ l, x ≤ top) ∧ checkL l = 0) := by
  unfold checkL
  by_cases h : ∃ x ∈ l, x < 0
  · exact .inl ⟨h, if_pos h⟩
  · have h' : ∀ x ∈ l, 0 ≤ x := fun x hx => by
      rcases Int.lt_or_le x 0 with h0 | h0
      · exact absurd ⟨x, hx, h0⟩ h
      · exact h0
    by_cases h2 : ∃ x ∈ l, top < x
    · exact .inr (.inl ⟨h', h2, by rw [if_neg h, if_pos h2]⟩)
    · refine .inr (.inr ⟨h', fun x hx => ?_, by rw [if_neg h, if_neg h2]⟩)
      rcases Int.lt_or_le top x with h0 | h0
      · exact absurd ⟨x, hx, h0⟩ h2
      · exact h0

theorem check_is (A : Option Addr) (c : Nat) (l : List Int) (r : Int) (w : World) (hl : l.length ≤ maxLen) (hr : RowOf w A l) (h : checkL l = r) :
    Calls Tryz.prog 177 #[.slice A l.length c] w fun e w' => e = .returned (.int .i64 r) ∧ w = w' := h ▸ check_any A c l w hl hr

set_option maxHeartbeats 400000 in
theorem add_any (A : Option Addr) (c : Nat) (l : List Int) (w : World) (hl : l.length ≤ maxLen) (hr : RowOf w A l) :
    Calls Tryz.prog 140 #[.slice A l.length c] w fun e w' => e = .returned (.tuple #[.int .i64 (addL l).1, .int .i64 (addL l).2]) ∧ w = w' := by
  have Hl := Lib.hid hl
  unfold maxLen at hl
  have Hr := Lib.hid hr
  clear hr
  rcases chk_cases l with ⟨_, h⟩ | ⟨_, _, h⟩ | ⟨h0, h1, h⟩
  · have H := Lib.hid h
    clear h
    go_enter Tryz.func140, Tryz.ntmps140
    go_wp2_with (go_at_call 177; refine (check_is A c l 2 _ Hl.out Hr.out H.out).mono ?_; rintro e w' ⟨rfl, rfl⟩)
    go_ret2
    exact ⟨ret2I (by unfold addL; rw [H.out]; rfl) (by unfold addL; rw [H.out]; rfl), rfl⟩
  · have H := Lib.hid h
    clear h
    go_enter Tryz.func140, Tryz.ntmps140
    go_wp2_with (go_at_call 177; refine (check_is A c l 10 _ Hl.out Hr.out H.out).mono ?_; rintro e w' ⟨rfl, rfl⟩)
    go_ret2
    exact ⟨ret2I (by unfold addL; rw [H.out]; rfl) (by unfold addL; rw [H.out]; rfl), rfl⟩
  · have H := Lib.hid h
    have H0 := Lib.hid h0
    have H1 := Lib.hid h1
    clear h h0 h1
    go_enter Tryz.func140, Tryz.ntmps140
    go_wp2_with (go_at_call 177; refine (check_is A c l 0 _ Hl.out Hr.out H.out).mono ?_; rintro e w' ⟨rfl, rfl⟩)
    go_loop [5, 15] (fun s i => ∃ k : Nat, k ≤ l.length ∧ i = .int .i64 k ∧ s = .int .i64 (l.take k).sum ∧ (l.take k).sum ≤ top) (fun _ i => l.length - (intOf i).toNat)
    case atStart => exact ⟨0, Nat.zero_le _, rfl, rfl, by simp [top]⟩
    case round =>
      obtain ⟨k, hk, rfl, rfl, hle⟩ := hrel
      have hb := sum_take_le H0.out k
      unfold top at hle
      by_cases hlt : k < l.length
      · obtain ⟨b, o, rfl, hc⟩ := Hr.out k l[k] (List.getElem?_eq_getElem hlt)
        have Hs := Lib.hid (sum_snoc (List.getElem?_eq_getElem hlt))
        have hx0 := H0.out l[k] (List.getElem_mem _)
        have hx1 := H1.out l[k] (List.getElem_mem _)
        unfold top at hx1
        have hb2 := Lib.hid (sum_take_le H0.out (k + 1))
        by_cases hbig : 1099511627776 < (l.take k).sum + l[k]
        · go_wp2
          go_ret2
          have ht : top < l.sum := by have h := hb2.out; rw [Hs.out] at h; unfold top; omega
          exact ⟨ret2I (by unfold addL; rw [H.out, if_neg (by simp), if_pos ht]) (by unfold addL; rw [H.out, if_neg (by simp), if_pos ht]), rfl⟩
        · go_wp2
          go_round
          case rel => exact ⟨k + 1, by omega, by go_num, by rw [Hs.out], by rw [Hs.out]; unfold top; omega⟩
          case measure => simp [intOf]; omega
      · have He := Lib.hid (show l.take k = l from List.take_of_length_le (by omega))
        go_wp2
        go_ret2
        rw [He.out] at hle ⊢
        have ht : ¬ top < l.sum := by unfold top; omega
        exact ⟨ret2I (by unfold addL; rw [H.out, if_neg (by simp), if_neg ht]) (by unfold addL; rw [H.out, if_neg (by simp), if_neg ht]), rfl⟩

set_option maxHeartbeats 400000 in
theorem radd_any (A : Option Addr) (c : Nat) (l : List Int) (w : World) (hl : l.length ≤ maxLen) (hr : RowOf w A l) :
    Calls Tryz.prog 127 #[.slice A l.length c] w fun e w' => e = .returned (.tuple #[.int .i64 (addL l).1, .int .i64 (addL l).2]) ∧ w = w' := by
  unfold maxLen at hl
  have Hr := Lib.hid hr
  clear hr
  go_enter Tryz.func127, Tryz.ntmps127
  go_wp2
  go_loop [4] (fun i => ∃ k : Nat, k ≤ l.length ∧ i = .int .i64 k ∧ ∀ y ∈ l.take k, 0 ≤ y) (fun i => l.length - (intOf i).toNat)
  case atStart => exact ⟨0, Nat.zero_le _, rfl, by simp⟩
  case round =>
    obtain ⟨k, hk, rfl, hall⟩ := hrel
    have Hall := Lib.hid hall
    clear hall
    by_cases hlt : k < l.length
    · obtain ⟨b, o, rfl, hc⟩ := Hr.out k l[k] (List.getElem?_eq_getElem hlt)
      have Hx := Lib.hid (show l[k]? = some l[k] from List.getElem?_eq_getElem hlt)
      by_cases hneg : l[k] < 0
      · go_wp2
        go_ret2
        have h : checkL l = 2 := by unfold checkL; rw [if_pos ⟨l[k], List.getElem_mem _, hneg⟩]
        exact ⟨ret2I (by unfold addL; rw [h]; rfl) (by unfold addL; rw [h]; rfl), rfl⟩
      · go_wp2
        go_round
        case rel => exact ⟨k + 1, by omega, by go_num, take_all_snoc Hx.out Hall.out (by omega)⟩
        case measure => simp [intOf]; omega
    · have H0 : Hid (∀ y ∈ l, 0 ≤ y) := by
        have h := Hall.out
        rw [List.take_of_length_le (by omega)] at h
        exact h
      go_wp2
      go_loop [5, 6] (fun s i => ∃ j : Nat, j ≤ l.length ∧ i = .int .i64 j ∧ s = .int .i64 (l.take j).sum ∧ (l.take j).sum ≤ top ∧ ∀ y ∈ l.take j, y ≤ top) (fun _ i => l.length - (intOf i).toNat)
      case atStart => exact ⟨0, Nat.zero_le _, rfl, rfl, by simp [top], by simp⟩
      case round =>
        obtain ⟨j, hj, rfl, rfl, hle, hall⟩ := hrel
        have Hall2 := Lib.hid hall
        clear hall
        have hb := sum_take_le H0.out j
        unfold top at hle
        by_cases hlt : j < l.length
        · obtain ⟨b, o, rfl, hc⟩ := Hr.out j l[j] (List.getElem?_eq_getElem hlt)
          have Hx := Lib.hid (show l[j]? = some l[j] from List.getElem?_eq_getElem hlt)
          have Hs := Lib.hid (sum_snoc (List.getElem?_eq_getElem hlt))
          have hx0 := H0.out l[j] (List.getElem_mem _)
          have hb2 := Lib.hid (sum_take_le H0.out (j + 1))
          by_cases hbig : 1099511627776 < l[j]
          · go_wp2
            go_ret2
            have h : checkL l = 10 := by
              unfold checkL
              rw [if_neg (fun ⟨x, hx, h0⟩ => by have := H0.out x hx; omega), if_pos ⟨l[j], List.getElem_mem _, by unfold top; omega⟩]
            exact ⟨ret2I (by unfold addL; rw [h]; rfl) (by unfold addL; rw [h]; rfl), rfl⟩
          · by_cases hbig2 : 1099511627776 < (l.take j).sum + l[j]
            · go_wp2
              go_ret2
              have ht : top < l.sum := by have h := hb2.out; rw [Hs.out] at h; unfold top; omega
              rcases chk_cases l with ⟨⟨x, hx, h0⟩, _⟩ | ⟨_, _, h⟩ | ⟨_, _, h⟩
              · have := H0.out x hx; omega
              · exact ⟨ret2I (by unfold addL; rw [h]; rfl) (by unfold addL; rw [h]; rfl), rfl⟩
              · exact ⟨ret2I (by unfold addL; rw [h, if_neg (by simp), if_pos ht]) (by unfold addL; rw [h, if_neg (by simp), if_pos ht]), rfl⟩
            · go_wp2
              go_round
              case rel => exact ⟨j + 1, by omega, by go_num, by rw [Hs.out], by rw [Hs.out]; unfold top; omega, take_all_snoc Hx.out Hall2.out (by unfold top; omega)⟩
              case measure => simp [intOf]; omega
        · have He := Lib.hid (show l.take j = l from List.take_of_length_le (by omega))
          go_wp2
          go_ret2
          have h1 := Hall2.out
          rw [He.out] at hle h1 ⊢
          have ht : ¬ top < l.sum := by unfold top; omega
          rcases chk_cases l with ⟨⟨x, hx, h0⟩, _⟩ | ⟨_, ⟨x, hx, h0⟩, _⟩ | ⟨_, _, h⟩
          · have := H0.out x hx; omega
          · have := h1 x hx; omega
          · exact ⟨ret2I (by unfold addL; rw [h, if_neg (by simp), if_neg ht]) (by unfold addL; rw [h, if_neg (by simp), if_neg ht]), rfl⟩

end Go.Proofs.YtfpbdfagcfdbbaaGreat.Qu

namespace Go.Proofs.YtfpbdfagcfdbbaaGreat.Qu
open Go.RowKit

theorem great_zero : ∀ k, greatest (fun _ => 0) k = 0
  | 0 => rfl
  | k + 1 => by rw [greatest, great_zero k]; simp
theorem eachR_err {f : Nat → Int × Int} (h : firstE f 5 ≠ 0) : eachR f = fun _ => 0 := by
  funext j
  unfold eachR
  rw [if_pos h]
theorem eachR_ok {f : Nat → Int × Int} (h : firstE f 5 = 0) : eachR f = fun j => (f j).1 := by
  funext j
  unfold eachR
  rw [if_neg (by rw [h]; simp)]

/-- Rows lie in a slice. -/
def RowsOf (w : World) (A : Option Addr) (l : List (Nat → Int)) : Prop :=
  ∀ i x, l[i]? = some x → ∃ b o, A = some ⟨b, o, none⟩ ∧ b < w.heap.size ∧ ∀ k, k < 5 → w.cell? ⟨b, o + i * 5 + k, none⟩ = some (.int .i64 (x k))
theorem RowsOf.below {w w' : World} {A : Option Addr} {l : List (Nat → Int)} {B : Nat} (h : RowsOf w A l) (hb : Below B w w') (hB : w.heap.size ≤ B) : RowsOf w' A l := by
  intro i x hx
  obtain ⟨b, o, hA, hlt, hc⟩ := h i x hx
  exact ⟨b, o, hA, Nat.lt_of_lt_of_le hlt hb.size, fun k hk => (hb.cell (p := ⟨b, o + i * 5 + k, none⟩) (Nat.lt_of_lt_of_le hlt hB)).trans (hc k hk)⟩

/-- What stands at one place in each of the rows. -/
def colL (l : List (Nat → Int)) (p : Nat) : List Int := l.map (fun x => x p)

/-- These numbers lie in a block. -/
def NumsAt (w : World) (B n : Nat) (z : Nat → Int) : Prop := ∃ cs : Array Value, w.heap[B]? = some (.cells cs 3 (0, 0)) ∧ cs.size = n ∧ ∀ j, j < n → cs[j]? = some (.int .i64 (z j))
theorem NumsAt.cell {w : World} {B n : Nat} {z : Nat → Int} (h : NumsAt w B n z) {k : Nat} (hk : k < n) : w.cell? ⟨B, k, none⟩ = some (.int .i64 (z k)) := by
  obtain ⟨cs, hb, _, hz⟩ := h
  rw [cell_of_row w B k cs _ _ hb, hz k hk]
theorem NumsAt.free {w : World} {B n : Nat} {z : Nat → Int} (h : NumsAt w B n z) (k : Nat) : w.frozen? ⟨B, k, none⟩ = false := by
  obtain ⟨cs, hb, _, _⟩ := h
  simp [World.frozen?, hb]
theorem NumsAt.lt {w : World} {B n : Nat} {z : Nat → Int} (h : NumsAt w B n z) : B < w.heap.size := by
  obtain ⟨cs, hb, _, _⟩ := h
  rcases Nat.lt_or_ge B w.heap.size with g | g
  · exact g
  · rw [Array.getElem?_eq_none g] at hb; cases hb
theorem NumsAt.set {w : World} {B n : Nat} {z : Nat → Int} (h : NumsAt w B n z) (k : Nat) (v : Int) : NumsAt (w.setCell ⟨B, k, none⟩ (.int .i64 v)) B n (upd z k v) := by
  obtain ⟨cs, hb, hs, hz⟩ := h
  refine ⟨cs.setIfInBounds k (.int .i64 v), heap_setCell_same w B k cs _ _ hb, by simpa using hs, fun j hj => ?_⟩
  unfold upd
  by_cases hjk : j = k
  · subst hjk
    rw [Array.getElem?_setIfInBounds_self_of_lt (by omega)]
    simp
  · rw [Array.getElem?_setIfInBounds_ne (Ne.symm hjk), hz j hj]
    simp [hjk]
theorem NumsAt.alloc {w : World} {B n : Nat} {z : Nat → Int} (h : NumsAt w B n z) (o : Obj) : NumsAt (w.alloc o) B n z := by
  have hlt := h.lt
  obtain ⟨cs, hb, hs, hz⟩ := h
  exact ⟨cs, by rw [Below.heap_alloc w o B hlt, hb], hs, hz⟩

theorem int_info : (Tryz.prog.info? 3).map (fun i => (i.zero, i.size, i.bytes)) = some (some (.int .i64 0), 1, 8) := by kernel_rfl
/-- A slice of n noughts is made. -/
theorem run_nums (w : World) (n : Nat) (hn : n ≤ 12) : (Instr.makeSlice 27 (.int .i64 (n : Int)) (.int .i64 (n : Int))).run Tryz.prog w = .ok (.slice (some ⟨w.heap.size, 0, none⟩) n n) (w.alloc (.cells (madeCells #[.int .i64 0] n) 3)) := by
  cases hi : Tryz.prog.info? 3 with
  | none => have h := int_info; rw [hi] at h; cases h
  | some i =>
    have h := int_info
    rw [hi] at h
    simp only [Option.map_some, Option.some.injEq, Prod.mk.injEq] at h
    obtain ⟨h0, h1, h2⟩ := h
    have k := run_make (P := Tryz.prog) w 27 3 i (.int .i64 0) Tryz.underlying27 hi h0 .i64 .i64 n n (by omega) (by omega) (by rw [h2]; omega) (by omega)
    simpa [h1, Value.cells] using k
theorem nums_new (w : World) (n : Nat) : NumsAt (w.alloc (.cells (madeCells #[.int .i64 0] n) 3)) w.heap.size n (fun _ => 0) := by
  refine ⟨_, heap_alloc_new _ _, size_madeCells _ _, fun j hj => ?_⟩
  unfold madeCells
  rw [Array.getElem?_map, Array.getElem?_eq_getElem (by simpa using hj)]
  simp [Nat.mod_one]

set_option maxRecDepth 100000 in
set_option maxHeartbeats 1000000 in
theorem column_any (A : Option Addr) (c : Nat) (l : List (Nat → Int)) (p : Nat) (w : World) (hl : l.length ≤ 12) (hp : p < 5) (hr : RowsOf w A l) :
    Calls Tryz.prog 141 #[.slice A l.length c, .int .i64 (p : Int)] w fun e w' => e = .returned (.slice (some ⟨w.heap.size, 0, none⟩) l.length l.length) ∧ Below w.heap.size w w' ∧ RowOf w' (some ⟨w.heap.size, 0, none⟩) (colL l p) := by
  have Hr := Lib.hid hr
  clear hr
  have hmk := run_nums w l.length hl
  go_enter Tryz.func141, Tryz.ntmps141
  go_wp2
  clear hmk
  go_loopw [13] (fun i wr => ∃ k : Nat, k ≤ l.length ∧ i = .int .i64 k ∧ NumsAt wr w.heap.size l.length (fun j => if j < k then (l.getD j (fun _ => 0)) p else 0) ∧ Below w.heap.size w wr) (fun i _ => l.length - (intOf i).toNat)
  case atStart => exact ⟨0, by omega, rfl, nums_new w l.length, (Below.refl _ _).alloc (Nat.le_refl _) _⟩
  case round =>
    obtain ⟨k, hk, rfl, hn, hb⟩ := hrel
    have Hn := Lib.hid hn
    have HB := Lib.hid hb
    clear hn hb
    by_cases hlt : k < l.length
    · obtain ⟨b, o, rfl, hbl, hc⟩ := Hr.out k l[k] (List.getElem?_eq_getElem hlt)
      have hc' : ∀ j, j < 5 → wr.cell? ⟨b, o + k * 5 + j, none⟩ = some (.int .i64 (l[k] j)) := fun j hj => (HB.out.cell (p := ⟨b, o + k * 5 + j, none⟩) hbl).trans (hc j hj)
      have c0 := hc' 0 (by omega)
      have c1 := hc' 1 (by omega)
      have c2 := hc' 2 (by omega)
      have c3 := hc' 3 (by omega)
      have c4 := hc' 4 (by omega)
      clear hc hc'
      simp only [Nat.add_zero] at c0
      have hv := cell_new l[k] p hp wr 60
      have hcn := (Hn.out.alloc (.cells #[.int .i64 (l[k] 0), .int .i64 (l[k] 1), .int .i64 (l[k] 2), .int .i64 (l[k] 3), .int .i64 (l[k] 4)] 60)).cell hlt
      have hfn := (Hn.out.alloc (.cells #[.int .i64 (l[k] 0), .int .i64 (l[k] 1), .int .i64 (l[k] 2), .int .i64 (l[k] 3), .int .i64 (l[k] 4)] 60)).free k
      go_wp2
      go_roundw
      case rel =>
        refine ⟨k + 1, by omega, by go_num, ?_, (HB.out.alloc HB.out.size _).setCell (by simp) _⟩
        have h := (Hn.out.alloc (.cells #[.int .i64 (l[k] 0), .int .i64 (l[k] 1), .int .i64 (l[k] 2), .int .i64 (l[k] 3), .int .i64 (l[k] 4)] 60)).set k (l[k] p)
        have e : (fun j => if j < k + 1 then (l.getD j (fun _ => 0)) p else 0) = upd (fun j => if j < k then (l.getD j (fun _ => 0)) p else 0) k (l[k] p) := by
          funext j
          unfold upd
          by_cases hj : j = k
          · subst hj
            simp [List.getD_eq_getElem?_getD, List.getElem?_eq_getElem hlt]
          · by_cases hj2 : j < k
            · simp [hj, hj2, show j < k + 1 by omega]
            · simp [hj, hj2, show ¬ j < k + 1 by omega]
        rw [e]
        exact h
      case measure => simp [intOf]; omega
    · go_wp2
      go_ret
      refine ⟨rfl, HB.out, fun j x hj => ?_⟩
      unfold colL at hj
      rw [List.getElem?_map] at hj
      cases hq : l[j]? with
      | none => rw [hq] at hj; cases hj
      | some y =>
        rw [hq] at hj
        simp only [Option.map_some, Option.some.injEq] at hj
        subst hj
        have hjl : j < l.length := (List.getElem?_eq_some_iff.1 hq).1
        refine ⟨w.heap.size, 0, rfl, ?_⟩
        have h := Hn.out.cell hjl
        simp only [show j < k by omega, if_true, List.getD_eq_getElem?_getD, hq, Option.getD_some] at h
        rw [Nat.zero_add]
        exact h

end Go.Proofs.YtfpbdfagcfdbbaaGreat.Qu

namespace Go.Proofs.YtfpbdfagcfdbbaaGreat.Qu
open Go.RowKit

def plusF (l : List (Nat → Int)) : Nat → Int × Int := fun k => addL (colL l k)

theorem add_to (A : Option Addr) (n c : Nat) (l : List Int) (s e0 : Int) (w : World) (hn : l.length = n) (hl : n ≤ 12) (hr : RowOf w A l) (h : addL l = (s, e0)) :
    Calls Tryz.prog 140 #[.slice A n c] w fun e w' => e = .returned (.tuple #[.int .i64 s, .int .i64 e0]) ∧ w = w' := by
  have k := add_any A c l w (by unfold maxLen; omega) hr
  rw [h, hn] at k
  exact k
theorem radd_to (A : Option Addr) (n c : Nat) (l : List Int) (s e0 : Int) (w : World) (hn : l.length = n) (hl : n ≤ 12) (hr : RowOf w A l) (h : addL l = (s, e0)) :
    Calls Tryz.prog 127 #[.slice A n c] w fun e w' => e = .returned (.tuple #[.int .i64 s, .int .i64 e0]) ∧ w = w' := by
  have k := radd_any A c l w (by unfold maxLen; omega) hr
  rw [h, hn] at k
  exact k
theorem col_len (l : List (Nat → Int)) (p : Nat) : (colL l p).length = l.length := by unfold colL; simp

theorem col_snoc {l : List (Nat → Int)} {m : Nat} (h : m < l.length) (k : Nat) : colL (l.take (m + 1)) k = colL (l.take m) k ++ [l[m] k] := by
  unfold colL
  rw [List.take_succ_eq_append_getElem h, List.map_append]
  rfl

set_option maxRecDepth 100000 in
set_option maxHeartbeats 400000 in
theorem plus_in (A : Option Addr) (c : Nat) (l : List (Nat → Int)) (k q : Nat) (w : World) (hk : k < 5) (hl : l.length ≤ 12) (hq : w.cell? ⟨q, 0, none⟩ = some (.slice A l.length c)) (hr : RowsOf w A l) :
    Calls Tryz.prog 139 #[.int .i64 (k : Int), .pointer (some ⟨q, 0, none⟩)] w fun e w' => e = .returned (.tuple #[.int .i64 (plusF l k).1, .int .i64 (plusF l k).2]) ∧ Below w.heap.size w w' := by
  have Hr := Lib.hid hr
  clear hr
  rcases ha : plusF l k with ⟨n, e0⟩
  have Ha := Lib.hid ha
  clear ha
  go_enter Tryz.func139, Tryz.ntmps139
  go_wp2_with fail
  refine (column_any A c l k _ hl hk Hr.out).mono ?_
  rintro e w1 ⟨rfl, hb, hrow⟩
  have HB := Lib.hid hb
  have Hrow := Lib.hid hrow
  clear hb hrow hq
  go_wp2_with fail
  refine (add_to _ _ _ (colL l k) n e0 _ (col_len l k) hl Hrow.out Ha.out).mono ?_
  rintro e w2 ⟨rfl, rfl⟩
  go_wp2
  go_ret2
  exact ⟨rfl, HB.out⟩

set_option maxRecDepth 100000 in
set_option maxHeartbeats 400000 in
theorem plus_any (A : Option Addr) (c : Nat) (l : List (Nat → Int)) (w : World) (hl : l.length ≤ 12) (hr : RowsOf w A l) :
    Calls Tryz.prog 111 #[.slice A l.length c] w fun e w' => e = .returned (.tuple #[.agg #[.int .i64 (eachR (plusF l) 0), .int .i64 (eachR (plusF l) 1), .int .i64 (eachR (plusF l) 2), .int .i64 (eachR (plusF l) 3), .int .i64 (eachR (plusF l) 4)], .int .i64 (firstE (plusF l) 5)]) ∧ Below w.heap.size w w' := by
  have Hr := Lib.hid hr
  clear hr
  have hmf := run_func
  go_enter Tryz.func111, Tryz.ntmps111
  go_wp2_with fail
  clear hmf
  have hb0 := below2 w (.cells #[.slice A l.length c] 114) (.cells #[.int .i64 0, .int .i64 0, .int .i64 0, .int .i64 0, .int .i64 0] 60)
  have hc : ((w.alloc (.cells #[.slice A l.length c] 114)).alloc (.cells #[.int .i64 0, .int .i64 0, .int .i64 0, .int .i64 0, .int .i64 0] 60)).cell? ⟨w.heap.size, 0, none⟩ = some (.slice A l.length c) := by simp [go_sem]
  have hz : RowAt ((w.alloc (.cells #[.slice A l.length c] 114)).alloc (.cells #[.int .i64 0, .int .i64 0, .int .i64 0, .int .i64 0, .int .i64 0] 60)) (w.heap.size + 1) (fun _ => 0) := heap_alloc2_new _ _ _
  have hrs : RowsOf ((w.alloc (.cells #[.slice A l.length c] 114)).alloc (.cells #[.int .i64 0, .int .i64 0, .int .i64 0, .int .i64 0, .int .i64 0] 60)) A l := Hr.out.below hb0 (Nat.le_refl _)
  refine (each1_any 139 _ (plusF l) _ Tryz.call139 ?_).mono ?_
  · intro k hk w' hb
    exact plus_in A c l k _ w' hk hl ((hb.cell (p := ⟨w.heap.size, 0, none⟩) (Nat.lt_of_succ_lt hz.lt)).trans hc) (hrs.below hb (Nat.le_refl _))
  rintro e w1 ⟨rfl, hb⟩
  have Hz := Lib.hid (hz.below hb hz.lt)
  have HB := Lib.hid (hb0.trans (hb.mono hb0.size))
  clear hc hz hrs hb0 hb
  go_wp2_with (refine wpList_store_row rfl 60 (.tmp 2) (.tmp 6) rfl (w.heap.size + 1) _ rfl rfl 60 _ Hz.out vec_size (by kernel_rfl) (by kernel_rfl) ?_)
  refine bodyPost_row2 Tryz.results111 (w.heap.size + 1) _ _ _ _ (.int .i64 (firstE (plusF l) 5)) ?d1 ?p1 ?s1 (Hz.out.put (eachR (plusF l))) Tryz.underlying60 rfl vec_size ?_
  case d1 => rfl
  case p1 => rfl
  case s1 => rfl
  exact ⟨rfl, below_setRow HB.out (by omega) _⟩

theorem own_ge {w : World} {base : Nat} {e : TypeId} {v : Value} {n : Nat} {xs : List Value} (h : w.ownsRow base e 1 v n xs) {j : Nat} (hj : v.ownBlock = some j) : base ≤ j := (h.lt j hj).1

theorem own_row {w : World} {base : Nat} {v : Value} {n : Nat} {zs : List Int} (h : w.ownsRow base 3 1 v n (zs.map (Value.int .i64))) (hz : zs.length = n) : ∃ A c, v = .slice A n c ∧ RowOf w A zs := by
  rcases h.2 with ⟨rfl, h0⟩ | ⟨g, cap, cur, rfl, _⟩
  · obtain rfl : n = 0 := by
      have := h.1
      simp_all
    exact ⟨none, 0, rfl, by rw [List.length_eq_zero_iff.1 hz]; exact RowOf.nil _ _⟩
  · refine ⟨_, cap, rfl, fun k x hk => ⟨g, 0, rfl, ?_⟩⟩
    have hlt : k < zs.length := (List.getElem?_eq_some_iff.1 hk).1
    have := h.cells (g := g) rfl k (.int .i64 x) (by rw [List.getElem?_map, hk]; rfl)
    rw [WideShapes.add_plain] at this
    exact this

set_option maxRecDepth 100000 in
set_option maxHeartbeats 2000000 in
theorem rplus_any (A : Option Addr) (c : Nat) (l : List (Nat → Int)) (w : World) (hl : l.length ≤ 12) (hr : RowsOf w A l) :
    Calls Tryz.prog 90 #[.slice A l.length c] w fun e w' => e = .returned (.tuple #[.agg #[.int .i64 (eachR (plusF l) 0), .int .i64 (eachR (plusF l) 1), .int .i64 (eachR (plusF l) 2), .int .i64 (eachR (plusF l) 3), .int .i64 (eachR (plusF l) 4)], .int .i64 (firstE (plusF l) 5)]) ∧ Below w.heap.size w w' := by
  have Hr := Lib.hid hr
  clear hr
  obtain ⟨i0, hi0, hz0, hz1, hz2⟩ := info_parts int_info
  go_enter Tryz.func90, Tryz.ntmps90
  go_wp2
  go_loopw [5] (fun i wr => ∃ k : Nat, k ≤ 5 ∧ i = .int .i64 k ∧ (∀ j, j < k → (plusF l j).2 = 0) ∧ RowAt wr w.heap.size (fun _ => 0) ∧ RowAt wr (w.heap.size + 1) (part (plusF l) (fun _ => 0) k) ∧ Below w.heap.size w wr) (fun i _ => 5 - (intOf i).toNat)
  case atStart => exact ⟨0, by omega, rfl, by omega, heap_alloc2_old _ _ _, by rw [part_zero]; exact heap_alloc2_new _ _ _, below2 _ _ _⟩
  case round =>
    obtain ⟨k, hk, rfl, hall, hx, hy, hb⟩ := hrel
    have Hall := Lib.hid hall
    have Hx := Lib.hid hx
    have Hy := Lib.hid hy
    have HB := Lib.hid hb
    clear hall hx hy hb
    by_cases hlt : k < 5
    · have hd5 : decide ((k : Int) < 5) = true := by simp; omega
      go_wp2
      obtain ⟨wo, hwo⟩ : ∃ wo : World, wo = wr := ⟨_, rfl⟩
      have Hwo := Lib.hid hwo
      have HX : Hid (RowAt wo w.heap.size (fun _ => 0)) := by rw [hwo]; exact Hx.out
      have HY : Hid (RowAt wo (w.heap.size + 1) (part (plusF l) (fun _ => 0) k)) := by rw [hwo]; exact Hy.out
      have HBo : Hid (Below w.heap.size w wo) := by rw [hwo]; exact HB.out
      rw [← hwo]
      clear hwo Hwo Hx Hy HB
      go_loopw [6, 7] (fun row i w1 => ∃ m : Nat, m ≤ l.length ∧ i = .int .i64 m ∧ w1.ownsRow wo.heap.size 3 1 row m ((colL (l.take m) k).map (Value.int .i64)) ∧ Below wo.heap.size wo w1) (fun _ i _ => l.length - (intOf i).toNat)
      case atStart => exact ⟨0, by omega, rfl, ⟨by simp [colL], .inl ⟨rfl, rfl⟩⟩, Below.refl _ _⟩
      case round =>
        obtain ⟨m, hm, rfl, hown, hbw⟩ := hrel
        have Hown := Lib.hid hown
        have Hbw := Lib.hid hbw
        clear hown hbw
        have hwz := HBo.out.size
        have hwz2 := Hbw.out.size
        by_cases hlm : m < l.length
        · obtain ⟨b, o, rfl, hbl, hc⟩ := Hr.out m l[m] (List.getElem?_eq_getElem hlm)
          have hc1 : wr.cell? ⟨b, o + m * 5 + k, none⟩ = some (.int .i64 (l[m] k)) := ((Hbw.out.cell (p := ⟨b, o + m * 5 + k, none⟩) (Nat.lt_of_lt_of_le hbl hwz)).trans (HBo.out.cell (p := ⟨b, o + m * 5 + k, none⟩) hbl)).trans (hc k hlt)
          have Hsn := Lib.hid (col_snoc hlm k)
          clear hc
          go_wp2_with (at_builtin; refine wpList_append_own _ rfl _ _ 27 rfl wo.heap.size 3 i0 (.int .i64 0) 1 8 Tryz.underlying27 hi0 hz0 hz1 hz2 rfl (by decide) _ _ _ rfl (Hown.out.alloc _) ⟨wr.heap.size, 0, none⟩ 1 1 [.int .i64 (l[m] k)] rfl rfl ?c1 ?c2 ?c3 ?c4 ?c5 ?_)
          case c1 =>
            intro j u hj
            match j, hj with
            | 0, hj => simp at hj; subst hj; simp [Addr.add]
          case c2 => first | rfl | (intro u hu; simp at hu; subst hu; rfl)
          case c3 => unfold maxLen; omega
          case c4 => omega
          case c5 => simp; omega
          intro v' w2 hown' hgrow' _
          have Hown2 := Lib.hid hown'
          have Hbw2 := Lib.hid ((Hbw.out.alloc Hbw.out.size (.cells #[.int .i64 (l[m] k)] 3)).grown hgrow' (by simp; omega) (fun j hj => own_ge Hown.out hj))
          clear hown' hgrow'
          go_wp2
          go_roundw
          case rel => exact ⟨m + 1, by omega, by go_num, by rw [Hsn.out, List.map_append]; exact Hown2.out, Hbw2.out⟩
          case measure => simp [intOf]; omega
        · obtain rfl : m = l.length := by omega
          have Hall2 := Lib.hid (show l.take l.length = l from List.take_length)
          have hown2 := Hown.out
          rw [Hall2.out] at hown2
          obtain ⟨A2, c2, rfl, hrow⟩ := own_row hown2 (col_len l k)
          have Hrow := Lib.hid hrow
          clear hown2 hrow
          have Hx1 := Lib.hid (HX.out.below Hbw.out HX.out.lt)
          have Hy1 := Lib.hid (HY.out.below Hbw.out HY.out.lt)
          have HB1 := Lib.hid (HBo.out.trans (Hbw.out.mono HBo.out.size))
          rcases ha : plusF l k with ⟨n, e0⟩
          have Ha := Lib.hid ha
          clear ha
          go_wp2_with fail
          refine (radd_to _ _ _ (colL l k) n e0 _ (col_len l k) hl Hrow.out Ha.out).mono ?_
          rintro e w2 ⟨rfl, rfl⟩
          by_cases he : e0 = 0
          · have heb : (e0 != 0) = false := by simp [he]
            have He := Lib.hid he
            clear he
            have cy := Hy1.out.cell hlt
            have fy := Hy1.out.free k
            go_wp2
            go_roundw
            case rel => exact ⟨k + 1, by omega, by go_num, all_snoc Hall.out (by rw [Ha.out]; exact He.out), Hx1.out.other _ _ (by simp), by rw [part_succ (n := n) (by rw [Ha.out])]; exact Hy1.out.set hlt n, HB1.out.setCell (by simp) _⟩
            case measure => simp [intOf]; omega
          · have heb : (e0 != 0) = true := by simpa using he
            have He := Lib.hid he
            clear he
            go_wp2_with (refine wpList_store_row rfl 60 (.tmp 2) (.tmp 36) rfl w.heap.size #[.int .i64 0, .int .i64 0, .int .i64 0, .int .i64 0, .int .i64 0] rfl rfl 60 _ Hx1.out vec_size (by kernel_rfl) (by kernel_rfl) ?_)
            have h1 : (plusF l k).2 = e0 := by rw [Ha.out]
            have h2 : firstE (plusF l) 5 = e0 := by rw [firstE_at hlt Hall.out (by rw [h1]; exact He.out), h1]
            refine bodyPost_row2 Tryz.results90 w.heap.size _ _ _ _ (.int .i64 e0) ?d1 ?p1 ?s1 (Hx1.out.put (fun _ => 0)) Tryz.underlying60 rfl vec_size ?_
            case d1 => rfl
            case p1 => rfl
            case s1 => rfl
            exact ⟨endRow (x := fun _ => 0) (fun j _ => by unfold eachR; rw [if_pos (by rw [h2]; exact He.out)]) h2.symm, below_setRow HB1.out (Nat.le_refl _) _⟩
    · obtain rfl : k = 5 := by omega
      have H2 := Lib.hid (firstE_none Hall.out)
      go_wp2_with (first | refine wpList_load_row rfl 60 (.tmp 4) rfl (w.heap.size + 1) rfl 60 _ (0, 0) _ Hy.out Tryz.underlying60 rfl vec_size ?_ | refine wpList_store_row rfl 60 (.tmp 2) (.tmp 41) rfl w.heap.size _ rfl rfl 60 _ Hx.out vec_size (by kernel_rfl) (by kernel_rfl) ?_)
      refine bodyPost_row2 Tryz.results90 w.heap.size _ _ _ _ (.int .i64 0) ?d2 ?p2 ?s2 (Hx.out.put (part (plusF l) (fun _ => 0) 5)) Tryz.underlying60 rfl vec_size ?_
      case d2 => rfl
      case p2 => rfl
      case s2 => rfl
      exact ⟨endRow (x := part (plusF l) (fun _ => 0) 5) (fun j hj => by unfold eachR part; rw [if_pos hj, if_neg (by rw [H2.out]; simp)]) H2.out.symm, below_setRow HB.out (Nat.le_refl _) _⟩

end Go.Proofs.YtfpbdfagcfdbbaaGreat.Qu

namespace Go.Proofs.YtfpbdfagcfdbbaaGreat
open Go.RowKit

abbrev L2 := List UInt8 × List UInt8
abbrev T3 := Int × List UInt8 × List UInt8
/-- A list of labels, of terms, as a value. -/
structure ListL (w : World) (A : Option Addr) (c : Nat) (l : List L2) : Prop where
  le : l.length ≤ c
  most : c ≤ 9223372036854775807
  cells : La.SlAt w A (La.cellsL l)
  big : ∀ x ∈ l, x.1.length ≤ 9223372036854775807 ∧ x.2.length ≤ 9223372036854775807
structure ListT (w : World) (A : Option Addr) (c : Nat) (l : List T3) : Prop where
  le : l.length ≤ c
  most : c ≤ 9223372036854775807
  cells : La.SlAt w A (La.cellsT l)
  big : ∀ x ∈ l, x.2.1.length ≤ 9223372036854775807 ∧ x.2.2.length ≤ 9223372036854775807
theorem ListL.below {w w' : World} {A : Option Addr} {c : Nat} {l : List L2} (h : ListL w A c l) (hb : Below w.heap.size w w') : ListL w' A c l := ⟨h.le, h.most, h.cells.below hb, h.big⟩
theorem ListT.below {w w' : World} {A : Option Addr} {c : Nat} {l : List T3} (h : ListT w A c l) (hb : Below w.heap.size w w') : ListT w' A c l := ⟨h.le, h.most, h.cells.below hb, h.big⟩

/-- A node, a pod, an owner; beside each list its value. -/
structure NodeD where
  name : List UInt8
  cap : Nat → Int
  labels : List L2
  taints : List L2
  cordon : Bool
  lost : Bool
  al : Option Addr
  cl : Nat
  at_ : Option Addr
  ct : Nat
structure PodD where
  name : List UInt8
  owner : List UInt8
  req : Nat → Int
  labels : List L2
  whr : List T3
  bears : List L2
  wt : List UInt8
  wtm : List T3
  ap : List UInt8
  apm : List T3
  on : List UInt8
  al : Option Addr
  cl : Nat
  aw : Option Addr
  cw : Nat
  ab : Option Addr
  cb : Nat
  awt : Option Addr
  cwt : Nat
  aap : Option Addr
  cap : Nat
structure OwnD where
  name : List UInt8
  min : Int
  topo : List UInt8
  skew : Int
  single : Bool

structure NodeD.fit (w : World) (x : NodeD) : Prop where
  l : ListL w x.al x.cl x.labels
  t : ListL w x.at_ x.ct x.taints
  n : x.name.length ≤ 9223372036854775807
structure PodD.fit (w : World) (x : PodD) : Prop where
  l : ListL w x.al x.cl x.labels
  wh : ListT w x.aw x.cw x.whr
  b : ListL w x.ab x.cb x.bears
  wt : ListT w x.awt x.cwt x.wtm
  ap : ListT w x.aap x.cap x.apm
  n : x.name.length ≤ 9223372036854775807 ∧ x.owner.length ≤ 9223372036854775807 ∧ x.wt.length ≤ 9223372036854775807 ∧ x.ap.length ≤ 9223372036854775807 ∧ x.on.length ≤ 9223372036854775807
structure OwnD.fit (x : OwnD) : Prop where
  n : x.name.length ≤ 9223372036854775807
  t : x.topo.length ≤ 9223372036854775807
theorem NodeD.fit.below {w w' : World} {x : NodeD} (h : x.fit w) (hb : Below w.heap.size w w') : x.fit w' := ⟨h.l.below hb, h.t.below hb, h.n⟩
theorem PodD.fit.below {w w' : World} {x : PodD} (h : x.fit w) (hb : Below w.heap.size w w') : x.fit w' := ⟨h.l.below hb, h.wh.below hb, h.b.below hb, h.wt.below hb, h.ap.below hb, h.n⟩

abbrev valN (x : NodeD) : Value := .agg #[strV x.name, .int .i64 (x.cap 0), .int .i64 (x.cap 1), .int .i64 (x.cap 2), .int .i64 (x.cap 3), .int .i64 (x.cap 4), .slice x.al x.labels.length x.cl, .slice x.at_ x.taints.length x.ct, .bool x.cordon, .bool x.lost]
def cellsN (l : List NodeD) : List Value := l.flatMap fun x => [strV x.name, .int .i64 (x.cap 0), .int .i64 (x.cap 1), .int .i64 (x.cap 2), .int .i64 (x.cap 3), .int .i64 (x.cap 4), .slice x.al x.labels.length x.cl, .slice x.at_ x.taints.length x.ct, .bool x.cordon, .bool x.lost]
theorem cellsN_len : ∀ l, (cellsN l).length = l.length * 10
  | [] => rfl
  | x :: t => by
    have := cellsN_len t
    simp only [cellsN, List.flatMap_cons, List.length_append, List.length_cons, List.length_nil] at this ⊢
    omega
theorem cellsN_at : ∀ (l : List NodeD) (k : Nat) (x : NodeD), l[k]? = some x → ∀ i : Nat, i < 10 → (cellsN l)[k * 10 + i]? = [strV x.name, .int .i64 (x.cap 0), .int .i64 (x.cap 1), .int .i64 (x.cap 2), .int .i64 (x.cap 3), .int .i64 (x.cap 4), .slice x.al x.labels.length x.cl, .slice x.at_ x.taints.length x.ct, .bool x.cordon, .bool x.lost][i]?
  | [], k, x, h, i, hi => by simp at h
  | y :: t, 0, x, h, i, hi => by
    simp only [List.getElem?_cons_zero, Option.some.injEq] at h
    subst h
    show ([strV y.name, .int .i64 (y.cap 0), .int .i64 (y.cap 1), .int .i64 (y.cap 2), .int .i64 (y.cap 3), .int .i64 (y.cap 4), .slice y.al y.labels.length y.cl, .slice y.at_ y.taints.length y.ct, .bool y.cordon, .bool y.lost] ++ cellsN t)[0 * 10 + i]? = _
    rw [Nat.zero_mul, Nat.zero_add, List.getElem?_append_left (by simpa using hi)]
  | y :: t, k + 1, x, h, i, hi => by
    have := cellsN_at t k x (by simpa using h) i hi
    show ([strV y.name, .int .i64 (y.cap 0), .int .i64 (y.cap 1), .int .i64 (y.cap 2), .int .i64 (y.cap 3), .int .i64 (y.cap 4), .slice y.al y.labels.length y.cl, .slice y.at_ y.taints.length y.ct, .bool y.cordon, .bool y.lost] ++ cellsN t)[(k + 1) * 10 + i]? = _
    rw [List.getElem?_append_right (by simp; omega), ← this]
    congr 1
    simp
    omega

theorem atN {w : World} {A : Option Addr} {l : List NodeD} (h : La.SlAt w A (cellsN l)) {k : Nat} {x : NodeD} (hk : l[k]? = some x) :
    ∃ b o, A = some ⟨b, o, none⟩ ∧ b < w.heap.size ∧ w.cell? ⟨b, o + k * 10, none⟩ = some (strV x.name) ∧ w.cell? ⟨b, o + k * 10 + 1, none⟩ = some (.int .i64 (x.cap 0)) ∧ w.cell? ⟨b, o + k * 10 + 2, none⟩ = some (.int .i64 (x.cap 1)) ∧ w.cell? ⟨b, o + k * 10 + 3, none⟩ = some (.int .i64 (x.cap 2)) ∧ w.cell? ⟨b, o + k * 10 + 4, none⟩ = some (.int .i64 (x.cap 3)) ∧ w.cell? ⟨b, o + k * 10 + 5, none⟩ = some (.int .i64 (x.cap 4)) ∧ w.cell? ⟨b, o + k * 10 + 6, none⟩ = some (.slice x.al x.labels.length x.cl) ∧ w.cell? ⟨b, o + k * 10 + 7, none⟩ = some (.slice x.at_ x.taints.length x.ct) ∧ w.cell? ⟨b, o + k * 10 + 8, none⟩ = some (.bool x.cordon) ∧ w.cell? ⟨b, o + k * 10 + 9, none⟩ = some (.bool x.lost) := by
  have hc := cellsN_at l k x hk
  obtain ⟨b, o, hA, h0⟩ := h (k * 10 + 0) _ (hc 0 (by omega))
  have key : ∀ i v, (cellsN l)[k * 10 + i]? = some v → w.cell? ⟨b, o + k * 10 + i, none⟩ = some v := by
    intro i v hv
    obtain ⟨b', o', hA', h1⟩ := h _ _ hv
    rw [hA] at hA'
    cases hA'
    rw [Nat.add_assoc]
    exact h1
  exact ⟨b, o, hA, World.block_lt_of_cell? w _ h0, key 0 _ (hc 0 (by omega)), key 1 _ (hc 1 (by omega)), key 2 _ (hc 2 (by omega)), key 3 _ (hc 3 (by omega)), key 4 _ (hc 4 (by omega)), key 5 _ (hc 5 (by omega)), key 6 _ (hc 6 (by omega)), key 7 _ (hc 7 (by omega)), key 8 _ (hc 8 (by omega)), key 9 _ (hc 9 (by omega))⟩

abbrev valP (x : PodD) : Value := .agg #[strV x.name, strV x.owner, .int .i64 (x.req 0), .int .i64 (x.req 1), .int .i64 (x.req 2), .int .i64 (x.req 3), .int .i64 (x.req 4), .slice x.al x.labels.length x.cl, .slice x.aw x.whr.length x.cw, .slice x.ab x.bears.length x.cb, strV x.wt, .slice x.awt x.wtm.length x.cwt, strV x.ap, .slice x.aap x.apm.length x.cap, strV x.on]
def cellsP (l : List PodD) : List Value := l.flatMap fun x => [strV x.name, strV x.owner, .int .i64 (x.req 0), .int .i64 (x.req 1), .int .i64 (x.req 2), .int .i64 (x.req 3), .int .i64 (x.req 4), .slice x.al x.labels.length x.cl, .slice x.aw x.whr.length x.cw, .slice x.ab x.bears.length x.cb, strV x.wt, .slice x.awt x.wtm.length x.cwt, strV x.ap, .slice x.aap x.apm.length x.cap, strV x.on]
theorem cellsP_len : ∀ l, (cellsP l).length = l.length * 15
  | [] => rfl
  | x :: t => by
    have := cellsP_len t
    simp only [cellsP, List.flatMap_cons, List.length_append, List.length_cons, List.length_nil] at this ⊢
    omega
theorem cellsP_at : ∀ (l : List PodD) (k : Nat) (x : PodD), l[k]? = some x → ∀ i : Nat, i < 15 → (cellsP l)[k * 15 + i]? = [strV x.name, strV x.owner, .int .i64 (x.req 0), .int .i64 (x.req 1), .int .i64 (x.req 2), .int .i64 (x.req 3), .int .i64 (x.req 4), .slice x.al x.labels.length x.cl, .slice x.aw x.whr.length x.cw, .slice x.ab x.bears.length x.cb, strV x.wt, .slice x.awt x.wtm.length x.cwt, strV x.ap, .slice x.aap x.apm.length x.cap, strV x.on][i]?
  | [], k, x, h, i, hi => by simp at h
  | y :: t, 0, x, h, i, hi => by
    simp only [List.getElem?_cons_zero, Option.some.injEq] at h
    subst h
    show ([strV y.name, strV y.owner, .int .i64 (y.req 0), .int .i64 (y.req 1), .int .i64 (y.req 2), .int .i64 (y.req 3), .int .i64 (y.req 4), .slice y.al y.labels.length y.cl, .slice y.aw y.whr.length y.cw, .slice y.ab y.bears.length y.cb, strV y.wt, .slice y.awt y.wtm.length y.cwt, strV y.ap, .slice y.aap y.apm.length y.cap, strV y.on] ++ cellsP t)[0 * 15 + i]? = _
    rw [Nat.zero_mul, Nat.zero_add, List.getElem?_append_left (by simpa using hi)]
  | y :: t, k + 1, x, h, i, hi => by
    have := cellsP_at t k x (by simpa using h) i hi
    show ([strV y.name, strV y.owner, .int .i64 (y.req 0), .int .i64 (y.req 1), .int .i64 (y.req 2), .int .i64 (y.req 3), .int .i64 (y.req 4), .slice y.al y.labels.length y.cl, .slice y.aw y.whr.length y.cw, .slice y.ab y.bears.length y.cb, strV y.wt, .slice y.awt y.wtm.length y.cwt, strV y.ap, .slice y.aap y.apm.length y.cap, strV y.on] ++ cellsP t)[(k + 1) * 15 + i]? = _
    rw [List.getElem?_append_right (by simp; omega), ← this]
    congr 1
    simp
    omega

theorem atP {w : World} {A : Option Addr} {l : List PodD} (h : La.SlAt w A (cellsP l)) {k : Nat} {x : PodD} (hk : l[k]? = some x) :
    ∃ b o, A = some ⟨b, o, none⟩ ∧ b < w.heap.size ∧ w.cell? ⟨b, o + k * 15, none⟩ = some (strV x.name) ∧ w.cell? ⟨b, o + k * 15 + 1, none⟩ = some (strV x.owner) ∧ w.cell? ⟨b, o + k * 15 + 2, none⟩ = some (.int .i64 (x.req 0)) ∧ w.cell? ⟨b, o + k * 15 + 3, none⟩ = some (.int .i64 (x.req 1)) ∧ w.cell? ⟨b, o + k * 15 + 4, none⟩ = some (.int .i64 (x.req 2)) ∧ w.cell? ⟨b, o + k * 15 + 5, none⟩ = some (.int .i64 (x.req 3)) ∧ w.cell? ⟨b, o + k * 15 + 6, none⟩ = some (.int .i64 (x.req 4)) ∧ w.cell? ⟨b, o + k * 15 + 7, none⟩ = some (.slice x.al x.labels.length x.cl) ∧ w.cell? ⟨b, o + k * 15 + 8, none⟩ = some (.slice x.aw x.whr.length x.cw) ∧ w.cell? ⟨b, o + k * 15 + 9, none⟩ = some (.slice x.ab x.bears.length x.cb) ∧ w.cell? ⟨b, o + k * 15 + 10, none⟩ = some (strV x.wt) ∧ w.cell? ⟨b, o + k * 15 + 11, none⟩ = some (.slice x.awt x.wtm.length x.cwt) ∧ w.cell? ⟨b, o + k * 15 + 12, none⟩ = some (strV x.ap) ∧ w.cell? ⟨b, o + k * 15 + 13, none⟩ = some (.slice x.aap x.apm.length x.cap) ∧ w.cell? ⟨b, o + k * 15 + 14, none⟩ = some (strV x.on) := by
  have hc := cellsP_at l k x hk
  obtain ⟨b, o, hA, h0⟩ := h (k * 15 + 0) _ (hc 0 (by omega))
  have key : ∀ i v, (cellsP l)[k * 15 + i]? = some v → w.cell? ⟨b, o + k * 15 + i, none⟩ = some v := by
    intro i v hv
    obtain ⟨b', o', hA', h1⟩ := h _ _ hv
    rw [hA] at hA'
    cases hA'
    rw [Nat.add_assoc]
    exact h1
  exact ⟨b, o, hA, World.block_lt_of_cell? w _ h0, key 0 _ (hc 0 (by omega)), key 1 _ (hc 1 (by omega)), key 2 _ (hc 2 (by omega)), key 3 _ (hc 3 (by omega)), key 4 _ (hc 4 (by omega)), key 5 _ (hc 5 (by omega)), key 6 _ (hc 6 (by omega)), key 7 _ (hc 7 (by omega)), key 8 _ (hc 8 (by omega)), key 9 _ (hc 9 (by omega)), key 10 _ (hc 10 (by omega)), key 11 _ (hc 11 (by omega)), key 12 _ (hc 12 (by omega)), key 13 _ (hc 13 (by omega)), key 14 _ (hc 14 (by omega))⟩

abbrev valO (x : OwnD) : Value := .agg #[strV x.name, .int .i64 x.min, strV x.topo, .int .i64 x.skew, .bool x.single]
def cellsO (l : List OwnD) : List Value := l.flatMap fun x => [strV x.name, .int .i64 x.min, strV x.topo, .int .i64 x.skew, .bool x.single]
theorem cellsO_len : ∀ l, (cellsO l).length = l.length * 5
  | [] => rfl
  | x :: t => by
    have := cellsO_len t
    simp only [cellsO, List.flatMap_cons, List.length_append, List.length_cons, List.length_nil] at this ⊢
    omega
theorem cellsO_at : ∀ (l : List OwnD) (k : Nat) (x : OwnD), l[k]? = some x → ∀ i : Nat, i < 5 → (cellsO l)[k * 5 + i]? = [strV x.name, .int .i64 x.min, strV x.topo, .int .i64 x.skew, .bool x.single][i]?
  | [], k, x, h, i, hi => by simp at h
  | y :: t, 0, x, h, i, hi => by
    simp only [List.getElem?_cons_zero, Option.some.injEq] at h
    subst h
    show ([strV y.name, .int .i64 y.min, strV y.topo, .int .i64 y.skew, .bool y.single] ++ cellsO t)[0 * 5 + i]? = _
    rw [Nat.zero_mul, Nat.zero_add, List.getElem?_append_left (by simpa using hi)]
  | y :: t, k + 1, x, h, i, hi => by
    have := cellsO_at t k x (by simpa using h) i hi
    show ([strV y.name, .int .i64 y.min, strV y.topo, .int .i64 y.skew, .bool y.single] ++ cellsO t)[(k + 1) * 5 + i]? = _
    rw [List.getElem?_append_right (by simp; omega), ← this]
    congr 1
    simp
    omega

theorem atO {w : World} {A : Option Addr} {l : List OwnD} (h : La.SlAt w A (cellsO l)) {k : Nat} {x : OwnD} (hk : l[k]? = some x) :
    ∃ b o, A = some ⟨b, o, none⟩ ∧ b < w.heap.size ∧ w.cell? ⟨b, o + k * 5, none⟩ = some (strV x.name) ∧ w.cell? ⟨b, o + k * 5 + 1, none⟩ = some (.int .i64 x.min) ∧ w.cell? ⟨b, o + k * 5 + 2, none⟩ = some (strV x.topo) ∧ w.cell? ⟨b, o + k * 5 + 3, none⟩ = some (.int .i64 x.skew) ∧ w.cell? ⟨b, o + k * 5 + 4, none⟩ = some (.bool x.single) := by
  have hc := cellsO_at l k x hk
  obtain ⟨b, o, hA, h0⟩ := h (k * 5 + 0) _ (hc 0 (by omega))
  have key : ∀ i v, (cellsO l)[k * 5 + i]? = some v → w.cell? ⟨b, o + k * 5 + i, none⟩ = some v := by
    intro i v hv
    obtain ⟨b', o', hA', h1⟩ := h _ _ hv
    rw [hA] at hA'
    cases hA'
    rw [Nat.add_assoc]
    exact h1
  exact ⟨b, o, hA, World.block_lt_of_cell? w _ h0, key 0 _ (hc 0 (by omega)), key 1 _ (hc 1 (by omega)), key 2 _ (hc 2 (by omega)), key 3 _ (hc 3 (by omega)), key 4 _ (hc 4 (by omega))⟩

/-- The lists of a cluster. -/
structure NodesAt (w : World) (A : Option Addr) (l : List NodeD) : Prop where
  cells : La.SlAt w A (cellsN l)
  fit : ∀ x ∈ l, x.fit w
structure PodsAt (w : World) (A : Option Addr) (l : List PodD) : Prop where
  cells : La.SlAt w A (cellsP l)
  fit : ∀ x ∈ l, x.fit w
theorem NodesAt.below {w w' : World} {A : Option Addr} {l : List NodeD} (h : NodesAt w A l) (hb : Below w.heap.size w w') : NodesAt w' A l := ⟨h.cells.below hb, fun x hx => (h.fit x hx).below hb⟩
theorem PodsAt.below {w w' : World} {A : Option Addr} {l : List PodD} (h : PodsAt w A l) (hb : Below w.heap.size w w') : PodsAt w' A l := ⟨h.cells.below hb, fun x hx => (h.fit x hx).below hb⟩
end Go.Proofs.YtfpbdfagcfdbbaaGreat

namespace Go.Proofs.YtfpbdfagcfdbbaaGreat
open Go.RowKit

set_option maxHeartbeats 400000 in
theorem nodeName_any (x : NodeD) (w : World) : Calls Tryz.prog 98 #[valN x] w fun e w' => e = .returned (strV x.name) ∧ Below w.heap.size w w' := by
  go_enter Tryz.func98, Tryz.ntmps98
  go_wp2
  go_ret
  exact ⟨rfl, by first | exact Below.refl _ _ | exact (Below.refl _ _).alloc (Nat.le_refl _) _⟩
set_option maxHeartbeats 400000 in
theorem podName_any (x : PodD) (w : World) : Calls Tryz.prog 100 #[valP x] w fun e w' => e = .returned (strV x.name) ∧ Below w.heap.size w w' := by
  go_enter Tryz.func100, Tryz.ntmps100
  go_wp2
  go_ret
  exact ⟨rfl, by first | exact Below.refl _ _ | exact (Below.refl _ _).alloc (Nat.le_refl _) _⟩
set_option maxHeartbeats 400000 in
theorem ownerName_any (x : OwnD) (w : World) : Calls Tryz.prog 102 #[valO x] w fun e w' => e = .returned (strV x.name) ∧ Below w.heap.size w w' := by
  go_enter Tryz.func102, Tryz.ntmps102
  go_wp2
  go_ret
  exact ⟨rfl, by first | exact Below.refl _ _ | exact (Below.refl _ _).alloc (Nat.le_refl _) _⟩
theorem results_row1 {P : Program} {fn : Func} {p : Tmp} {ty : TypeId} (h : fn.results = #[.cell p ty]) (tmps : Array Value) (w : World) (g : Nat) (t : TypeId) (cs : Array Value) (fr : Nat × Nat) (d : TypeDesc)
    (hp : tmps.getD p undef = .pointer (some ⟨g, 0, none⟩)) (hg : w.heap[g]? = some (.cells cs t fr))
    (hu : P.underlying ty = some d) (hd : (match d with | .struct _ | .array _ _ => true | _ => false) = true) (hi : (P.info? ty).map (·.size) = some cs.size) :
    (results fn tmps).run P w = .ok (.agg cs) w := by
  have hp' : tmps[p]?.getD undef = .pointer (some ⟨g, 0, none⟩) := by simpa using hp
  simp [results, h, hp', asAddr, run_loadVar_row w g t ty cs fr d hg hu hd hi]
theorem bodyPost_row1 {P : Program} {fn : Func} {p : Tmp} {ty : TypeId} {R : Ending → World → Prop} {a : Act} {w : World} (h : fn.results = #[.cell p ty]) (g : Nat) (t : TypeId) (cs : Array Value) (fr : Nat × Nat) (d : TypeDesc)
    (hd0 : a.defers = []) (hp : a.tmps.getD p undef = .pointer (some ⟨g, 0, none⟩)) (hg : w.heap[g]? = some (.cells cs t fr))
    (hu : P.underlying ty = some d) (hd : (match d with | .struct _ | .array _ _ => true | _ => false) = true) (hi : (P.info? ty).map (·.size) = some cs.size)
    (hR : R (.returned (.agg cs)) w) : bodyPost P fn R .ret a w :=
  bodyPost_ret (results_row1 h a.tmps w g t cs fr d hp hg hu hd hi) hd0 hR
theorem blk2 (w : World) (o : Obj) (cs : Array Value) (t : TypeId) : ((w.alloc o).alloc (.cells cs t)).heap[w.heap.size + 1]? = some (.cells cs t (0, 0)) := by
  have h := heap_alloc_new (w.alloc o) (.cells cs t)
  rw [show (w.alloc o).heap.size = w.heap.size + 1 by simp] at h
  exact h
theorem vec_size : (Tryz.prog.info? 60).map (·.size) = some 5 := by kernel_rfl
abbrev rowV (x : Nat → Int) : Value := .agg #[.int .i64 (x 0), .int .i64 (x 1), .int .i64 (x 2), .int .i64 (x 3), .int .i64 (x 4)]
set_option maxHeartbeats 400000 in
theorem capOf_any (x : NodeD) (w : World) : Calls Tryz.prog 74 #[valN x] w fun e w' => e = .returned (rowV x.cap) ∧ Below w.heap.size w w' := by
  go_enter Tryz.func74, Tryz.ntmps74
  go_wp2
  refine bodyPost_row1 Tryz.results74 (w.heap.size + 1) _ _ _ _ ?d1 ?p1 (blk2 w _ _ _) Tryz.underlying60 rfl vec_size ?_
  case d1 => rfl
  case p1 => rfl
  exact ⟨rfl, Qu.below2 _ _ _⟩
set_option maxHeartbeats 400000 in
theorem reqOf_any (x : PodD) (w : World) : Calls Tryz.prog 76 #[valP x] w fun e w' => e = .returned (rowV x.req) ∧ Below w.heap.size w w' := by
  go_enter Tryz.func76, Tryz.ntmps76
  go_wp2
  refine bodyPost_row1 Tryz.results76 (w.heap.size + 1) _ _ _ _ ?d1 ?p1 (blk2 w _ _ _) Tryz.underlying60 rfl vec_size ?_
  case d1 => rfl
  case p1 => rfl
  exact ⟨rfl, Qu.below2 _ _ _⟩
end Go.Proofs.YtfpbdfagcfdbbaaGreat

namespace Go.Proofs.YtfpbdfagcfdbbaaGreat
open Go.RowKit

/-- A block of n elements of d cells; the first k of them are made. -/
def DestAt (w : World) (B n d t k : Nat) (g : Nat → List Value) : Prop := ∃ cs : Array Value, w.heap[B]? = some (.cells cs t (0, 0)) ∧ cs.size = n * d ∧ ∀ j, j < k → ∀ i, i < d → cs[j * d + i]? = (g j)[i]?
theorem DestAt.lt {w : World} {B n d t k : Nat} {g : Nat → List Value} (h : DestAt w B n d t k g) : B < w.heap.size := by
  obtain ⟨cs, hb, _⟩ := h
  exact (Array.getElem?_eq_some_iff.1 hb).1
theorem DestAt.below {w w' : World} {B C n d t k : Nat} {g : Nat → List Value} (h : DestAt w B n d t k g) (hb : Below C w w') (hB : B < C) : DestAt w' B n d t k g := by
  obtain ⟨cs, h1, h2, h3⟩ := h
  exact ⟨cs, (hb.block B hB).trans h1, h2, h3⟩
theorem DestAt.alloc {w : World} {B n d t k : Nat} {g : Nat → List Value} (h : DestAt w B n d t k g) (o : Obj) : DestAt (w.alloc o) B n d t k g := by
  have hlt := h.lt
  obtain ⟨cs, h1, h2, h3⟩ := h
  exact ⟨cs, by rw [Below.heap_alloc w o B hlt, h1], h2, h3⟩
theorem DestAt.free {w : World} {B n d t k : Nat} {g : Nat → List Value} (h : DestAt w B n d t k g) (i : Nat) : w.frozen? ⟨B, i, none⟩ = false := by
  obtain ⟨cs, hb, _⟩ := h
  simp [World.frozen?, hb]
theorem DestAt.has {w : World} {B n d t k : Nat} {g : Nat → List Value} (h : DestAt w B n d t k g) {i : Nat} (hi : i < n * d) : ∃ v, w.cell? ⟨B, i, none⟩ = some v := by
  obtain ⟨cs, hb, hs, _⟩ := h
  exact ⟨cs[i]'(by omega), by rw [cell_of_row w B i cs _ _ hb, Array.getElem?_eq_getElem]⟩
theorem DestAt.set1 {w : World} {B n t k : Nat} {g : Nat → List Value} (h : DestAt w B n 1 t k g) (hk : k < n) (v : Value) (hv : g k = [v]) : DestAt (w.setCell ⟨B, k, none⟩ v) B n 1 t (k + 1) g := by
  obtain ⟨cs, hb, hs, hz⟩ := h
  refine ⟨cs.setIfInBounds k v, heap_setCell_same w B k cs _ _ hb, by simpa using hs, fun j hj i hi => ?_⟩
  obtain rfl : i = 0 := by omega
  rw [Nat.mul_one, Nat.add_zero]
  by_cases hjk : j = k
  · subst hjk
    rw [Array.getElem?_setIfInBounds_self_of_lt (by omega), hv]
    rfl
  · rw [Array.getElem?_setIfInBounds_ne (Ne.symm hjk)]
    have := hz j (by omega) 0 hi
    rw [Nat.mul_one, Nat.add_zero] at this
    exact this
theorem DestAt.own {w : World} {base B n d t : Nat} {g : Nat → List Value} (h : DestAt w B n d t n g) (hB : base ≤ B) (hn : n ≤ maxLen) (xs : List Value) (hl : xs.length = n * d) (hg : ∀ j, j < n → ∀ i, i < d → xs[j * d + i]? = (g j)[i]?) (hd : 0 < d) : w.ownsRow base t d (.slice (some ⟨B, 0, none⟩) n n) n xs := by
  obtain ⟨cs, hb, hs, hz⟩ := h
  refine ⟨hl, .inr ⟨B, n, cs, rfl, hB, hb, Nat.le_refl _, hn, hs, ?_⟩⟩
  rw [List.take_of_length_le (by rw [Array.length_toList]; omega)]
  refine List.ext_getElem? fun m => ?_
  by_cases hm : m < n * d
  · have e : m = (m / d) * d + m % d := by rw [Nat.mul_comm]; exact (Nat.div_add_mod m d).symm
    have h1 : m / d < n := (Nat.div_lt_iff_lt_mul hd).2 hm
    have h2 : m % d < d := Nat.mod_lt _ hd
    rw [e, Array.getElem?_toList, hz _ h1 _ h2, hg _ h1 _ h2]
  · rw [List.getElem?_eq_none (by rw [Array.length_toList]; omega), List.getElem?_eq_none (by omega)]
theorem str_info : (Tryz.prog.info? 9).map (fun i => (i.zero, i.size, i.bytes)) = some (some (.string ⟨#[]⟩), 1, 16) := by kernel_rfl
/-- A slice of n empty texts is made. -/
theorem run_strs (w : World) (n : Nat) (hn : n ≤ 1000000) : (Instr.makeSlice 133 (.int .i64 (n : Int)) (.int .i64 (n : Int))).run Tryz.prog w = .ok (.slice (some ⟨w.heap.size, 0, none⟩) n n) (w.alloc (.cells (madeCells #[.string ⟨#[]⟩] n) 9)) := by
  cases hi : Tryz.prog.info? 9 with
  | none => have h := str_info; rw [hi] at h; cases h
  | some i =>
    have h := str_info
    rw [hi] at h
    simp only [Option.map_some, Option.some.injEq, Prod.mk.injEq] at h
    obtain ⟨h0, h1, h2⟩ := h
    have k := run_make (P := Tryz.prog) w 133 9 i (.string ⟨#[]⟩) Tryz.underlying133 hi h0 .i64 .i64 n n (by omega) (by omega) (by rw [h2]; omega) (by omega)
    simpa [h1, Value.cells] using k

/-- Is a list none at all? -/
theorem run_eqnil {P : Program} {w : World} (t e : TypeId) (a : Option Addr) (l c : Nat) (h : P.underlying t = some (.slice e)) : (binOp .eql t (.slice a l c) (.slice none 0 0)).run P w = .ok (.bool a.isNone) w := by
  simp only [binOp]
  simp [run_equal_slice_nil w t e a l c h]

set_option maxRecDepth 100000 in
set_option maxHeartbeats 2000000 in
theorem eachNS (A : Option Addr) (c : Nat) (l : List NodeD) (g : FuncId) (w : World) (hl : l.length ≤ 1000) (hs : La.SlAt w A (cellsN l)) (hn : A = none → l = [])
    (hg : ∀ args w, (callFunc g args).run Tryz.prog w = .ok (.enter g args) w)
    (hK : ∀ (x : NodeD) (w : World), Calls Tryz.prog g #[valN x] w fun e w' => e = .returned (strV x.name) ∧ Below w.heap.size w w') :
    Calls Tryz.prog 97 #[.slice A l.length c, .func (Fn.func g) #[] #[]] w fun e w' => ∃ v, e = .returned v ∧ w'.ownsRow w.heap.size 9 1 v l.length (l.map fun x => strV x.name) ∧ Below w.heap.size w w' := by
  cases A with
  | none =>
    obtain rfl := hn rfl
    have hnl := fun w => run_eqnil (P := Tryz.prog) (w := w) 22 62 none 0 c Tryz.underlying22
    clear hs hn hK
    go_enter Tryz.func97, Tryz.ntmps97
    go_wp2
    go_ret
    exact ⟨_, rfl, World.ownsRow_nil _ _ _ _, Below.refl _ _⟩
  | some a =>
    have HS := Lib.hid hs
    clear hs hn
    have hmk := run_strs w l.length (by omega)
    have hnl := fun w => run_eqnil (P := Tryz.prog) (w := w) 22 62 (some a) l.length c Tryz.underlying22
    go_enter Tryz.func97, Tryz.ntmps97
    go_wp2_with fail
    clear hmk hnl
    go_loopw [15] (fun i wr => ∃ k : Nat, k ≤ l.length ∧ i = .int .i64 k ∧ DestAt wr w.heap.size l.length 1 9 k (fun j => [strV ((l.map (·.name)).getD j [])]) ∧ Below w.heap.size w wr) (fun i _ => l.length - (intOf i).toNat)
    case atStart => exact ⟨0, by omega, rfl, ⟨_, heap_alloc_new _ _, by rw [size_madeCells, Nat.mul_one], fun j hj => by omega⟩, below1 w _⟩
    case round =>
      obtain ⟨k, hk, rfl, hd, hb⟩ := hrel
      have HD := Lib.hid hd
      have HB := Lib.hid hb
      have hsz := hd.lt
      clear hd hb
      by_cases hlt : k < l.length
      · obtain ⟨x, hx⟩ : ∃ x, l[k]? = some x := ⟨l[k], List.getElem?_eq_getElem hlt⟩
        obtain ⟨b, o, hA, hbl, c0, c1, c2, c3, c4, c5, c6, c7, c8, c9⟩ := atN (HS.out.below HB.out) hx
        cases hA
        have k0 : (0 : Int) ≤ (k : Int) := by omega
        have k1 : (k : Int) < (l.length : Int) := by omega
        have hgd : (l.map (·.name)).getD k [] = x.name := by simp [List.getD_eq_getElem?_getD, hx]
        have HG := Lib.hid hgd
        have KX := Lib.hid (hK x)
        clear hx hgd
        go_wp2_with fail
        refine (KX.out _).mono ?_
        rintro e w3 ⟨rfl, hb3⟩
        have D3 := Lib.hid ((HD.out.alloc (.cells (cellsN [x]).toArray 62)).below hb3 (Nat.lt_of_lt_of_le hsz (by simp)))
        have B3 := Lib.hid ((HB.out.alloc HB.out.size (.cells (cellsN [x]).toArray 62)).trans (hb3.mono (Nat.le_trans (Nat.le_of_lt hsz) (by simp))))
        have f3 := D3.out.free k
        obtain ⟨v3, h3⟩ := D3.out.has (i := k) (by omega)
        clear hb3 KX c0 c1 c2 c3 c4 c5 c6 c7 c8 c9
        go_wp2
        go_roundw
        case rel => exact ⟨k + 1, by omega, by go_num, D3.out.set1 hlt (strV x.name) (by show [strV ((l.map (·.name)).getD k [])] = _; rw [HG.out]), B3.out.setCell (p := ⟨w.heap.size, k, none⟩) (Nat.le_refl _) _⟩
        case measure => simp [intOf]; omega
      · obtain rfl : k = l.length := by omega
        go_wp2
        go_ret
        refine ⟨_, rfl, HD.out.own (Nat.le_refl _) (by unfold maxLen; omega) _ (by simp) (fun j hj i hi => ?_) (by omega), HB.out⟩
        obtain rfl : i = 0 := by omega
        rw [Nat.mul_one, Nat.add_zero, List.getElem?_map, List.getElem?_eq_getElem hj]
        simp [List.getD_eq_getElem?_getD, List.getElem?_eq_getElem hj]
set_option maxRecDepth 100000 in
set_option maxHeartbeats 2000000 in
theorem eachPS (A : Option Addr) (c : Nat) (l : List PodD) (g : FuncId) (w : World) (hl : l.length ≤ 1000) (hs : La.SlAt w A (cellsP l)) (hn : A = none → l = [])
    (hg : ∀ args w, (callFunc g args).run Tryz.prog w = .ok (.enter g args) w)
    (hK : ∀ (x : PodD) (w : World), Calls Tryz.prog g #[valP x] w fun e w' => e = .returned (strV x.name) ∧ Below w.heap.size w w') :
    Calls Tryz.prog 99 #[.slice A l.length c, .func (Fn.func g) #[] #[]] w fun e w' => ∃ v, e = .returned v ∧ w'.ownsRow w.heap.size 9 1 v l.length (l.map fun x => strV x.name) ∧ Below w.heap.size w w' := by
  cases A with
  | none =>
    obtain rfl := hn rfl
    have hnl := fun w => run_eqnil (P := Tryz.prog) (w := w) 23 69 none 0 c Tryz.underlying23
    clear hs hn hK
    go_enter Tryz.func99, Tryz.ntmps99
    go_wp2
    go_ret
    exact ⟨_, rfl, World.ownsRow_nil _ _ _ _, Below.refl _ _⟩
  | some a =>
    have HS := Lib.hid hs
    clear hs hn
    have hmk := run_strs w l.length (by omega)
    have hnl := fun w => run_eqnil (P := Tryz.prog) (w := w) 23 69 (some a) l.length c Tryz.underlying23
    go_enter Tryz.func99, Tryz.ntmps99
    go_wp2_with fail
    clear hmk hnl
    go_loopw [15] (fun i wr => ∃ k : Nat, k ≤ l.length ∧ i = .int .i64 k ∧ DestAt wr w.heap.size l.length 1 9 k (fun j => [strV ((l.map (·.name)).getD j [])]) ∧ Below w.heap.size w wr) (fun i _ => l.length - (intOf i).toNat)
    case atStart => exact ⟨0, by omega, rfl, ⟨_, heap_alloc_new _ _, by rw [size_madeCells, Nat.mul_one], fun j hj => by omega⟩, below1 w _⟩
    case round =>
      obtain ⟨k, hk, rfl, hd, hb⟩ := hrel
      have HD := Lib.hid hd
      have HB := Lib.hid hb
      have hsz := hd.lt
      clear hd hb
      by_cases hlt : k < l.length
      · obtain ⟨x, hx⟩ : ∃ x, l[k]? = some x := ⟨l[k], List.getElem?_eq_getElem hlt⟩
        obtain ⟨b, o, hA, hbl, c0, c1, c2, c3, c4, c5, c6, c7, c8, c9, c10, c11, c12, c13, c14⟩ := atP (HS.out.below HB.out) hx
        cases hA
        have k0 : (0 : Int) ≤ (k : Int) := by omega
        have k1 : (k : Int) < (l.length : Int) := by omega
        have hgd : (l.map (·.name)).getD k [] = x.name := by simp [List.getD_eq_getElem?_getD, hx]
        have HG := Lib.hid hgd
        have KX := Lib.hid (hK x)
        clear hx hgd
        go_wp2_with fail
        refine (KX.out _).mono ?_
        rintro e w3 ⟨rfl, hb3⟩
        have D3 := Lib.hid ((HD.out.alloc (.cells (cellsP [x]).toArray 69)).below hb3 (Nat.lt_of_lt_of_le hsz (by simp)))
        have B3 := Lib.hid ((HB.out.alloc HB.out.size (.cells (cellsP [x]).toArray 69)).trans (hb3.mono (Nat.le_trans (Nat.le_of_lt hsz) (by simp))))
        have f3 := D3.out.free k
        obtain ⟨v3, h3⟩ := D3.out.has (i := k) (by omega)
        clear hb3 KX c0 c1 c2 c3 c4 c5 c6 c7 c8 c9 c10 c11 c12 c13 c14
        go_wp2
        go_roundw
        case rel => exact ⟨k + 1, by omega, by go_num, D3.out.set1 hlt (strV x.name) (by show [strV ((l.map (·.name)).getD k [])] = _; rw [HG.out]), B3.out.setCell (p := ⟨w.heap.size, k, none⟩) (Nat.le_refl _) _⟩
        case measure => simp [intOf]; omega
      · obtain rfl : k = l.length := by omega
        go_wp2
        go_ret
        refine ⟨_, rfl, HD.out.own (Nat.le_refl _) (by unfold maxLen; omega) _ (by simp) (fun j hj i hi => ?_) (by omega), HB.out⟩
        obtain rfl : i = 0 := by omega
        rw [Nat.mul_one, Nat.add_zero, List.getElem?_map, List.getElem?_eq_getElem hj]
        simp [List.getD_eq_getElem?_getD, List.getElem?_eq_getElem hj]
set_option maxRecDepth 100000 in
set_option maxHeartbeats 2000000 in
theorem eachOS (A : Option Addr) (c : Nat) (l : List OwnD) (g : FuncId) (w : World) (hl : l.length ≤ 1000) (hs : La.SlAt w A (cellsO l)) (hn : A = none → l = [])
    (hg : ∀ args w, (callFunc g args).run Tryz.prog w = .ok (.enter g args) w)
    (hK : ∀ (x : OwnD) (w : World), Calls Tryz.prog g #[valO x] w fun e w' => e = .returned (strV x.name) ∧ Below w.heap.size w w') :
    Calls Tryz.prog 101 #[.slice A l.length c, .func (Fn.func g) #[] #[]] w fun e w' => ∃ v, e = .returned v ∧ w'.ownsRow w.heap.size 9 1 v l.length (l.map fun x => strV x.name) ∧ Below w.heap.size w w' := by
  cases A with
  | none =>
    obtain rfl := hn rfl
    have hnl := fun w => run_eqnil (P := Tryz.prog) (w := w) 24 53 none 0 c Tryz.underlying24
    clear hs hn hK
    go_enter Tryz.func101, Tryz.ntmps101
    go_wp2
    go_ret
    exact ⟨_, rfl, World.ownsRow_nil _ _ _ _, Below.refl _ _⟩
  | some a =>
    have HS := Lib.hid hs
    clear hs hn
    have hmk := run_strs w l.length (by omega)
    have hnl := fun w => run_eqnil (P := Tryz.prog) (w := w) 24 53 (some a) l.length c Tryz.underlying24
    go_enter Tryz.func101, Tryz.ntmps101
    go_wp2_with fail
    clear hmk hnl
    go_loopw [15] (fun i wr => ∃ k : Nat, k ≤ l.length ∧ i = .int .i64 k ∧ DestAt wr w.heap.size l.length 1 9 k (fun j => [strV ((l.map (·.name)).getD j [])]) ∧ Below w.heap.size w wr) (fun i _ => l.length - (intOf i).toNat)
    case atStart => exact ⟨0, by omega, rfl, ⟨_, heap_alloc_new _ _, by rw [size_madeCells, Nat.mul_one], fun j hj => by omega⟩, below1 w _⟩
    case round =>
      obtain ⟨k, hk, rfl, hd, hb⟩ := hrel
      have HD := Lib.hid hd
      have HB := Lib.hid hb
      have hsz := hd.lt
      clear hd hb
      by_cases hlt : k < l.length
      · obtain ⟨x, hx⟩ : ∃ x, l[k]? = some x := ⟨l[k], List.getElem?_eq_getElem hlt⟩
        obtain ⟨b, o, hA, hbl, c0, c1, c2, c3, c4⟩ := atO (HS.out.below HB.out) hx
        cases hA
        have k0 : (0 : Int) ≤ (k : Int) := by omega
        have k1 : (k : Int) < (l.length : Int) := by omega
        have hgd : (l.map (·.name)).getD k [] = x.name := by simp [List.getD_eq_getElem?_getD, hx]
        have HG := Lib.hid hgd
        have KX := Lib.hid (hK x)
        clear hx hgd
        go_wp2_with fail
        refine (KX.out _).mono ?_
        rintro e w3 ⟨rfl, hb3⟩
        have D3 := Lib.hid ((HD.out.alloc (.cells (cellsO [x]).toArray 53)).below hb3 (Nat.lt_of_lt_of_le hsz (by simp)))
        have B3 := Lib.hid ((HB.out.alloc HB.out.size (.cells (cellsO [x]).toArray 53)).trans (hb3.mono (Nat.le_trans (Nat.le_of_lt hsz) (by simp))))
        have f3 := D3.out.free k
        obtain ⟨v3, h3⟩ := D3.out.has (i := k) (by omega)
        clear hb3 KX c0 c1 c2 c3 c4
        go_wp2
        go_roundw
        case rel => exact ⟨k + 1, by omega, by go_num, D3.out.set1 hlt (strV x.name) (by show [strV ((l.map (·.name)).getD k [])] = _; rw [HG.out]), B3.out.setCell (p := ⟨w.heap.size, k, none⟩) (Nat.le_refl _) _⟩
        case measure => simp [intOf]; omega
      · obtain rfl : k = l.length := by omega
        go_wp2
        go_ret
        refine ⟨_, rfl, HD.out.own (Nat.le_refl _) (by unfold maxLen; omega) _ (by simp) (fun j hj i hi => ?_) (by omega), HB.out⟩
        obtain rfl : i = 0 := by omega
        rw [Nat.mul_one, Nat.add_zero, List.getElem?_map, List.getElem?_eq_getElem hj]
        simp [List.getD_eq_getElem?_getD, List.getElem?_eq_getElem hj]
end Go.Proofs.YtfpbdfagcfdbbaaGreat

namespace Go.Proofs.YtfpbdfagcfdbbaaGreat
open Go.RowKit

abbrev strC (l : List (List UInt8)) : List Value := l.map strV
/-- Does one stand ahead of another? -/
def ltS (y x : List UInt8) : Bool := !(Op.bytesLess x y || x == y)
/-- Names that rise. -/
def namesB (l : List (List UInt8)) : Bool := La.chkK La.nameB ltS l l.length
theorem strC_at {w : World} {A : Option Addr} {l : List (List UInt8)} (h : La.SlAt w A (strC l)) {k : Nat} {x : List UInt8} (hk : l[k]? = some x) : ∃ b o, A = some ⟨b, o, none⟩ ∧ b < w.heap.size ∧ w.cell? ⟨b, o + k, none⟩ = some (strV x) := by
  obtain ⟨b, o, hA, hc⟩ := h k (strV x) (by simp [strC, hk])
  exact ⟨b, o, hA, World.block_lt_of_cell? w _ hc, hc⟩

set_option maxRecDepth 100000 in
set_option maxHeartbeats 2000000 in
theorem mayBeNames_any (A : Option Addr) (c : Nat) (l : List (List UInt8)) (w : World) (hl : l.length ≤ 1000) (hc : l.length ≤ c) (hcm : c ≤ 9223372036854775807) (hs : La.SlAt w A (strC l)) (hbig : ∀ x ∈ l, x.length ≤ 9223372036854775807) :
    Calls Tryz.prog 96 #[.slice A l.length c] w fun e w' => e = .returned (.bool (namesB l)) ∧ Below w.heap.size w w' := by
  have HS := Lib.hid hs
  have Hbig := Lib.hid hbig
  clear hs hbig
  obtain ⟨R, hR⟩ : ∃ R, namesB l = R := ⟨_, rfl⟩
  rw [hR]
  have HR := Lib.hid hR
  clear hR
  go_enter Tryz.func96, Tryz.ntmps96
  go_wp2
  go_loopw [7] (fun i wr => ∃ k : Nat, k ≤ l.length ∧ i = .int .i64 k ∧ La.chkK La.nameB ltS l k = true ∧ Below w.heap.size w wr) (fun i _ => l.length - (intOf i).toNat)
  case atStart => exact ⟨0, by omega, rfl, rfl, Below.refl _ _⟩
  case round =>
    obtain ⟨k, hk, rfl, hp, hbw⟩ := hrel
    have Hp := Lib.hid hp
    have HB := Lib.hid hbw
    clear hp hbw
    by_cases hlt : k < l.length
    · obtain ⟨x, hxk⟩ : ∃ x, l[k]? = some x := ⟨l[k], List.getElem?_eq_getElem hlt⟩
      obtain ⟨b, o, hA, hb0, hx⟩ := strC_at (HS.out.below HB.out) hxk
      subst hA
      have hstep : La.chkK La.nameB ltS l (k + 1) = La.okAt La.nameB ltS l k x := by rw [La.chkK, Hp.out, hxk]; rfl
      have Hstep := Lib.hid hstep
      have KN := Lib.hid (La.nameB_any x wr (Hbig.out x (List.mem_of_getElem? hxk)))
      have Hxk := Lib.hid hxk
      have k0 : (0 : Int) ≤ (k : Int) := by omega
      have k1 : (k : Int) < (l.length : Int) := by omega
      clear hxk hstep
      go_wp2_with fail
      refine KN.out.mono ?_
      rintro e w3 ⟨rfl, hb3⟩
      have B3 := Lib.hid (HB.out.trans (hb3.mono HB.out.size))
      have Hb3 := Lib.hid hb3
      clear hb3 KN hx
      cases hnb : La.nameB x
      · have hno : R = false := by
          rw [← HR.out]
          exact La.chkK_false (k := k + 1) (by rw [Hstep.out]; exact La.okAt_no hnb) (by omega)
        have HNo := Lib.hid hno
        clear hno
        go_wp2
        go_ret
        exact ⟨La.retB HNo.out.symm, B3.out⟩
      · by_cases hz : k = 0
        · have hok := La.okAt_zero (mb := La.nameB) (ri := ltS) (l := l) (k := k) hnb hz
          have HO := Lib.hid hok
          have hz1 : ¬ (0 : Int) < (k : Int) := by omega
          have hz2 : decide ((0 : Int) < (k : Int)) = false := by simp; omega
          clear hok hz
          go_wp2_with fail
          go_roundw
          case rel => exact ⟨k + 1, by omega, by go_num, by rw [Hstep.out, HO.out], B3.out⟩
          case measure => simp [intOf]; omega
        · obtain ⟨y, hy⟩ : ∃ y, l[k - 1]? = some y := ⟨l[k - 1]'(by omega), List.getElem?_eq_getElem (by omega)⟩
          obtain ⟨b', o', hA', _, hyc⟩ := strC_at (HS.out.below B3.out) hy
          simp only [Option.some.injEq, Addr.mk.injEq] at hA'
          obtain ⟨rfl, rfl, _⟩ := hA'
          have hok := La.okAt_pos (mb := La.nameB) (ri := ltS) (l := l) (k := k) hnb hz hy
          have HO := Lib.hid hok
          have hz1 : (0 : Int) < (k : Int) := by omega
          obtain ⟨m, hm⟩ : ∃ m, k = m + 1 := ⟨k - 1, by omega⟩
          subst hm
          rw [Nat.add_sub_cancel] at hyc
          have m0 : (0 : Int) ≤ (m : Int) := by omega
          have m1 : (m : Int) < (l.length : Int) := by omega
          have m2 : ((m + 1 : Nat) : Int) - 1 = (m : Int) := by omega
          clear hok hz hy
          have hno0 : ltS y x = false → R = false := fun hls => by
            rw [← HR.out]
            exact La.chkK_false (k := m + 1 + 1) (by rw [Hstep.out, HO.out, hls]) (by omega)
          have HN0 := Lib.hid hno0
          clear hno0
          cases h1 : Op.bytesLess x y
          · cases h2 : (x == y)
            · have HL : Hid (ltS y x = true) := Lib.hid (by unfold ltS; rw [h1, h2]; rfl)
              go_wp2
              go_roundw
              case rel => exact ⟨m + 1 + 1, by omega, by go_num, by rw [Hstep.out, HO.out, HL.out], B3.out⟩
              case measure => simp [intOf]; omega
            · have HNo := Lib.hid (HN0.out (by unfold ltS; rw [h1, h2]; rfl))
              go_wp2
              go_ret
              exact ⟨La.retB HNo.out.symm, B3.out⟩
          · have HNo := Lib.hid (HN0.out (by unfold ltS; rw [h1]; rfl))
            go_wp2
            go_ret
            exact ⟨La.retB HNo.out.symm, B3.out⟩
    · obtain rfl : k = l.length := by omega
      have hyes : R = true := by rw [← HR.out]; exact Hp.out
      have HY := Lib.hid hyes
      clear hyes
      go_wp2
      go_ret
      exact ⟨La.retB HY.out.symm, HB.out⟩
end Go.Proofs.YtfpbdfagcfdbbaaGreat

namespace Go.Proofs.YtfpbdfagcfdbbaaGreat
open Go.RowKit

def nodeB (x : NodeD) : Bool := (Qu.chkV x.cap == 0) && (La.chkA La.labB La.keyR x.labels == 0) && (La.chkA La.labB La.keyR x.taints == 0)
set_option maxHeartbeats 1000000 in
theorem mayBeNode_any (x : NodeD) (w : World) (hx : x.fit w) :
    Calls Tryz.prog 104 #[valN x] w fun e w' => e = .returned (.bool (nodeB x)) ∧ Below w.heap.size w w' := by
  have KV := Lib.hid (fun w => Qu.vcheck_any x.cap w)
  have HX := Lib.hid hx
  have K1 : Hid (∀ w', Below w.heap.size w w' → Calls Tryz.prog 131 #[.slice x.al x.labels.length x.cl] w' fun e w'' => e = .returned (.int .i64 (La.chkA La.labB La.keyR x.labels)) ∧ Below w'.heap.size w' w'') := Lib.hid (fun w' hb => by
    have h := hx.l.below hb
    exact La.check_anyW x.al x.cl x.labels w' h.le h.most h.cells h.big)
  have K2 : Hid (∀ w', Below w.heap.size w w' → Calls Tryz.prog 131 #[.slice x.at_ x.taints.length x.ct] w' fun e w'' => e = .returned (.int .i64 (La.chkA La.labB La.keyR x.taints)) ∧ Below w'.heap.size w' w'') := Lib.hid (fun w' hb => by
    have h := hx.t.below hb
    exact La.check_anyW x.at_ x.ct x.taints w' h.le h.most h.cells h.big)
  have B0 : Hid (Below w.heap.size w (w.alloc (.cells (cellsN [x]).toArray 62))) := Lib.hid (below1 w _)
  have Q0 : Hid (Blk (w.alloc (.cells (cellsN [x]).toArray 62)) w.heap.size (cellsN [x]).toArray 62) := Lib.hid (Blk.new w _ _)
  have hlt0 : w.heap.size < (w.alloc (.cells (cellsN [x]).toArray 62)).heap.size := Blk.lt Q0.out
  have E : Hid (nodeB x = ((Qu.chkV x.cap == 0) && (La.chkA La.labB La.keyR x.labels == 0) && (La.chkA La.labB La.keyR x.taints == 0))) := Lib.hid rfl
  generalize nodeB x = R at E ⊢
  generalize Qu.chkV x.cap = v1 at KV E
  generalize La.chkA La.labB La.keyR x.labels = v2 at K1 E
  generalize La.chkA La.labB La.keyR x.taints = v3 at K2 E
  clear hx
  go_enter Tryz.func104, Tryz.ntmps104
  go_wp2_with fail
  refine (KV.out _).mono ?_
  rintro e w2 ⟨rfl, hb⟩
  have Q2 := Lib.hid (Q0.out.below hb hlt0)
  have B2 := Lib.hid (B0.out.trans (hb.mono (Nat.le_of_lt hlt0)))
  clear hb KV
  have hl2 := Blk.lt Q2.out
  have c6 : w2.cell? ⟨w.heap.size, 6, none⟩ = some (.slice x.al x.labels.length x.cl) := Blk.cell Q2.out 6
  cases h1 : (v1 == 0)
  · have HE : Hid (R = false) := Lib.hid (by rw [E.out, h1]; rfl)
    have h1' : (v1 != 0) = true := by simpa using h1
    go_wp2
    go_ret
    exact ⟨La.retB HE.out.symm, B2.out⟩
  · have h1' : (v1 != 0) = false := by simpa using h1
    go_wp2_with fail
    refine (K1.out _ B2.out).mono ?_
    rintro e w3 ⟨rfl, hb⟩
    have Q3 := Lib.hid (Q2.out.below hb hl2)
    have B3 := Lib.hid (B2.out.trans (hb.mono (Nat.le_of_lt hl2)))
    clear hb K1 c6
    have hl3 := Blk.lt Q3.out
    have c7 : w3.cell? ⟨w.heap.size, 7, none⟩ = some (.slice x.at_ x.taints.length x.ct) := Blk.cell Q3.out 7
    cases h2 : (v2 == 0)
    · have HE : Hid (R = false) := Lib.hid (by rw [E.out, h1, h2]; rfl)
      have h2' : (v2 != 0) = true := by simpa using h2
      go_wp2
      go_ret
      exact ⟨La.retB HE.out.symm, B3.out⟩
    · have h2' : (v2 != 0) = false := by simpa using h2
      go_wp2_with fail
      refine (K2.out _ B3.out).mono ?_
      rintro e w4 ⟨rfl, hb⟩
      have B4 := Lib.hid (B3.out.trans (hb.mono (Nat.le_of_lt hl3)))
      clear hb K2 c7
      have HE : Hid (R = (v3 == 0)) := Lib.hid (by rw [E.out, h1, h2]; rfl)
      clear h1 h1' h2 h2'
      go_wp2
      go_ret
      exact ⟨La.retB HE.out.symm, B4.out⟩

def nearB (topo : List UInt8) (l : List T3) : Bool := if topo = [] then decide (l.length = 0) else La.nameB topo && (La.chkA La.terB La.anyR l == 0)
abbrev valNear (topo : List UInt8) (l : List T3) (a : Option Addr) (c : Nat) : Value := .agg #[strV topo, .slice a l.length c]
set_option maxHeartbeats 1000000 in
theorem mayBeNear_any (topo : List UInt8) (l : List T3) (a : Option Addr) (c : Nat) (w : World) (h : ListT w a c l) (ht : topo.length ≤ 9223372036854775807) :
    Calls Tryz.prog 134 #[valNear topo l a c] w fun e w' => e = .returned (.bool (nearB topo l)) ∧ Below w.heap.size w w' := by
  have KN := Lib.hid (fun w => La.nameB_any topo w ht)
  have K1 : Hid (∀ w', Below w.heap.size w w' → Calls Tryz.prog 132 #[.slice a l.length c] w' fun e w'' => e = .returned (.int .i64 (La.chkA La.terB La.anyR l)) ∧ Below w'.heap.size w' w'') := Lib.hid (fun w' hb => by
    have h := h.below hb
    exact La.checkTerms_anyW a c l w' h.le h.most h.cells h.big)
  have B0 : Hid (Below w.heap.size w (w.alloc (.cells #[strV topo, .slice a l.length c] 67))) := Lib.hid (below1 w _)
  have Q0 : Hid (Blk (w.alloc (.cells #[strV topo, .slice a l.length c] 67)) w.heap.size #[strV topo, .slice a l.length c] 67) := Lib.hid (Blk.new w _ _)
  have hlt0 : w.heap.size < (w.alloc (.cells #[strV topo, .slice a l.length c] 67)).heap.size := Blk.lt Q0.out
  have E : Hid (nearB topo l = (if topo = [] then decide (l.length = 0) else La.nameB topo && (La.chkA La.terB La.anyR l == 0))) := Lib.hid rfl
  generalize nearB topo l = R at E ⊢
  generalize La.chkA La.terB La.anyR l = v1 at K1 E
  generalize La.nameB topo = v0 at KN E
  clear h
  by_cases htp : topo = []
  · subst htp
    have HE : Hid (R = decide (l.length = 0)) := Lib.hid (by rw [E.out, if_pos rfl])
    clear KN K1 E
    go_enter Tryz.func134, Tryz.ntmps134
    go_wp2
    go_ret
    refine ⟨La.retB ?_, B0.out⟩
    rw [HE.out, Bool.eq_iff_iff]
    simp
  · have HE : Hid (R = (v0 && (v1 == 0))) := Lib.hid (by rw [E.out, if_neg htp])
    have h1 : topo.isEmpty = false := by simpa using htp
    have h2 : (!topo.isEmpty) = true := by simpa using htp
    have HT := Lib.hid htp
    clear htp E
    go_enter Tryz.func134, Tryz.ntmps134
    go_wp2_with fail
    refine (KN.out _).mono ?_
    rintro e w2 ⟨rfl, hb⟩
    have Q2 := Lib.hid (Q0.out.below hb hlt0)
    have B2 := Lib.hid (B0.out.trans (hb.mono (Nat.le_of_lt hlt0)))
    clear hb KN
    have c1 : w2.cell? ⟨w.heap.size, 1, none⟩ = some (.slice a l.length c) := Blk.cell Q2.out 1
    have hl2 := Blk.lt Q2.out
    cases v0
    · go_wp2
      go_ret
      exact ⟨La.retB (by rw [HE.out]; rfl), B2.out⟩
    · go_wp2_with fail
      refine (K1.out _ B2.out).mono ?_
      rintro e w3 ⟨rfl, hb⟩
      have B3 := Lib.hid (B2.out.trans (hb.mono (Nat.le_of_lt hl2)))
      clear hb K1 c1
      go_wp2
      go_ret
      exact ⟨La.retB (by rw [HE.out]; rfl), B3.out⟩

def ownB (x : OwnD) : Bool := if x.min < 0 ∨ 24 < x.min then false else if x.topo = [] then decide (x.skew = 0) else La.nameB x.topo && decide (1 ≤ x.skew ∧ x.skew ≤ 24)
set_option maxHeartbeats 1000000 in
theorem mayBeOwner_any (x : OwnD) (w : World) (hx : x.fit) :
    Calls Tryz.prog 110 #[valO x] w fun e w' => e = .returned (.bool (ownB x)) ∧ Below w.heap.size w w' := by
  have KN := Lib.hid (fun w => La.nameB_any x.topo w hx.t)
  have B0 : Hid (Below w.heap.size w (w.alloc (.cells (cellsO [x]).toArray 53))) := Lib.hid (below1 w _)
  have Q0 : Hid (Blk (w.alloc (.cells (cellsO [x]).toArray 53)) w.heap.size (cellsO [x]).toArray 53) := Lib.hid (Blk.new w _ _)
  have hlt0 : w.heap.size < (w.alloc (.cells (cellsO [x]).toArray 53)).heap.size := Blk.lt Q0.out
  obtain ⟨nm, mn, tp, sk, sg⟩ := x
  have E : Hid (ownB ⟨nm, mn, tp, sk, sg⟩ = (if mn < 0 ∨ 24 < mn then false else if tp = [] then decide (sk = 0) else La.nameB tp && decide (1 ≤ sk ∧ sk ≤ 24))) := Lib.hid rfl
  generalize ownB ⟨nm, mn, tp, sk, sg⟩ = R at E ⊢
  simp only at KN
  generalize La.nameB tp = v0 at KN E
  clear hx
  by_cases h1 : mn < 0
  · have HE : Hid (R = false) := Lib.hid (by rw [E.out, if_pos (.inl h1)])
    clear E KN
    go_enter Tryz.func110, Tryz.ntmps110
    go_wp2
    go_ret
    exact ⟨La.retB HE.out.symm, B0.out⟩
  by_cases h2 : 24 < mn
  · have HE : Hid (R = false) := Lib.hid (by rw [E.out, if_pos (.inr h2)])
    clear E KN
    go_enter Tryz.func110, Tryz.ntmps110
    go_wp2
    go_ret
    exact ⟨La.retB HE.out.symm, B0.out⟩
  by_cases htp : tp = []
  · subst htp
    have HE : Hid (R = decide (sk = 0)) := Lib.hid (by rw [E.out, if_neg (by omega), if_pos rfl])
    clear E KN
    go_enter Tryz.func110, Tryz.ntmps110
    go_wp2
    go_ret
    refine ⟨La.retB ?_, B0.out⟩
    rw [HE.out, Bool.eq_iff_iff]
    simp
  · have HE : Hid (R = (v0 && decide (1 ≤ sk ∧ sk ≤ 24))) := Lib.hid (by rw [E.out, if_neg (by omega), if_neg htp])
    have h3 : tp.isEmpty = false := by simpa using htp
    have h4 : (!tp.isEmpty) = true := by simpa using htp
    have HT := Lib.hid htp
    clear htp E
    go_enter Tryz.func110, Tryz.ntmps110
    go_wp2_with fail
    refine (KN.out _).mono ?_
    rintro e w2 ⟨rfl, hb⟩
    have Q2 := Lib.hid (Q0.out.below hb hlt0)
    have B2 := Lib.hid (B0.out.trans (hb.mono (Nat.le_of_lt hlt0)))
    clear hb KN
    have c3 : w2.cell? ⟨w.heap.size, 3, none⟩ = some (.int .i64 sk) := Blk.cell Q2.out 3
    cases v0
    · go_wp2
      go_ret
      exact ⟨La.retB (by rw [HE.out]; rfl), B2.out⟩
    · go_wp2
      all_goals
        go_ret
        refine ⟨La.retB ?_, B2.out⟩
        rw [HE.out, Bool.eq_iff_iff]
        simp
        try omega
end Go.Proofs.YtfpbdfagcfdbbaaGreat
