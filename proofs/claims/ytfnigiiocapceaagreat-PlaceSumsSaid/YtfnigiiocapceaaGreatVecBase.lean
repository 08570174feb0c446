/- Words that the proofs on rows share: a row is five numbers; where it stands in memory; what an index reads. No conditions. -/
import Derived.Test.YtfnigiiocapceaaGreatBase
namespace Go.Proofs.YtfnigiiocapceaaGreat.Qu
open Go.RowKit

/-- Each of a row is an int. -/
def Ints (x : Nat → Int) : Prop := ∀ k, k < 5 → -9223372036854775808 ≤ x k ∧ x k ≤ 9223372036854775807

/-- What an index reads of a row that is a value. -/
theorem idx_row0 (x0 x1 x2 x3 x4 : Int) (w : World) : (Instr.index 33 (.agg #[.int .i64 x0, .int .i64 x1, .int .i64 x2, .int .i64 x3, .int .i64 x4]) (.int .i64 0)).run Tryz.prog w = .ok (.int .i64 x0) w := by kernel_rfl
theorem idx_row1 (x0 x1 x2 x3 x4 : Int) (w : World) : (Instr.index 33 (.agg #[.int .i64 x0, .int .i64 x1, .int .i64 x2, .int .i64 x3, .int .i64 x4]) (.int .i64 1)).run Tryz.prog w = .ok (.int .i64 x1) w := by kernel_rfl
theorem idx_row2 (x0 x1 x2 x3 x4 : Int) (w : World) : (Instr.index 33 (.agg #[.int .i64 x0, .int .i64 x1, .int .i64 x2, .int .i64 x3, .int .i64 x4]) (.int .i64 2)).run Tryz.prog w = .ok (.int .i64 x2) w := by kernel_rfl
theorem idx_row3 (x0 x1 x2 x3 x4 : Int) (w : World) : (Instr.index 33 (.agg #[.int .i64 x0, .int .i64 x1, .int .i64 x2, .int .i64 x3, .int .i64 x4]) (.int .i64 3)).run Tryz.prog w = .ok (.int .i64 x3) w := by kernel_rfl
theorem idx_row4 (x0 x1 x2 x3 x4 : Int) (w : World) : (Instr.index 33 (.agg #[.int .i64 x0, .int .i64 x1, .int .i64 x2, .int .i64 x3, .int .i64 x4]) (.int .i64 4)).run Tryz.prog w = .ok (.int .i64 x4) w := by kernel_rfl
theorem idx_row (x : Nat → Int) (k : Nat) (h : k < 5) (w : World) : (Instr.index 33 (.agg #[.int .i64 (x 0), .int .i64 (x 1), .int .i64 (x 2), .int .i64 (x 3), .int .i64 (x 4)]) (.int .i64 (k : Int))).run Tryz.prog w = .ok (.int .i64 (x k)) w := by
  match k, h with
  | 0, _ => exact idx_row0 _ _ _ _ _ w
  | 1, _ => exact idx_row1 _ _ _ _ _ w
  | 2, _ => exact idx_row2 _ _ _ _ _ w
  | 3, _ => exact idx_row3 _ _ _ _ _ w
  | 4, _ => exact idx_row4 _ _ _ _ _ w

/-- What stands in a block that holds a row. -/
theorem cell_row (x : Nat → Int) (k : Nat) (h : k < 5) (w : World) (b t : Nat) (fr : Nat × Nat) (hb : w.heap[b]? = some (.cells #[.int .i64 (x 0), .int .i64 (x 1), .int .i64 (x 2), .int .i64 (x 3), .int .i64 (x 4)] t fr)) : w.cell? ⟨b, k, none⟩ = some (.int .i64 (x k)) := by
  rw [cell_of_row w b k _ t fr hb]
  match k, h with
  | 0, _ => rfl
  | 1, _ => rfl
  | 2, _ => rfl
  | 3, _ => rfl
  | 4, _ => rfl

/-- What the look at a row answers. -/
def chkV (x : Nat → Int) : Int := checkL [x 0, x 1, x 2, x 3, x 4]

theorem mem5 {x : Nat → Int} {y : Int} : y ∈ [x 0, x 1, x 2, x 3, x 4] ↔ ∃ k, k < 5 ∧ y = x k := by
  constructor
  · intro h
    simp only [List.mem_cons, List.not_mem_nil, or_false] at h
    rcases h with h | h | h | h | h
    · exact ⟨0, by omega, h⟩
    · exact ⟨1, by omega, h⟩
    · exact ⟨2, by omega, h⟩
    · exact ⟨3, by omega, h⟩
    · exact ⟨4, by omega, h⟩
  · rintro ⟨k, hk, rfl⟩
    have hk : k = 0 ∨ k = 1 ∨ k = 2 ∨ k = 3 ∨ k = 4 := by omega
    rcases hk with rfl | rfl | rfl | rfl | rfl <;> simp

theorem chkV_neg {x : Nat → Int} {k : Nat} (hk : k < 5) (h : x k < 0) : chkV x = 2 := by
  unfold chkV checkL
  rw [if_pos ⟨x k, mem5.2 ⟨k, hk, rfl⟩, h⟩]
theorem chkV_over {x : Nat → Int} (h0 : ∀ j, j < 5 → 0 ≤ x j) {k : Nat} (hk : k < 5) (h : top < x k) : chkV x = 10 := by
  unfold chkV checkL
  rw [if_neg, if_pos ⟨x k, mem5.2 ⟨k, hk, rfl⟩, h⟩]
  rintro ⟨y, hy, hlt⟩
  obtain ⟨j, hj, rfl⟩ := mem5.1 hy
  have := h0 j hj
  omega
theorem chkV_ok {x : Nat → Int} (h0 : ∀ j, j < 5 → 0 ≤ x j) (h1 : ∀ j, j < 5 → x j ≤ top) : chkV x = 0 := by
  unfold chkV checkL
  rw [if_neg, if_neg]
  · rintro ⟨y, hy, hlt⟩
    obtain ⟨j, hj, rfl⟩ := mem5.1 hy
    have := h1 j hj
    omega
  · rintro ⟨y, hy, hlt⟩
    obtain ⟨j, hj, rfl⟩ := mem5.1 hy
    have := h0 j hj
    omega
theorem chkV_cases (x : Nat → Int) : (chkV x = 2) ∨ (chkV x = 10) ∨ (chkV x = 0 ∧ ∀ j, j < 5 → 0 ≤ x j ∧ x j ≤ top) := by
  by_cases h : ∃ k, k < 5 ∧ x k < 0
  · obtain ⟨k, hk, h⟩ := h
    exact .inl (chkV_neg hk h)
  · have h0 : ∀ j, j < 5 → 0 ≤ x j := fun j hj => by
      rcases Int.lt_or_le (x j) 0 with g | g
      · exact absurd ⟨j, hj, g⟩ h
      · exact g
    by_cases h2 : ∃ k, k < 5 ∧ top < x k
    · obtain ⟨k, hk, h2⟩ := h2
      exact .inr (.inl (chkV_over h0 hk h2))
    · have h1 : ∀ j, j < 5 → x j ≤ top := fun j hj => by
        rcases Int.lt_or_le top (x j) with g | g
        · exact absurd ⟨j, hj, g⟩ h2
        · exact g
      exact .inr (.inr ⟨chkV_ok h0 h1, fun j hj => ⟨h0 j hj, h1 j hj⟩⟩)
theorem all_snoc {p : Nat → Prop} {k : Nat} (h : ∀ j, j < k → p j) (hk : p k) : ∀ j, j < k + 1 → p j := fun j hj => by
  rcases Nat.lt_or_eq_of_le (Nat.le_of_lt_succ hj) with g | rfl
  · exact h j g
  · exact hk

theorem belowN {B : Nat} {a w : World} (h : Below B a w) (n : Nat) : Below B a (w.drewN n) := ⟨h.os, h.tape, h.output, h.size, h.block⟩

theorem below1 (w : World) (o : Obj) : Below w.heap.size w (w.alloc o) := (Below.refl _ _).alloc (Nat.le_refl _) _
theorem vec_size : (Tryz.prog.info? 33).map (·.size) = some 5 := by kernel_rfl

/-- A row lies in this block. -/
def RowAt (w : World) (b : Nat) (x : Nat → Int) : Prop := w.heap[b]? = some (.cells #[.int .i64 (x 0), .int .i64 (x 1), .int .i64 (x 2), .int .i64 (x 3), .int .i64 (x 4)] 33 (0, 0))
theorem RowAt.cell {w : World} {b : Nat} {x : Nat → Int} (h : RowAt w b x) {k : Nat} (hk : k < 5) : w.cell? ⟨b, k, none⟩ = some (.int .i64 (x k)) := cell_row x k hk w b _ _ h
theorem RowAt.free {w : World} {b : Nat} {x : Nat → Int} (h : RowAt w b x) (k : Nat) : w.frozen? ⟨b, k, none⟩ = false := by
  unfold RowAt at h
  simp [World.frozen?, h]
theorem RowAt.lt {w : World} {b : Nat} {x : Nat → Int} (h : RowAt w b x) : b < w.heap.size := by
  unfold RowAt at h
  rcases Nat.lt_or_ge b w.heap.size with g | g
  · exact g
  · rw [Array.getElem?_eq_none g] at h; cases h
theorem RowAt.below {w w' : World} {b B : Nat} {x : Nat → Int} (h : RowAt w b x) (hb : Below B w w') (hB : b < B) : RowAt w' b x := by
  unfold RowAt at h ⊢
  rw [hb.block b hB, h]
def upd (x : Nat → Int) (k : Nat) (v : Int) : Nat → Int := fun j => if j = k then v else x j
theorem RowAt.set {w : World} {b : Nat} {x : Nat → Int} (h : RowAt w b x) {k : Nat} (hk : k < 5) (v : Int) : RowAt (w.setCell ⟨b, k, none⟩ (.int .i64 v)) b (upd x k v) := by
  unfold RowAt at h ⊢
  rw [heap_setCell_same w b k _ _ _ h]
  have hk : k = 0 ∨ k = 1 ∨ k = 2 ∨ k = 3 ∨ k = 4 := by omega
  rcases hk with rfl | rfl | rfl | rfl | rfl <;> simp [upd]
theorem RowAt.other {w : World} {b : Nat} {x : Nat → Int} (h : RowAt w b x) (a : Addr) (v : Value) (hne : b ≠ a.block) : RowAt (w.setCell a v) b x := by
  unfold RowAt at h ⊢
  rw [heap_setCell_other w a b v hne, h]
theorem RowAt.alloc {w : World} {b : Nat} {x : Nat → Int} (h : RowAt w b x) (o : Obj) : RowAt (w.alloc o) b x := by
  have hlt := h.lt
  unfold RowAt at h ⊢
  rw [Below.heap_alloc w o b hlt, h]
theorem RowAt.new (w : World) (x : Nat → Int) : RowAt (w.alloc (.cells #[.int .i64 (x 0), .int .i64 (x 1), .int .i64 (x 2), .int .i64 (x 3), .int .i64 (x 4)] 33)) w.heap.size x := heap_alloc_new _ _

end Go.Proofs.YtfnigiiocapceaaGreat.Qu
