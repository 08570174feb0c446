/- The first statement of the law on rows that fit: three rows are made, in whatever order. Condition: the numbers lie in memory. -/
import Derived.Test.YtgmecaaogmpakaaDoorRegionInv
import Derived.Test.YtgmecaaogmpakaaDoorVecMade
namespace Go.Proofs.YtgmecaaogmpakaaDoor
open Go.RowKit

/-- The frame. -/
abbrev frF (x y z : Nat → Int) (B : Nat) (v3 v4 v5 v19 v20 v21 v22 v23 v24 v25 v26 v27 : Value) : Act := { tmps := #[.agg #[.int .i64 (x 0), .int .i64 (x 1), .int .i64 (x 2), .int .i64 (x 3), .int .i64 (x 4), .int .i64 (y 0), .int .i64 (y 1), .int .i64 (y 2), .int .i64 (y 3), .int .i64 (y 4), .int .i64 (z 0), .int .i64 (z 1), .int .i64 (z 2), .int .i64 (z 3), .int .i64 (z 4)], .pointer (some ⟨B, 0, none⟩), .bool false, v3, v4, v5, undef, undef, undef, undef, undef, undef, undef, undef, undef, undef, undef, undef, undef, v19, v20, v21, v22, v23, v24, v25, v26, v27, undef, undef, undef, undef, undef, undef, undef, undef, undef, undef, undef, undef, undef, undef, undef, undef, undef, undef, undef, undef, undef, undef, undef, undef, undef, undef, undef, undef, undef, undef, undef, undef, undef, undef, undef, undef, undef, undef, undef, undef, undef, undef, undef, undef, undef, undef, undef, undef, undef, undef, undef, undef, undef, undef, undef, undef, undef, undef, undef, undef, undef, undef, undef, undef, undef, undef, undef, undef, undef, undef, undef, undef, undef, undef, undef, undef, undef, undef, undef, undef, undef, undef, undef, undef, undef, undef, undef, undef, undef, undef, undef, undef, undef, undef, undef, undef, undef, undef, undef, undef, undef, undef, undef, undef, undef, undef, undef, undef, undef, undef, undef, undef, undef, undef, undef, undef, undef, undef, undef, undef, undef, undef, undef, undef, undef, undef, undef, undef, undef, undef, undef, undef, undef, undef, undef, undef, undef, undef, undef, undef, undef, undef], defers := [] }

/-- Fifteen numbers lie in a block. -/
def Cells15 (w : World) (B : Nat) (x y z : Nat → Int) : Prop := B < w.heap.size ∧ ∀ j, j < 5 → w.cell? ⟨B, j, none⟩ = some (.int .i64 (x j)) ∧ w.cell? ⟨B, 5 + j, none⟩ = some (.int .i64 (y j)) ∧ w.cell? ⟨B, 10 + j, none⟩ = some (.int .i64 (z j))

def aggV (x : Nat → Int) : Value := .agg #[.int .i64 (x 0), .int .i64 (x 1), .int .i64 (x 2), .int .i64 (x 3), .int .i64 (x 4)]
/-- What a slot's row holds: noughts, or what was stored. -/
def rowS (d : Bool) (x : Nat → Int) : Nat → Int := fun j => if d = true then madeV x j else 0

/-- What holds whichever operations have been done. -/
def InvF (w0 : World) (x y z : Nat → Int) (l : Array Bool) (a : Act) (w : World) : Prop :=
  l.size = 15 ∧ Cells15 w w0.heap.size x y z ∧ Below w0.heap.size w0 w ∧ ∃ (v3 v4 v5 v19 v20 v21 v22 v23 v24 v25 v26 v27 : Value) (b3 b4 b5 : Nat), a = frF x y z w0.heap.size v3 v4 v5 v19 v20 v21 v22 v23 v24 v25 v26 v27 ∧
    (l.getD 0 false = true → v19 = .pointer (some ⟨w0.heap.size, 0, none⟩)) ∧ (l.getD 1 false = true → v20 = aggV x) ∧ (l.getD 2 false = true → v21 = aggV (madeV x)) ∧
    (l.getD 3 false = true → v22 = .pointer (some ⟨w0.heap.size, 5, none⟩)) ∧ (l.getD 4 false = true → v23 = aggV y) ∧ (l.getD 5 false = true → v24 = aggV (madeV y)) ∧
    (l.getD 6 false = true → v25 = .pointer (some ⟨w0.heap.size, 10, none⟩)) ∧ (l.getD 7 false = true → v26 = aggV z) ∧ (l.getD 8 false = true → v27 = aggV (madeV z)) ∧
    (l.getD 9 false = true → v3 = .pointer (some ⟨b3, 0, none⟩) ∧ RowAt w b3 (rowS (l.getD 12 false) x) ∧ w0.heap.size < b3) ∧
    (l.getD 10 false = true → v4 = .pointer (some ⟨b4, 0, none⟩) ∧ RowAt w b4 (rowS (l.getD 13 false) y) ∧ w0.heap.size < b4) ∧
    (l.getD 11 false = true → v5 = .pointer (some ⟨b5, 0, none⟩) ∧ RowAt w b5 (rowS (l.getD 14 false) z) ∧ w0.heap.size < b5) ∧
    (l.getD 9 false = true → l.getD 10 false = true → b3 ≠ b4) ∧ (l.getD 9 false = true → l.getD 11 false = true → b3 ≠ b5) ∧ (l.getD 10 false = true → l.getD 11 false = true → b4 ≠ b5) ∧
    (l.getD 12 false = true → l.getD 9 false = true) ∧ (l.getD 13 false = true → l.getD 10 false = true) ∧ (l.getD 14 false = true → l.getD 11 false = true)

/-- The operations, as the translation has them. -/
abbrev opF0 : Oper := { dst := some 19, op := Op.indexAddr 44 (Operand.tmp 1) (Operand.const (Value.int IntKind.i64 0)), type := 0, pos := "outright.go:58", after := #[], guard := none }
abbrev opF1 : Oper := { dst := some 20, op := Op.load 24 (Operand.tmp 19), type := 24, pos := "outright.go:58", after := #[{ on := 0, ground := Ground.data }], guard := none }
abbrev opF2 : Oper := { dst := some 21, op := Op.call { callee := Callee.value (Operand.func 26), args := #[Operand.tmp 20], argTypes := #[24] }, type := 24, pos := "outright.go:58", after := #[{ on := 1, ground := Ground.data }], guard := none }
abbrev opF3 : Oper := { dst := some 22, op := Op.indexAddr 44 (Operand.tmp 1) (Operand.const (Value.int IntKind.i64 1)), type := 0, pos := "outright.go:58", after := #[], guard := none }
abbrev opF4 : Oper := { dst := some 23, op := Op.load 24 (Operand.tmp 22), type := 24, pos := "outright.go:58", after := #[{ on := 3, ground := Ground.data }], guard := none }
abbrev opF5 : Oper := { dst := some 24, op := Op.call { callee := Callee.value (Operand.func 26), args := #[Operand.tmp 23], argTypes := #[24] }, type := 24, pos := "outright.go:58", after := #[{ on := 4, ground := Ground.data }, { on := 2, ground := Ground.chain }], guard := none }
abbrev opF6 : Oper := { dst := some 25, op := Op.indexAddr 44 (Operand.tmp 1) (Operand.const (Value.int IntKind.i64 2)), type := 0, pos := "outright.go:58", after := #[], guard := none }
abbrev opF7 : Oper := { dst := some 26, op := Op.load 24 (Operand.tmp 25), type := 24, pos := "outright.go:58", after := #[{ on := 6, ground := Ground.data }], guard := none }
abbrev opF8 : Oper := { dst := some 27, op := Op.call { callee := Callee.value (Operand.func 26), args := #[Operand.tmp 26], argTypes := #[24] }, type := 24, pos := "outright.go:58", after := #[{ on := 7, ground := Ground.data }, { on := 5, ground := Ground.chain }], guard := none }
abbrev opF9 : Oper := { dst := some 3, op := Op.alloc 24, type := 0, pos := "outright.go:58", after := #[], guard := none }
abbrev opF10 : Oper := { dst := some 4, op := Op.alloc 24, type := 0, pos := "outright.go:58", after := #[], guard := none }
abbrev opF11 : Oper := { dst := some 5, op := Op.alloc 24, type := 0, pos := "outright.go:58", after := #[], guard := none }
abbrev opF12 : Oper := { dst := none, op := Op.store 24 (Operand.tmp 3) (Operand.tmp 21), type := 0, pos := "outright.go:58", after := #[{ on := 9, ground := Ground.data }, { on := 2, ground := Ground.data }, { on := 8, ground := Ground.chain }, { on := 0, ground := Ground.phase }, { on := 1, ground := Ground.phase }, { on := 2, ground := Ground.phase }, { on := 3, ground := Ground.textOnly Departure.lateStores }, { on := 4, ground := Ground.textOnly Departure.lateStores }, { on := 5, ground := Ground.textOnly Departure.lateStoresUnsure }, { on := 6, ground := Ground.textOnly Departure.lateStores }, { on := 7, ground := Ground.textOnly Departure.lateStores }, { on := 8, ground := Ground.textOnly Departure.lateStoresUnsure }, { on := 9, ground := Ground.phase }, { on := 10, ground := Ground.phase }, { on := 11, ground := Ground.phase }], guard := none }
abbrev opF13 : Oper := { dst := none, op := Op.store 24 (Operand.tmp 4) (Operand.tmp 24), type := 0, pos := "outright.go:58", after := #[{ on := 10, ground := Ground.data }, { on := 5, ground := Ground.data }, { on := 12, ground := Ground.chain }, { on := 0, ground := Ground.phase }, { on := 1, ground := Ground.phase }, { on := 2, ground := Ground.phase }, { on := 3, ground := Ground.phase }, { on := 4, ground := Ground.phase }, { on := 5, ground := Ground.phase }, { on := 6, ground := Ground.textOnly Departure.lateStores }, { on := 7, ground := Ground.textOnly Departure.lateStores }, { on := 8, ground := Ground.textOnly Departure.lateStoresUnsure }, { on := 9, ground := Ground.phase }, { on := 10, ground := Ground.phase }, { on := 11, ground := Ground.phase }, { on := 12, ground := Ground.phase }], guard := none }
abbrev opF14 : Oper := { dst := none, op := Op.store 24 (Operand.tmp 5) (Operand.tmp 27), type := 0, pos := "outright.go:58", after := #[{ on := 11, ground := Ground.data }, { on := 8, ground := Ground.data }, { on := 13, ground := Ground.chain }, { on := 0, ground := Ground.phase }, { on := 1, ground := Ground.phase }, { on := 2, ground := Ground.phase }, { on := 3, ground := Ground.phase }, { on := 4, ground := Ground.phase }, { on := 5, ground := Ground.phase }, { on := 6, ground := Ground.phase }, { on := 7, ground := Ground.phase }, { on := 8, ground := Ground.phase }, { on := 9, ground := Ground.phase }, { on := 10, ground := Ground.phase }, { on := 11, ground := Ground.phase }, { on := 12, ground := Ground.phase }, { on := 13, ground := Ground.phase }], guard := none }
abbrev opsF : Array Oper := #[opF0, opF1, opF2, opF3, opF4, opF5, opF6, opF7, opF8, opF9, opF10, opF11, opF12, opF13, opF14]

theorem op_step {P : Program} {ops : Array Oper} {Q : Exit → Act → World → Prop} {i : Nat} {o : Oper} {K : Act → World → Prop} {a : Act} {w : World} (ho : ops[i]? = some o) (hg : o.guard = none)
    (h : ∀ K' : Act → World → Prop, (∀ a w, K a w → K' a w) → Oper.wp P o a w K' Q) : wpOp P ops Q i K a w :=
  wpOp_step ho (fun K' hK => by
    have hw : Region.wanted o (yielded ops a.tmps) = true := by simp [Region.wanted, hg]
    rw [if_pos hw]
    exact h K' hK)

theorem lexF : ∀ (i : Nat) (o : Oper), opsF[i]? = some o → ∀ e ∈ o.after, Region.binds .any e = true → e.on < i := by
  have h : (List.range 15).all (fun i => (opsF[i]?).all (fun o => o.after.all (fun e => decide (e.on < i)))) = true := by kernel_rfl
  intro i o ho e he _
  have hi : i < 15 := (Array.getElem?_eq_some_iff.1 ho).1
  rw [List.all_eq_true] at h
  have h1 := h i (List.mem_range.2 hi)
  rw [ho] at h1
  simp only [Option.all_some, Array.all_eq_true_iff_forall_mem, decide_eq_true_eq] at h1
  exact h1 e he

theorem set_same {l : Array Bool} {i : Nat} {j : Nat} (h : j ≠ i) : (l.setIfInBounds i true).getD j false = l.getD j false := by
  simp [Array.getD_eq_getD_getElem?, Array.getElem?_setIfInBounds, Ne.symm h]
theorem set_ne {l : Array Bool} {i : Nat} {j : Nat} (h : j ≠ i) (hj : (l.setIfInBounds i true).getD j false = true) : l.getD j false = true := by
  rwa [set_same h] at hj
theorem not_yet {l : Array Bool} {i : Nat} (hs : l.size = 15) (hi : i < 15) (h : l.getD i true = false) : l.getD i false = false := by
  have hl : i < l.size := by omega
  simpa [Array.getD, hl] using h
theorem set_here {l : Array Bool} {i : Nat} (hs : l.size = 15) (hi : i < 15) : (l.setIfInBounds i true).getD i false = true := by
  have hl : i < l.size := by omega
  simp [Array.getD_eq_getD_getElem?, Array.getElem?_setIfInBounds, hl]

theorem made_aggV (x : Nat → Int) (w : World) : Calls Tryd.prog 26 #[aggV x] w fun e w' => e = .returned (aggV (madeV x)) ∧ Below w.heap.size w w' := made_any x w
theorem Cells15.below {w w' : World} {B : Nat} {x y z : Nat → Int} (h : Cells15 w B x y z) (hb : Below w.heap.size w w') : Cells15 w' B x y z :=
  ⟨Nat.lt_of_lt_of_le h.1 hb.size, fun j hj => ⟨(hb.cell (p := ⟨B, j, none⟩) h.1).trans (h.2 j hj).1, (hb.cell (p := ⟨B, 5 + j, none⟩) h.1).trans (h.2 j hj).2.1, (hb.cell (p := ⟨B, 10 + j, none⟩) h.1).trans (h.2 j hj).2.2⟩⟩
theorem Cells15.row {w : World} {B : Nat} {x y z : Nat → Int} (h : Cells15 w B x y z) {g : Nat} (hg : B < g) (cs : Array Value) : Cells15 (w.setRow g cs) B x y z := by
  refine ⟨by rw [size_setRow]; exact h.1, fun j hj => ?_⟩
  have e : (w.setRow g cs).heap[B]? = w.heap[B]? := setRow_other w g B cs (by omega)
  exact ⟨(World.cell?_of_block (w := w) e).trans (h.2 j hj).1, (World.cell?_of_block (w := w) e).trans (h.2 j hj).2.1, (World.cell?_of_block (w := w) e).trans (h.2 j hj).2.2⟩
theorem RowAt.farRow {w : World} {b g : Nat} {x : Nat → Int} (h : RowAt w b x) (hne : b ≠ g) (cs : Array Value) : RowAt (w.setRow g cs) b x := by
  unfold RowAt at h ⊢
  rw [setRow_other w g b cs hne, h]
theorem rowS_true {w : World} {b : Nat} {x : Nat → Int} (h : RowAt w b (madeV x)) : RowAt w b (rowS true x) := h
theorem rowS_false {w : World} {b : Nat} {x : Nat → Int} (h : RowAt w b (fun _ => 0)) : RowAt w b (rowS false x) := h

set_option maxRecDepth 100000 in
set_option maxHeartbeats 4000000 in
theorem fits_any3 (w0 : World) (x y z : Nat → Int) (Q : Exit → Act → World → Prop) (W : World) (hW : Cells15 W w0.heap.size x y z) (hBW : Below w0.heap.size w0 W)
    (hend : ∀ (v3 v4 v5 v19 v20 v21 v22 v23 v24 v25 v26 v27 : Value) (b3 b4 b5 : Nat) (w : World), v3 = .pointer (some ⟨b3, 0, none⟩) → v4 = .pointer (some ⟨b4, 0, none⟩) → v5 = .pointer (some ⟨b5, 0, none⟩) → RowAt w b3 (madeV x) → RowAt w b4 (madeV y) → RowAt w b5 (madeV z) → b3 ≠ b4 → b3 ≠ b5 → b4 ≠ b5 → w0.heap.size < b3 → w0.heap.size < b4 → w0.heap.size < b5 → Cells15 w w0.heap.size x y z → Below w0.heap.size w0 w → Q .normal (frF x y z w0.heap.size v3 v4 v5 v19 v20 v21 v22 v23 v24 v25 v26 v27) w) :
    wpAny Tryd.prog .any opsF Q 15 (Array.replicate 15 false) (frF x y z w0.heap.size undef undef undef undef undef undef undef undef undef undef undef undef) W := by
  refine wpAny_inv (ops := opsF) (InvF w0 x y z) (fun l a w h => h.1) lexF ?_ ?_ 15 _ _ _ ?_ (by decide)
  · intro l a w i o hI ho hun hed
    obtain ⟨hs, hc, hb, v3, v4, v5, v19, v20, v21, v22, v23, v24, v25, v26, v27, b3, b4, b5, rfl, h0, h1, h2, h3, h4, h5, h6, h7, h8, g9, g10, g11, d1, d2, d3, e12, e13, e14⟩ := hI
    have hi : i < 15 := (Array.getElem?_eq_some_iff.1 ho).1
    have hi : i = 0 ∨ i = 1 ∨ i = 2 ∨ i = 3 ∨ i = 4 ∨ i = 5 ∨ i = 6 ∨ i = 7 ∨ i = 8 ∨ i = 9 ∨ i = 10 ∨ i = 11 ∨ i = 12 ∨ i = 13 ∨ i = 14 := by omega
    rcases hi with rfl | rfl | rfl | rfl | rfl | rfl | rfl | rfl | rfl | rfl | rfl | rfl | rfl | rfl | rfl
    · obtain rfl : opF0 = o := Option.some.inj ho
      refine op_step (o := opF0) rfl rfl (fun K hK => ?_)
      have hed : ∀ e ∈ opF0.after, Region.binds Region.Mode.any e = true → l.getD e.on false = true := hed
      unfold opF0
      go_simp
      exact hK _ _ ⟨by simpa using hs, hc, hb, v3, v4, v5, .pointer (some ⟨w0.heap.size, 0, none⟩), v20, v21, v22, v23, v24, v25, v26, v27, b3, b4, b5, rfl, (fun _ => rfl), (fun h => h1 (set_ne (by decide) h)), (fun h => h2 (set_ne (by decide) h)), (fun h => h3 (set_ne (by decide) h)), (fun h => h4 (set_ne (by decide) h)), (fun h => h5 (set_ne (by decide) h)), (fun h => h6 (set_ne (by decide) h)), (fun h => h7 (set_ne (by decide) h)), (fun h => h8 (set_ne (by decide) h)), (fun h => ⟨(g9 (set_ne (by decide) h)).1, by rw [set_same (i := 0) (j := 12) (by decide)]; exact (g9 (set_ne (by decide) h)).2.1, (g9 (set_ne (by decide) h)).2.2⟩), (fun h => ⟨(g10 (set_ne (by decide) h)).1, by rw [set_same (i := 0) (j := 13) (by decide)]; exact (g10 (set_ne (by decide) h)).2.1, (g10 (set_ne (by decide) h)).2.2⟩), (fun h => ⟨(g11 (set_ne (by decide) h)).1, by rw [set_same (i := 0) (j := 14) (by decide)]; exact (g11 (set_ne (by decide) h)).2.1, (g11 (set_ne (by decide) h)).2.2⟩), (fun h k => d1 (set_ne (by decide) h) (set_ne (by decide) k)), (fun h k => d2 (set_ne (by decide) h) (set_ne (by decide) k)), (fun h k => d3 (set_ne (by decide) h) (set_ne (by decide) k)), (fun h => by rw [set_same (by decide)]; exact e12 (set_ne (by decide) h)), (fun h => by rw [set_same (by decide)]; exact e13 (set_ne (by decide) h)), (fun h => by rw [set_same (by decide)]; exact e14 (set_ne (by decide) h))⟩
    · obtain rfl : opF1 = o := Option.some.inj ho
      refine op_step (o := opF1) rfl rfl (fun K hK => ?_)
      have hed : ∀ e ∈ opF1.after, Region.binds Region.Mode.any e = true → l.getD e.on false = true := hed
      unfold opF1
      have e := h0 (hed { on := 0, ground := Ground.data } (by simp [opF1]) rfl)
      subst e
      have c0 : w.cell? ⟨w0.heap.size, 0, none⟩ = some (.int .i64 (x 0)) := (hc.2 0 (by omega)).1
      have c1 : w.cell? ⟨w0.heap.size, 1, none⟩ = some (.int .i64 (x 1)) := (hc.2 1 (by omega)).1
      have c2 : w.cell? ⟨w0.heap.size, 2, none⟩ = some (.int .i64 (x 2)) := (hc.2 2 (by omega)).1
      have c3 : w.cell? ⟨w0.heap.size, 3, none⟩ = some (.int .i64 (x 3)) := (hc.2 3 (by omega)).1
      have c4 : w.cell? ⟨w0.heap.size, 4, none⟩ = some (.int .i64 (x 4)) := (hc.2 4 (by omega)).1
      go_simp
      exact hK _ _ ⟨by simpa using hs, hc, hb, v3, v4, v5, .pointer (some ⟨w0.heap.size, 0, none⟩), aggV x, v21, v22, v23, v24, v25, v26, v27, b3, b4, b5, rfl, (fun _ => rfl), (fun _ => rfl), (fun h => h2 (set_ne (by decide) h)), (fun h => h3 (set_ne (by decide) h)), (fun h => h4 (set_ne (by decide) h)), (fun h => h5 (set_ne (by decide) h)), (fun h => h6 (set_ne (by decide) h)), (fun h => h7 (set_ne (by decide) h)), (fun h => h8 (set_ne (by decide) h)), (fun h => ⟨(g9 (set_ne (by decide) h)).1, by rw [set_same (i := 1) (j := 12) (by decide)]; exact (g9 (set_ne (by decide) h)).2.1, (g9 (set_ne (by decide) h)).2.2⟩), (fun h => ⟨(g10 (set_ne (by decide) h)).1, by rw [set_same (i := 1) (j := 13) (by decide)]; exact (g10 (set_ne (by decide) h)).2.1, (g10 (set_ne (by decide) h)).2.2⟩), (fun h => ⟨(g11 (set_ne (by decide) h)).1, by rw [set_same (i := 1) (j := 14) (by decide)]; exact (g11 (set_ne (by decide) h)).2.1, (g11 (set_ne (by decide) h)).2.2⟩), (fun h k => d1 (set_ne (by decide) h) (set_ne (by decide) k)), (fun h k => d2 (set_ne (by decide) h) (set_ne (by decide) k)), (fun h k => d3 (set_ne (by decide) h) (set_ne (by decide) k)), (fun h => by rw [set_same (by decide)]; exact e12 (set_ne (by decide) h)), (fun h => by rw [set_same (by decide)]; exact e13 (set_ne (by decide) h)), (fun h => by rw [set_same (by decide)]; exact e14 (set_ne (by decide) h))⟩
    · obtain rfl : opF2 = o := Option.some.inj ho
      refine op_step (o := opF2) rfl rfl (fun K hK => ?_)
      have hed : ∀ e ∈ opF2.after, Region.binds Region.Mode.any e = true → l.getD e.on false = true := hed
      unfold opF2
      have e := h1 (hed { on := 1, ground := Ground.data } (by simp [opF2]) rfl)
      subst e
      go_simp
      refine (made_aggV x w).mono ?_
      rintro e w1 ⟨rfl, hb1⟩
      exact hK _ _ ⟨by simpa using hs, hc.below hb1, hb.trans (hb1.mono hb.size), v3, v4, v5, v19, aggV x, aggV (madeV x), v22, v23, v24, v25, v26, v27, b3, b4, b5, rfl, (fun h => h0 (set_ne (by decide) h)), (fun _ => rfl), (fun _ => rfl), (fun h => h3 (set_ne (by decide) h)), (fun h => h4 (set_ne (by decide) h)), (fun h => h5 (set_ne (by decide) h)), (fun h => h6 (set_ne (by decide) h)), (fun h => h7 (set_ne (by decide) h)), (fun h => h8 (set_ne (by decide) h)), (fun h => ⟨(g9 (set_ne (by decide) h)).1, by rw [set_same (i := 2) (j := 12) (by decide)]; exact RowAt.below (g9 (set_ne (by decide) h)).2.1 hb1 (RowAt.lt (g9 (set_ne (by decide) h)).2.1), (g9 (set_ne (by decide) h)).2.2⟩), (fun h => ⟨(g10 (set_ne (by decide) h)).1, by rw [set_same (i := 2) (j := 13) (by decide)]; exact RowAt.below (g10 (set_ne (by decide) h)).2.1 hb1 (RowAt.lt (g10 (set_ne (by decide) h)).2.1), (g10 (set_ne (by decide) h)).2.2⟩), (fun h => ⟨(g11 (set_ne (by decide) h)).1, by rw [set_same (i := 2) (j := 14) (by decide)]; exact RowAt.below (g11 (set_ne (by decide) h)).2.1 hb1 (RowAt.lt (g11 (set_ne (by decide) h)).2.1), (g11 (set_ne (by decide) h)).2.2⟩), (fun h k => d1 (set_ne (by decide) h) (set_ne (by decide) k)), (fun h k => d2 (set_ne (by decide) h) (set_ne (by decide) k)), (fun h k => d3 (set_ne (by decide) h) (set_ne (by decide) k)), (fun h => by rw [set_same (by decide)]; exact e12 (set_ne (by decide) h)), (fun h => by rw [set_same (by decide)]; exact e13 (set_ne (by decide) h)), (fun h => by rw [set_same (by decide)]; exact e14 (set_ne (by decide) h))⟩
    · obtain rfl : opF3 = o := Option.some.inj ho
      refine op_step (o := opF3) rfl rfl (fun K hK => ?_)
      have hed : ∀ e ∈ opF3.after, Region.binds Region.Mode.any e = true → l.getD e.on false = true := hed
      unfold opF3
      go_simp
      exact hK _ _ ⟨by simpa using hs, hc, hb, v3, v4, v5, v19, v20, v21, .pointer (some ⟨w0.heap.size, 5, none⟩), v23, v24, v25, v26, v27, b3, b4, b5, rfl, (fun h => h0 (set_ne (by decide) h)), (fun h => h1 (set_ne (by decide) h)), (fun h => h2 (set_ne (by decide) h)), (fun _ => rfl), (fun h => h4 (set_ne (by decide) h)), (fun h => h5 (set_ne (by decide) h)), (fun h => h6 (set_ne (by decide) h)), (fun h => h7 (set_ne (by decide) h)), (fun h => h8 (set_ne (by decide) h)), (fun h => ⟨(g9 (set_ne (by decide) h)).1, by rw [set_same (i := 3) (j := 12) (by decide)]; exact (g9 (set_ne (by decide) h)).2.1, (g9 (set_ne (by decide) h)).2.2⟩), (fun h => ⟨(g10 (set_ne (by decide) h)).1, by rw [set_same (i := 3) (j := 13) (by decide)]; exact (g10 (set_ne (by decide) h)).2.1, (g10 (set_ne (by decide) h)).2.2⟩), (fun h => ⟨(g11 (set_ne (by decide) h)).1, by rw [set_same (i := 3) (j := 14) (by decide)]; exact (g11 (set_ne (by decide) h)).2.1, (g11 (set_ne (by decide) h)).2.2⟩), (fun h k => d1 (set_ne (by decide) h) (set_ne (by decide) k)), (fun h k => d2 (set_ne (by decide) h) (set_ne (by decide) k)), (fun h k => d3 (set_ne (by decide) h) (set_ne (by decide) k)), (fun h => by rw [set_same (by decide)]; exact e12 (set_ne (by decide) h)), (fun h => by rw [set_same (by decide)]; exact e13 (set_ne (by decide) h)), (fun h => by rw [set_same (by decide)]; exact e14 (set_ne (by decide) h))⟩
    · obtain rfl : opF4 = o := Option.some.inj ho
      refine op_step (o := opF4) rfl rfl (fun K hK => ?_)
      have hed : ∀ e ∈ opF4.after, Region.binds Region.Mode.any e = true → l.getD e.on false = true := hed
      unfold opF4
      have e := h3 (hed { on := 3, ground := Ground.data } (by simp [opF4]) rfl)
      subst e
      have c0 : w.cell? ⟨w0.heap.size, 5, none⟩ = some (.int .i64 (y 0)) := (hc.2 0 (by omega)).2.1
      have c1 : w.cell? ⟨w0.heap.size, 6, none⟩ = some (.int .i64 (y 1)) := (hc.2 1 (by omega)).2.1
      have c2 : w.cell? ⟨w0.heap.size, 7, none⟩ = some (.int .i64 (y 2)) := (hc.2 2 (by omega)).2.1
      have c3 : w.cell? ⟨w0.heap.size, 8, none⟩ = some (.int .i64 (y 3)) := (hc.2 3 (by omega)).2.1
      have c4 : w.cell? ⟨w0.heap.size, 9, none⟩ = some (.int .i64 (y 4)) := (hc.2 4 (by omega)).2.1
      go_simp
      exact hK _ _ ⟨by simpa using hs, hc, hb, v3, v4, v5, v19, v20, v21, .pointer (some ⟨w0.heap.size, 5, none⟩), aggV y, v24, v25, v26, v27, b3, b4, b5, rfl, (fun h => h0 (set_ne (by decide) h)), (fun h => h1 (set_ne (by decide) h)), (fun h => h2 (set_ne (by decide) h)), (fun _ => rfl), (fun _ => rfl), (fun h => h5 (set_ne (by decide) h)), (fun h => h6 (set_ne (by decide) h)), (fun h => h7 (set_ne (by decide) h)), (fun h => h8 (set_ne (by decide) h)), (fun h => ⟨(g9 (set_ne (by decide) h)).1, by rw [set_same (i := 4) (j := 12) (by decide)]; exact (g9 (set_ne (by decide) h)).2.1, (g9 (set_ne (by decide) h)).2.2⟩), (fun h => ⟨(g10 (set_ne (by decide) h)).1, by rw [set_same (i := 4) (j := 13) (by decide)]; exact (g10 (set_ne (by decide) h)).2.1, (g10 (set_ne (by decide) h)).2.2⟩), (fun h => ⟨(g11 (set_ne (by decide) h)).1, by rw [set_same (i := 4) (j := 14) (by decide)]; exact (g11 (set_ne (by decide) h)).2.1, (g11 (set_ne (by decide) h)).2.2⟩), (fun h k => d1 (set_ne (by decide) h) (set_ne (by decide) k)), (fun h k => d2 (set_ne (by decide) h) (set_ne (by decide) k)), (fun h k => d3 (set_ne (by decide) h) (set_ne (by decide) k)), (fun h => by rw [set_same (by decide)]; exact e12 (set_ne (by decide) h)), (fun h => by rw [set_same (by decide)]; exact e13 (set_ne (by decide) h)), (fun h => by rw [set_same (by decide)]; exact e14 (set_ne (by decide) h))⟩
    · obtain rfl : opF5 = o := Option.some.inj ho
      refine op_step (o := opF5) rfl rfl (fun K hK => ?_)
      have hed : ∀ e ∈ opF5.after, Region.binds Region.Mode.any e = true → l.getD e.on false = true := hed
      unfold opF5
      have e := h4 (hed { on := 4, ground := Ground.data } (by simp [opF5]) rfl)
      subst e
      go_simp
      refine (made_aggV y w).mono ?_
      rintro e w1 ⟨rfl, hb1⟩
      exact hK _ _ ⟨by simpa using hs, hc.below hb1, hb.trans (hb1.mono hb.size), v3, v4, v5, v19, v20, v21, v22, aggV y, aggV (madeV y), v25, v26, v27, b3, b4, b5, rfl, (fun h => h0 (set_ne (by decide) h)), (fun h => h1 (set_ne (by decide) h)), (fun h => h2 (set_ne (by decide) h)), (fun h => h3 (set_ne (by decide) h)), (fun _ => rfl), (fun _ => rfl), (fun h => h6 (set_ne (by decide) h)), (fun h => h7 (set_ne (by decide) h)), (fun h => h8 (set_ne (by decide) h)), (fun h => ⟨(g9 (set_ne (by decide) h)).1, by rw [set_same (i := 5) (j := 12) (by decide)]; exact RowAt.below (g9 (set_ne (by decide) h)).2.1 hb1 (RowAt.lt (g9 (set_ne (by decide) h)).2.1), (g9 (set_ne (by decide) h)).2.2⟩), (fun h => ⟨(g10 (set_ne (by decide) h)).1, by rw [set_same (i := 5) (j := 13) (by decide)]; exact RowAt.below (g10 (set_ne (by decide) h)).2.1 hb1 (RowAt.lt (g10 (set_ne (by decide) h)).2.1), (g10 (set_ne (by decide) h)).2.2⟩), (fun h => ⟨(g11 (set_ne (by decide) h)).1, by rw [set_same (i := 5) (j := 14) (by decide)]; exact RowAt.below (g11 (set_ne (by decide) h)).2.1 hb1 (RowAt.lt (g11 (set_ne (by decide) h)).2.1), (g11 (set_ne (by decide) h)).2.2⟩), (fun h k => d1 (set_ne (by decide) h) (set_ne (by decide) k)), (fun h k => d2 (set_ne (by decide) h) (set_ne (by decide) k)), (fun h k => d3 (set_ne (by decide) h) (set_ne (by decide) k)), (fun h => by rw [set_same (by decide)]; exact e12 (set_ne (by decide) h)), (fun h => by rw [set_same (by decide)]; exact e13 (set_ne (by decide) h)), (fun h => by rw [set_same (by decide)]; exact e14 (set_ne (by decide) h))⟩
    · obtain rfl : opF6 = o := Option.some.inj ho
      refine op_step (o := opF6) rfl rfl (fun K hK => ?_)
      have hed : ∀ e ∈ opF6.after, Region.binds Region.Mode.any e = true → l.getD e.on false = true := hed
      unfold opF6
      go_simp
      exact hK _ _ ⟨by simpa using hs, hc, hb, v3, v4, v5, v19, v20, v21, v22, v23, v24, .pointer (some ⟨w0.heap.size, 10, none⟩), v26, v27, b3, b4, b5, rfl, (fun h => h0 (set_ne (by decide) h)), (fun h => h1 (set_ne (by decide) h)), (fun h => h2 (set_ne (by decide) h)), (fun h => h3 (set_ne (by decide) h)), (fun h => h4 (set_ne (by decide) h)), (fun h => h5 (set_ne (by decide) h)), (fun _ => rfl), (fun h => h7 (set_ne (by decide) h)), (fun h => h8 (set_ne (by decide) h)), (fun h => ⟨(g9 (set_ne (by decide) h)).1, by rw [set_same (i := 6) (j := 12) (by decide)]; exact (g9 (set_ne (by decide) h)).2.1, (g9 (set_ne (by decide) h)).2.2⟩), (fun h => ⟨(g10 (set_ne (by decide) h)).1, by rw [set_same (i := 6) (j := 13) (by decide)]; exact (g10 (set_ne (by decide) h)).2.1, (g10 (set_ne (by decide) h)).2.2⟩), (fun h => ⟨(g11 (set_ne (by decide) h)).1, by rw [set_same (i := 6) (j := 14) (by decide)]; exact (g11 (set_ne (by decide) h)).2.1, (g11 (set_ne (by decide) h)).2.2⟩), (fun h k => d1 (set_ne (by decide) h) (set_ne (by decide) k)), (fun h k => d2 (set_ne (by decide) h) (set_ne (by decide) k)), (fun h k => d3 (set_ne (by decide) h) (set_ne (by decide) k)), (fun h => by rw [set_same (by decide)]; exact e12 (set_ne (by decide) h)), (fun h => by rw [set_same (by decide)]; exact e13 (set_ne (by decide) h)), (fun h => by rw [set_same (by decide)]; exact e14 (set_ne (by decide) h))⟩
    · obtain rfl : opF7 = o := Option.some.inj ho
      refine op_step (o := opF7) rfl rfl (fun K hK => ?_)
      have hed : ∀ e ∈ opF7.after, Region.binds Region.Mode.any e = true → l.getD e.on false = true := hed
      unfold opF7
      have e := h6 (hed { on := 6, ground := Ground.data } (by simp [opF7]) rfl)
      subst e
      have c0 : w.cell? ⟨w0.heap.size, 10, none⟩ = some (.int .i64 (z 0)) := (hc.2 0 (by omega)).2.2
      have c1 : w.cell? ⟨w0.heap.size, 11, none⟩ = some (.int .i64 (z 1)) := (hc.2 1 (by omega)).2.2
      have c2 : w.cell? ⟨w0.heap.size, 12, none⟩ = some (.int .i64 (z 2)) := (hc.2 2 (by omega)).2.2
      have c3 : w.cell? ⟨w0.heap.size, 13, none⟩ = some (.int .i64 (z 3)) := (hc.2 3 (by omega)).2.2
      have c4 : w.cell? ⟨w0.heap.size, 14, none⟩ = some (.int .i64 (z 4)) := (hc.2 4 (by omega)).2.2
      go_simp
      exact hK _ _ ⟨by simpa using hs, hc, hb, v3, v4, v5, v19, v20, v21, v22, v23, v24, .pointer (some ⟨w0.heap.size, 10, none⟩), aggV z, v27, b3, b4, b5, rfl, (fun h => h0 (set_ne (by decide) h)), (fun h => h1 (set_ne (by decide) h)), (fun h => h2 (set_ne (by decide) h)), (fun h => h3 (set_ne (by decide) h)), (fun h => h4 (set_ne (by decide) h)), (fun h => h5 (set_ne (by decide) h)), (fun _ => rfl), (fun _ => rfl), (fun h => h8 (set_ne (by decide) h)), (fun h => ⟨(g9 (set_ne (by decide) h)).1, by rw [set_same (i := 7) (j := 12) (by decide)]; exact (g9 (set_ne (by decide) h)).2.1, (g9 (set_ne (by decide) h)).2.2⟩), (fun h => ⟨(g10 (set_ne (by decide) h)).1, by rw [set_same (i := 7) (j := 13) (by decide)]; exact (g10 (set_ne (by decide) h)).2.1, (g10 (set_ne (by decide) h)).2.2⟩), (fun h => ⟨(g11 (set_ne (by decide) h)).1, by rw [set_same (i := 7) (j := 14) (by decide)]; exact (g11 (set_ne (by decide) h)).2.1, (g11 (set_ne (by decide) h)).2.2⟩), (fun h k => d1 (set_ne (by decide) h) (set_ne (by decide) k)), (fun h k => d2 (set_ne (by decide) h) (set_ne (by decide) k)), (fun h k => d3 (set_ne (by decide) h) (set_ne (by decide) k)), (fun h => by rw [set_same (by decide)]; exact e12 (set_ne (by decide) h)), (fun h => by rw [set_same (by decide)]; exact e13 (set_ne (by decide) h)), (fun h => by rw [set_same (by decide)]; exact e14 (set_ne (by decide) h))⟩
    · obtain rfl : opF8 = o := Option.some.inj ho
      refine op_step (o := opF8) rfl rfl (fun K hK => ?_)
      have hed : ∀ e ∈ opF8.after, Region.binds Region.Mode.any e = true → l.getD e.on false = true := hed
      unfold opF8
      have e := h7 (hed { on := 7, ground := Ground.data } (by simp [opF8]) rfl)
      subst e
      go_simp
      refine (made_aggV z w).mono ?_
      rintro e w1 ⟨rfl, hb1⟩
      exact hK _ _ ⟨by simpa using hs, hc.below hb1, hb.trans (hb1.mono hb.size), v3, v4, v5, v19, v20, v21, v22, v23, v24, v25, aggV z, aggV (madeV z), b3, b4, b5, rfl, (fun h => h0 (set_ne (by decide) h)), (fun h => h1 (set_ne (by decide) h)), (fun h => h2 (set_ne (by decide) h)), (fun h => h3 (set_ne (by decide) h)), (fun h => h4 (set_ne (by decide) h)), (fun h => h5 (set_ne (by decide) h)), (fun h => h6 (set_ne (by decide) h)), (fun _ => rfl), (fun _ => rfl), (fun h => ⟨(g9 (set_ne (by decide) h)).1, by rw [set_same (i := 8) (j := 12) (by decide)]; exact RowAt.below (g9 (set_ne (by decide) h)).2.1 hb1 (RowAt.lt (g9 (set_ne (by decide) h)).2.1), (g9 (set_ne (by decide) h)).2.2⟩), (fun h => ⟨(g10 (set_ne (by decide) h)).1, by rw [set_same (i := 8) (j := 13) (by decide)]; exact RowAt.below (g10 (set_ne (by decide) h)).2.1 hb1 (RowAt.lt (g10 (set_ne (by decide) h)).2.1), (g10 (set_ne (by decide) h)).2.2⟩), (fun h => ⟨(g11 (set_ne (by decide) h)).1, by rw [set_same (i := 8) (j := 14) (by decide)]; exact RowAt.below (g11 (set_ne (by decide) h)).2.1 hb1 (RowAt.lt (g11 (set_ne (by decide) h)).2.1), (g11 (set_ne (by decide) h)).2.2⟩), (fun h k => d1 (set_ne (by decide) h) (set_ne (by decide) k)), (fun h k => d2 (set_ne (by decide) h) (set_ne (by decide) k)), (fun h k => d3 (set_ne (by decide) h) (set_ne (by decide) k)), (fun h => by rw [set_same (by decide)]; exact e12 (set_ne (by decide) h)), (fun h => by rw [set_same (by decide)]; exact e13 (set_ne (by decide) h)), (fun h => by rw [set_same (by decide)]; exact e14 (set_ne (by decide) h))⟩
    · obtain rfl : opF9 = o := Option.some.inj ho
      refine op_step (o := opF9) rfl rfl (fun K hK => ?_)
      have hed : ∀ e ∈ opF9.after, Region.binds Region.Mode.any e = true → l.getD e.on false = true := hed
      unfold opF9
      have hno : l.getD 12 false = false := by
        cases hq : l.getD 12 false with
        | false => rfl
        | true =>
          have h2 := e12 hq
          rw [not_yet hs (by decide) hun] at h2
          cases h2
      go_simp
      exact hK _ _ ⟨by simpa using hs, hc.below (below1 w (.cells #[.int .i64 0, .int .i64 0, .int .i64 0, .int .i64 0, .int .i64 0] 24)), hb.alloc hb.size (.cells #[.int .i64 0, .int .i64 0, .int .i64 0, .int .i64 0, .int .i64 0] 24), .pointer (some ⟨w.heap.size, 0, none⟩), v4, v5, v19, v20, v21, v22, v23, v24, v25, v26, v27, w.heap.size, b4, b5, rfl, (fun h => h0 (set_ne (by decide) h)), (fun h => h1 (set_ne (by decide) h)), (fun h => h2 (set_ne (by decide) h)), (fun h => h3 (set_ne (by decide) h)), (fun h => h4 (set_ne (by decide) h)), (fun h => h5 (set_ne (by decide) h)), (fun h => h6 (set_ne (by decide) h)), (fun h => h7 (set_ne (by decide) h)), (fun h => h8 (set_ne (by decide) h)), (fun _ => ⟨rfl, by rw [set_same (i := 9) (j := 12) (by decide), hno]; exact rowS_false (RowAt.new w (fun _ => 0)), Nat.lt_of_lt_of_le hc.1 (Nat.le_refl _)⟩), (fun h => ⟨(g10 (set_ne (by decide) h)).1, by rw [set_same (i := 9) (j := 13) (by decide)]; exact RowAt.alloc (g10 (set_ne (by decide) h)).2.1 (.cells #[.int .i64 0, .int .i64 0, .int .i64 0, .int .i64 0, .int .i64 0] 24), (g10 (set_ne (by decide) h)).2.2⟩), (fun h => ⟨(g11 (set_ne (by decide) h)).1, by rw [set_same (i := 9) (j := 14) (by decide)]; exact RowAt.alloc (g11 (set_ne (by decide) h)).2.1 (.cells #[.int .i64 0, .int .i64 0, .int .i64 0, .int .i64 0, .int .i64 0] 24), (g11 (set_ne (by decide) h)).2.2⟩), (fun _ h => Nat.ne_of_gt (RowAt.lt (g10 (set_ne (by decide) h)).2.1)), (fun _ h => Nat.ne_of_gt (RowAt.lt (g11 (set_ne (by decide) h)).2.1)), (fun h k => d3 (set_ne (by decide) h) (set_ne (by decide) k)), (fun _ => set_here hs (by decide)), (fun h => by rw [set_same (by decide)]; exact e13 (set_ne (by decide) h)), (fun h => by rw [set_same (by decide)]; exact e14 (set_ne (by decide) h))⟩
    · obtain rfl : opF10 = o := Option.some.inj ho
      refine op_step (o := opF10) rfl rfl (fun K hK => ?_)
      have hed : ∀ e ∈ opF10.after, Region.binds Region.Mode.any e = true → l.getD e.on false = true := hed
      unfold opF10
      have hno : l.getD 13 false = false := by
        cases hq : l.getD 13 false with
        | false => rfl
        | true =>
          have h2 := e13 hq
          rw [not_yet hs (by decide) hun] at h2
          cases h2
      go_simp
      exact hK _ _ ⟨by simpa using hs, hc.below (below1 w (.cells #[.int .i64 0, .int .i64 0, .int .i64 0, .int .i64 0, .int .i64 0] 24)), hb.alloc hb.size (.cells #[.int .i64 0, .int .i64 0, .int .i64 0, .int .i64 0, .int .i64 0] 24), v3, .pointer (some ⟨w.heap.size, 0, none⟩), v5, v19, v20, v21, v22, v23, v24, v25, v26, v27, b3, w.heap.size, b5, rfl, (fun h => h0 (set_ne (by decide) h)), (fun h => h1 (set_ne (by decide) h)), (fun h => h2 (set_ne (by decide) h)), (fun h => h3 (set_ne (by decide) h)), (fun h => h4 (set_ne (by decide) h)), (fun h => h5 (set_ne (by decide) h)), (fun h => h6 (set_ne (by decide) h)), (fun h => h7 (set_ne (by decide) h)), (fun h => h8 (set_ne (by decide) h)), (fun h => ⟨(g9 (set_ne (by decide) h)).1, by rw [set_same (i := 10) (j := 12) (by decide)]; exact RowAt.alloc (g9 (set_ne (by decide) h)).2.1 (.cells #[.int .i64 0, .int .i64 0, .int .i64 0, .int .i64 0, .int .i64 0] 24), (g9 (set_ne (by decide) h)).2.2⟩), (fun _ => ⟨rfl, by rw [set_same (i := 10) (j := 13) (by decide), hno]; exact rowS_false (RowAt.new w (fun _ => 0)), Nat.lt_of_lt_of_le hc.1 (Nat.le_refl _)⟩), (fun h => ⟨(g11 (set_ne (by decide) h)).1, by rw [set_same (i := 10) (j := 14) (by decide)]; exact RowAt.alloc (g11 (set_ne (by decide) h)).2.1 (.cells #[.int .i64 0, .int .i64 0, .int .i64 0, .int .i64 0, .int .i64 0] 24), (g11 (set_ne (by decide) h)).2.2⟩), (fun h _ => Nat.ne_of_lt (RowAt.lt (g9 (set_ne (by decide) h)).2.1)), (fun h k => d2 (set_ne (by decide) h) (set_ne (by decide) k)), (fun _ h => Nat.ne_of_gt (RowAt.lt (g11 (set_ne (by decide) h)).2.1)), (fun h => by rw [set_same (by decide)]; exact e12 (set_ne (by decide) h)), (fun _ => set_here hs (by decide)), (fun h => by rw [set_same (by decide)]; exact e14 (set_ne (by decide) h))⟩
    · obtain rfl : opF11 = o := Option.some.inj ho
      refine op_step (o := opF11) rfl rfl (fun K hK => ?_)
      have hed : ∀ e ∈ opF11.after, Region.binds Region.Mode.any e = true → l.getD e.on false = true := hed
      unfold opF11
      have hno : l.getD 14 false = false := by
        cases hq : l.getD 14 false with
        | false => rfl
        | true =>
          have h2 := e14 hq
          rw [not_yet hs (by decide) hun] at h2
          cases h2
      go_simp
      exact hK _ _ ⟨by simpa using hs, hc.below (below1 w (.cells #[.int .i64 0, .int .i64 0, .int .i64 0, .int .i64 0, .int .i64 0] 24)), hb.alloc hb.size (.cells #[.int .i64 0, .int .i64 0, .int .i64 0, .int .i64 0, .int .i64 0] 24), v3, v4, .pointer (some ⟨w.heap.size, 0, none⟩), v19, v20, v21, v22, v23, v24, v25, v26, v27, b3, b4, w.heap.size, rfl, (fun h => h0 (set_ne (by decide) h)), (fun h => h1 (set_ne (by decide) h)), (fun h => h2 (set_ne (by decide) h)), (fun h => h3 (set_ne (by decide) h)), (fun h => h4 (set_ne (by decide) h)), (fun h => h5 (set_ne (by decide) h)), (fun h => h6 (set_ne (by decide) h)), (fun h => h7 (set_ne (by decide) h)), (fun h => h8 (set_ne (by decide) h)), (fun h => ⟨(g9 (set_ne (by decide) h)).1, by rw [set_same (i := 11) (j := 12) (by decide)]; exact RowAt.alloc (g9 (set_ne (by decide) h)).2.1 (.cells #[.int .i64 0, .int .i64 0, .int .i64 0, .int .i64 0, .int .i64 0] 24), (g9 (set_ne (by decide) h)).2.2⟩), (fun h => ⟨(g10 (set_ne (by decide) h)).1, by rw [set_same (i := 11) (j := 13) (by decide)]; exact RowAt.alloc (g10 (set_ne (by decide) h)).2.1 (.cells #[.int .i64 0, .int .i64 0, .int .i64 0, .int .i64 0, .int .i64 0] 24), (g10 (set_ne (by decide) h)).2.2⟩), (fun _ => ⟨rfl, by rw [set_same (i := 11) (j := 14) (by decide), hno]; exact rowS_false (RowAt.new w (fun _ => 0)), Nat.lt_of_lt_of_le hc.1 (Nat.le_refl _)⟩), (fun h k => d1 (set_ne (by decide) h) (set_ne (by decide) k)), (fun h _ => Nat.ne_of_lt (RowAt.lt (g9 (set_ne (by decide) h)).2.1)), (fun h _ => Nat.ne_of_lt (RowAt.lt (g10 (set_ne (by decide) h)).2.1)), (fun h => by rw [set_same (by decide)]; exact e12 (set_ne (by decide) h)), (fun h => by rw [set_same (by decide)]; exact e13 (set_ne (by decide) h)), (fun _ => set_here hs (by decide))⟩
    · obtain rfl : opF12 = o := Option.some.inj ho
      refine op_step (o := opF12) rfl rfl (fun K hK => ?_)
      have hed : ∀ e ∈ opF12.after, Region.binds Region.Mode.any e = true → l.getD e.on false = true := hed
      unfold opF12
      have e := h2 (hed { on := 2, ground := Ground.data } (by simp [opF12]) rfl)
      subst e
      obtain ⟨e, hrow, hgt⟩ := g9 (hed { on := 9, ground := Ground.data } (by simp [opF12]) rfl)
      subst e
      have h9 := hed { on := 9, ground := Ground.data } (by simp [opF12]) rfl
      have h10 := hed { on := 10, ground := Ground.phase } (by simp [opF12]) rfl
      have h11 := hed { on := 11, ground := Ground.phase } (by simp [opF12]) rfl
      refine wp_store_row 24 (.tmp 3) (.tmp 21) rfl b3 #[.int .i64 (madeV x 0), .int .i64 (madeV x 1), .int .i64 (madeV x 2), .int .i64 (madeV x 3), .int .i64 (madeV x 4)] rfl rfl 24 _ hrow vec_size (by kernel_rfl) (by kernel_rfl) ?_
      exact hK _ _ ⟨by simpa using hs, hc.row hgt _, below_setRow hb (Nat.le_of_lt hgt) _, .pointer (some ⟨b3, 0, none⟩), v4, v5, v19, v20, aggV (madeV x), v22, v23, v24, v25, v26, v27, b3, b4, b5, rfl, (fun h => h0 (set_ne (by decide) h)), (fun h => h1 (set_ne (by decide) h)), (fun _ => rfl), (fun h => h3 (set_ne (by decide) h)), (fun h => h4 (set_ne (by decide) h)), (fun h => h5 (set_ne (by decide) h)), (fun h => h6 (set_ne (by decide) h)), (fun h => h7 (set_ne (by decide) h)), (fun h => h8 (set_ne (by decide) h)), (fun _ => ⟨rfl, by rw [set_here hs (by decide)]; exact rowS_true (RowAt.put hrow (madeV x)), hgt⟩), (fun h => ⟨(g10 (set_ne (by decide) h)).1, by rw [set_same (i := 12) (j := 13) (by decide)]; exact RowAt.farRow (g10 (set_ne (by decide) h)).2.1 ((d1 h9 h10).symm) _, (g10 (set_ne (by decide) h)).2.2⟩), (fun h => ⟨(g11 (set_ne (by decide) h)).1, by rw [set_same (i := 12) (j := 14) (by decide)]; exact RowAt.farRow (g11 (set_ne (by decide) h)).2.1 ((d2 h9 h11).symm) _, (g11 (set_ne (by decide) h)).2.2⟩), (fun h k => d1 (set_ne (by decide) h) (set_ne (by decide) k)), (fun h k => d2 (set_ne (by decide) h) (set_ne (by decide) k)), (fun h k => d3 (set_ne (by decide) h) (set_ne (by decide) k)), (fun _ => by rw [set_same (by decide)]; exact h9), (fun h => by rw [set_same (by decide)]; exact e13 (set_ne (by decide) h)), (fun h => by rw [set_same (by decide)]; exact e14 (set_ne (by decide) h))⟩
    · obtain rfl : opF13 = o := Option.some.inj ho
      refine op_step (o := opF13) rfl rfl (fun K hK => ?_)
      have hed : ∀ e ∈ opF13.after, Region.binds Region.Mode.any e = true → l.getD e.on false = true := hed
      unfold opF13
      have e := h5 (hed { on := 5, ground := Ground.data } (by simp [opF13]) rfl)
      subst e
      obtain ⟨e, hrow, hgt⟩ := g10 (hed { on := 10, ground := Ground.data } (by simp [opF13]) rfl)
      subst e
      have h9 := hed { on := 9, ground := Ground.phase } (by simp [opF13]) rfl
      have h10 := hed { on := 10, ground := Ground.data } (by simp [opF13]) rfl
      have h11 := hed { on := 11, ground := Ground.phase } (by simp [opF13]) rfl
      refine wp_store_row 24 (.tmp 4) (.tmp 24) rfl b4 #[.int .i64 (madeV y 0), .int .i64 (madeV y 1), .int .i64 (madeV y 2), .int .i64 (madeV y 3), .int .i64 (madeV y 4)] rfl rfl 24 _ hrow vec_size (by kernel_rfl) (by kernel_rfl) ?_
      exact hK _ _ ⟨by simpa using hs, hc.row hgt _, below_setRow hb (Nat.le_of_lt hgt) _, v3, .pointer (some ⟨b4, 0, none⟩), v5, v19, v20, v21, v22, v23, aggV (madeV y), v25, v26, v27, b3, b4, b5, rfl, (fun h => h0 (set_ne (by decide) h)), (fun h => h1 (set_ne (by decide) h)), (fun h => h2 (set_ne (by decide) h)), (fun h => h3 (set_ne (by decide) h)), (fun h => h4 (set_ne (by decide) h)), (fun _ => rfl), (fun h => h6 (set_ne (by decide) h)), (fun h => h7 (set_ne (by decide) h)), (fun h => h8 (set_ne (by decide) h)), (fun h => ⟨(g9 (set_ne (by decide) h)).1, by rw [set_same (i := 13) (j := 12) (by decide)]; exact RowAt.farRow (g9 (set_ne (by decide) h)).2.1 (d1 h9 h10) _, (g9 (set_ne (by decide) h)).2.2⟩), (fun _ => ⟨rfl, by rw [set_here hs (by decide)]; exact rowS_true (RowAt.put hrow (madeV y)), hgt⟩), (fun h => ⟨(g11 (set_ne (by decide) h)).1, by rw [set_same (i := 13) (j := 14) (by decide)]; exact RowAt.farRow (g11 (set_ne (by decide) h)).2.1 ((d3 h10 h11).symm) _, (g11 (set_ne (by decide) h)).2.2⟩), (fun h k => d1 (set_ne (by decide) h) (set_ne (by decide) k)), (fun h k => d2 (set_ne (by decide) h) (set_ne (by decide) k)), (fun h k => d3 (set_ne (by decide) h) (set_ne (by decide) k)), (fun h => by rw [set_same (by decide)]; exact e12 (set_ne (by decide) h)), (fun _ => by rw [set_same (by decide)]; exact h10), (fun h => by rw [set_same (by decide)]; exact e14 (set_ne (by decide) h))⟩
    · obtain rfl : opF14 = o := Option.some.inj ho
      refine op_step (o := opF14) rfl rfl (fun K hK => ?_)
      have hed : ∀ e ∈ opF14.after, Region.binds Region.Mode.any e = true → l.getD e.on false = true := hed
      unfold opF14
      have e := h8 (hed { on := 8, ground := Ground.data } (by simp [opF14]) rfl)
      subst e
      obtain ⟨e, hrow, hgt⟩ := g11 (hed { on := 11, ground := Ground.data } (by simp [opF14]) rfl)
      subst e
      have h9 := hed { on := 9, ground := Ground.phase } (by simp [opF14]) rfl
      have h10 := hed { on := 10, ground := Ground.phase } (by simp [opF14]) rfl
      have h11 := hed { on := 11, ground := Ground.data } (by simp [opF14]) rfl
      refine wp_store_row 24 (.tmp 5) (.tmp 27) rfl b5 #[.int .i64 (madeV z 0), .int .i64 (madeV z 1), .int .i64 (madeV z 2), .int .i64 (madeV z 3), .int .i64 (madeV z 4)] rfl rfl 24 _ hrow vec_size (by kernel_rfl) (by kernel_rfl) ?_
      exact hK _ _ ⟨by simpa using hs, hc.row hgt _, below_setRow hb (Nat.le_of_lt hgt) _, v3, v4, .pointer (some ⟨b5, 0, none⟩), v19, v20, v21, v22, v23, v24, v25, v26, aggV (madeV z), b3, b4, b5, rfl, (fun h => h0 (set_ne (by decide) h)), (fun h => h1 (set_ne (by decide) h)), (fun h => h2 (set_ne (by decide) h)), (fun h => h3 (set_ne (by decide) h)), (fun h => h4 (set_ne (by decide) h)), (fun h => h5 (set_ne (by decide) h)), (fun h => h6 (set_ne (by decide) h)), (fun h => h7 (set_ne (by decide) h)), (fun _ => rfl), (fun h => ⟨(g9 (set_ne (by decide) h)).1, by rw [set_same (i := 14) (j := 12) (by decide)]; exact RowAt.farRow (g9 (set_ne (by decide) h)).2.1 (d2 h9 h11) _, (g9 (set_ne (by decide) h)).2.2⟩), (fun h => ⟨(g10 (set_ne (by decide) h)).1, by rw [set_same (i := 14) (j := 13) (by decide)]; exact RowAt.farRow (g10 (set_ne (by decide) h)).2.1 (d3 h10 h11) _, (g10 (set_ne (by decide) h)).2.2⟩), (fun _ => ⟨rfl, by rw [set_here hs (by decide)]; exact rowS_true (RowAt.put hrow (madeV z)), hgt⟩), (fun h k => d1 (set_ne (by decide) h) (set_ne (by decide) k)), (fun h k => d2 (set_ne (by decide) h) (set_ne (by decide) k)), (fun h k => d3 (set_ne (by decide) h) (set_ne (by decide) k)), (fun h => by rw [set_same (by decide)]; exact e12 (set_ne (by decide) h)), (fun h => by rw [set_same (by decide)]; exact e13 (set_ne (by decide) h)), (fun _ => by rw [set_same (by decide)]; exact h11)⟩
  · intro l a w hI hall
    obtain ⟨hs, hc, hb, v3, v4, v5, v19, v20, v21, v22, v23, v24, v25, v26, v27, b3, b4, b5, rfl, h0, h1, h2, h3, h4, h5, h6, h7, h8, g9, g10, g11, d1, d2, d3, e12, e13, e14⟩ := hI
    have a3 := g9 (hall 9 (by decide))
    have a4 := g10 (hall 10 (by decide))
    have a5 := g11 (hall 11 (by decide))
    rw [hall 12 (by decide)] at a3
    rw [hall 13 (by decide)] at a4
    rw [hall 14 (by decide)] at a5
    exact hend _ _ _ _ _ _ _ _ _ _ _ _ b3 b4 b5 w a3.1 a4.1 a5.1 a3.2.1 a4.2.1 a5.2.1 (d1 (hall 9 (by decide)) (hall 10 (by decide))) (d2 (hall 9 (by decide)) (hall 11 (by decide))) (d3 (hall 10 (by decide)) (hall 11 (by decide))) a3.2.2 a4.2.2 a5.2.2 hc hb
  · have no : ∀ j, (Array.replicate 15 false).getD j false = false := fun j => by
      simp [Array.getD_eq_getD_getElem?, Array.getElem?_replicate]
      split <;> simp
    have nono : ∀ {p : Prop} (j : Nat), (Array.replicate 15 false).getD j false = true → p := fun j h => by rw [no j] at h; cases h
    exact ⟨by simp, hW, hBW, undef, undef, undef, undef, undef, undef, undef, undef, undef, undef, undef, undef, 0, 0, 0, rfl, nono _, nono _, nono _, nono _, nono _, nono _, nono _, nono _, nono _, nono _, nono _, nono _, fun h => nono _ h, fun h => nono _ h, fun h => nono _ h, nono _, nono _, nono _⟩

end Go.Proofs.YtgmecaaogmpakaaDoor
