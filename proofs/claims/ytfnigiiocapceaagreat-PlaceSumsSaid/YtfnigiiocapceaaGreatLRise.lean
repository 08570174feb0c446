/- The orders of labels, of what is borne, of terms, as plain functions; what a list owns. No conditions. -/
import Derived.Test.YtfnigiiocapceaaGreatLTerm
namespace Go.Proofs.YtfnigiiocapceaaGreat.La
open Go.RowKit

def keyR (a b : List UInt8 × List UInt8) : Bool := Op.bytesLess a.1 b.1
def pairR (a b : List UInt8 × List UInt8) : Bool := Op.bytesLess a.1 b.1 || (decide (a.1 = b.1) && Op.bytesLess a.2 b.2)
def anyR (_ _ : Int × List UInt8 × List UInt8) : Bool := true

theorem keysRise_any (a b : List UInt8 × List UInt8) (w : World) :
    Calls Tryz.prog 136 #[labV a, labV b] w fun e w' => e = .returned (.bool (keyR a b)) ∧ Below w.heap.size w w' := by
  go_enter Tryz.func136, Tryz.ntmps136
  go_wp2
  go_ret
  exact ⟨rfl, ((Below.refl _ _).alloc (Nat.le_refl _) _).alloc (by simp) _⟩

theorem pairsRise_any (a b : List UInt8 × List UInt8) (w : World) :
    Calls Tryz.prog 141 #[labV a, labV b] w fun e w' => e = .returned (.bool (pairR a b)) ∧ Below w.heap.size w w' := by
  go_enter Tryz.func141, Tryz.ntmps141
  go_wp2
  all_goals
    go_ret
    refine ⟨retB ?_, ((Below.refl _ _).alloc (Nat.le_refl _) _).alloc (by simp) _⟩
    unfold pairR
    simp_all

theorem anyOrder_any (a b : Int × List UInt8 × List UInt8) (w : World) :
    Calls Tryz.prog 139 #[terV a, terV b] w fun e w' => e = .returned (.bool (anyR a b)) ∧ Below w.heap.size w w' := by
  go_enter Tryz.func139, Tryz.ntmps139
  go_wp2
  go_ret
  exact ⟨rfl, ((Below.refl _ _).alloc (Nat.le_refl _) _).alloc (by simp) _⟩

/-- The cells of a list of labels, of terms. -/
def cellsL (l : List (List UInt8 × List UInt8)) : List Value := l.flatMap fun x => [strV x.1, strV x.2]
def cellsT (l : List (Int × List UInt8 × List UInt8)) : List Value := l.flatMap fun x => [.int .i64 x.1, strV x.2.1, strV x.2.2]
theorem cellsL_len : ∀ l, (cellsL l).length = l.length * 2
  | [] => rfl
  | x :: t => by
    have := cellsL_len t
    simp only [cellsL, List.flatMap_cons, List.length_append, List.length_cons, List.length_nil] at this ⊢
    omega
theorem cellsT_len : ∀ l, (cellsT l).length = l.length * 3
  | [] => rfl
  | x :: t => by
    have := cellsT_len t
    simp only [cellsT, List.flatMap_cons, List.length_append, List.length_cons, List.length_nil] at this ⊢
    omega
theorem cellsL_snoc (l : List (List UInt8 × List UInt8)) (x : List UInt8 × List UInt8) : cellsL (l ++ [x]) = cellsL l ++ [strV x.1, strV x.2] := by simp [cellsL]
theorem cellsT_snoc (l : List (Int × List UInt8 × List UInt8)) (x : Int × List UInt8 × List UInt8) : cellsT (l ++ [x]) = cellsT l ++ [.int .i64 x.1, strV x.2.1, strV x.2.2] := by simp [cellsT]
theorem cellsL_at : ∀ (l : List (List UInt8 × List UInt8)) (k : Nat) (x : List UInt8 × List UInt8), l[k]? = some x → (cellsL l)[k * 2]? = some (strV x.1) ∧ (cellsL l)[k * 2 + 1]? = some (strV x.2)
  | [], k, x, h => by simp at h
  | y :: t, 0, x, h => by
    simp at h
    subst h
    exact ⟨rfl, rfl⟩
  | y :: t, k + 1, x, h => by
    have := cellsL_at t k x (by simpa using h)
    have e : cellsL (y :: t) = strV y.1 :: strV y.2 :: cellsL t := rfl
    rw [e, show (k + 1) * 2 = k * 2 + 1 + 1 by omega]
    simpa using this
theorem cellsT_at : ∀ (l : List (Int × List UInt8 × List UInt8)) (k : Nat) (x : Int × List UInt8 × List UInt8), l[k]? = some x → (cellsT l)[k * 3]? = some (.int .i64 x.1) ∧ (cellsT l)[k * 3 + 1]? = some (strV x.2.1) ∧ (cellsT l)[k * 3 + 2]? = some (strV x.2.2)
  | [], k, x, h => by simp at h
  | y :: t, 0, x, h => by
    simp at h
    subst h
    exact ⟨rfl, rfl, rfl⟩
  | y :: t, k + 1, x, h => by
    have := cellsT_at t k x (by simpa using h)
    have e : cellsT (y :: t) = .int .i64 y.1 :: strV y.2.1 :: strV y.2.2 :: cellsT t := rfl
    rw [e, show (k + 1) * 3 = k * 3 + 1 + 1 + 1 by omega]
    simpa using this

/-- A slice at A holds these cells. -/
def SlAt (w : World) (A : Option Addr) (xs : List Value) : Prop := ∀ j y, xs[j]? = some y → ∃ b o, A = some ⟨b, o, none⟩ ∧ w.cell? ⟨b, o + j, none⟩ = some y

/-- What a list that the call owns holds. -/
theorem own_cells {w : World} {base : Nat} {e : TypeId} {size : Nat} {v : Value} {n : Nat} {xs : List Value} (h : w.ownsRow base e size v n xs) (hn : 0 < n) :
    ∃ g cap, v = .slice (some ⟨g, 0, none⟩) n cap ∧ base ≤ g ∧ g < w.heap.size ∧ n ≤ cap ∧ cap ≤ maxLen ∧ ∀ j y, xs[j]? = some y → w.cell? ⟨g, j, none⟩ = some y := by
  rcases h.2 with ⟨rfl, h0⟩ | ⟨g, cap, cur, rfl, hb, hg, h1, h2, h3, h4⟩
  · omega
  · refine ⟨g, cap, rfl, hb, (Array.getElem?_eq_some_iff.1 hg).1, h1, h2, fun j y hj => ?_⟩
    rw [cell_of_row w g j _ _ _ hg]
    rw [← h4] at hj
    rw [List.getElem?_take] at hj
    split at hj
    · rwa [Array.getElem?_toList] at hj
    · cases hj
theorem own_slice {w : World} {base : Nat} {e : TypeId} {size : Nat} {v : Value} {n : Nat} {xs : List Value} (h : w.ownsRow base e size v n xs) : ∃ A c, v = .slice A n c ∧ n ≤ maxLen := by
  rcases h.2 with ⟨rfl, h0⟩ | ⟨g, cap, cur, rfl, hb, hg, h1, h2, h3, h4⟩
  · exact ⟨none, 0, by rw [h0], by rw [h0]; exact Nat.zero_le _⟩
  · exact ⟨_, _, rfl, Nat.le_trans h1 h2⟩
theorem own_ge' {w : World} {base : Nat} {e : TypeId} {size : Nat} {v : Value} {n : Nat} {xs : List Value} (h : w.ownsRow base e size v n xs) {j : Nat} (hj : v.ownBlock = some j) : base ≤ j := (h.lt j hj).1
theorem own_below {w w' : World} {base : Nat} {e : TypeId} {size : Nat} {v : Value} {n : Nat} {xs : List Value} (h : w.ownsRow base e size v n xs) (hb : Below w.heap.size w w') : w'.ownsRow base e size v n xs := by
  obtain ⟨h1, h2⟩ := h
  refine ⟨h1, ?_⟩
  rcases h2 with h2 | ⟨g, cap, cur, hv, hg, hc, h3⟩
  · exact .inl h2
  · exact .inr ⟨g, cap, cur, hv, hg, by rw [hb.block g (Array.getElem?_eq_some_iff.1 hc).1, hc], h3⟩
/-- Another block's store leaves an owned list as it is. -/
theorem own_not {w : World} {base : Nat} {e t : TypeId} {size : Nat} {v : Value} {n : Nat} {xs : List Value} (h : w.ownsRow base e size v n xs) {b : Nat} {cs : Array Value} (hb : Blk w b cs t) (hne : t ≠ e) : v.ownBlock ≠ some b := by
  rcases h.2 with ⟨rfl, _⟩ | ⟨g, cap, cur, rfl, _, hg, _⟩
  · simp [Value.ownBlock]
  · intro hq
    simp only [Value.ownBlock, Option.some.injEq] at hq
    subst hq
    unfold Blk at hb
    rw [hg] at hb
    simp only [Option.some.injEq, Obj.cells.injEq] at hb
    exact hne hb.2.1.symm

theorem own_drewN {w : World} {base : Nat} {e : TypeId} {size : Nat} {v : Value} {n : Nat} {xs : List Value} (h : w.ownsRow base e size v n xs) (k : Nat) : (w.drewN k).ownsRow base e size v n xs := h
theorem own_of {w w' : World} {base : Nat} {e : TypeId} {size : Nat} {v : Value} {n : Nat} {xs : List Value} (h : w.ownsRow base e size v n xs) (hb : Below w.heap.size w.drew w') : w'.ownsRow base e size v n xs := own_below (w := w.drew) h hb
theorem below_of {a w w' : World} (h : Below a.heap.size a w) (hb : Below w.heap.size w.drew w') : Below a.heap.size a w' := (h.drew).trans (Below.mono hb h.size)
theorem blk_of {w w' : World} {b : Nat} {cs : Array Value} {t : TypeId} (h : Blk w b cs t) (hb : Below w.heap.size w.drew w') : Blk w' b cs t := Blk.below (w := w.drew) h hb h.lt

/-- Part by part: all that is read; where it is wrong, and how. -/
def readF {α : Type} (step : List UInt8 → Nat → α × Bool × Nat) (rises : α → α → Bool) (l : List UInt8) : Nat → List α → Nat → List α × Nat × Int
  | 0, _, _ => ([], 0, 0)
  | f + 1, acc, a =>
    if (step l a).2.1 = false then ([], (step l a).2.2, if (step l a).2.2 = l.length then 3 else 4) else
    if (step l a).2.2 ≠ l.length ∧ signL l (step l a).2.2 44 = false then ([], (step l a).2.2, 4) else
    if acc.length = 6 then ([], a, 5) else
    if (acc.getLast?.map (fun y => rises y (step l a).1)).getD true = false then ([], a, 4) else
    if (step l a).2.2 = l.length then (acc ++ [(step l a).1], 0, 0) else readF step rises l f (acc ++ [(step l a).1]) ((step l a).2.2 + 1)
def readA {α : Type} (step : List UInt8 → Nat → α × Bool × Nat) (rises : α → α → Bool) (l : List UInt8) : List α × Nat × Int := if l = [] then ([], 0, 0) else readF step rises l 7 [] 0

end Go.Proofs.YtfnigiiocapceaaGreat.La
