/- The scanner's reader in memory: its state, what stays; what begin, add and end do. Conditions: the reader lies in memory, and is not too long. -/
import Derived.Test.YthbplchbolghjaaGreatDoorLBase
import Derived.Test.YthbplchbolghjaaGreatDoorShelf
import Derived.Laws.IdiomStrings
import Derived.Laws.BytesArg
import Derived.Deep.DeepCutAuto
namespace Go.Proofs.YthbplchbolghjaaGreatDoor.Sc
open Go.RowKit

inductive Mode where
  | btw | nam | num | str | esc | com
def fid : Mode → Nat
  | .btw => 60
  | .nam => 95
  | .num => 97
  | .str => 90
  | .esc => 122
  | .com => 88
/-- The reader. -/
structure RS where
  mode : Mode
  line : Nat
  col : Nat
  words : List (Int × List UInt8 × Nat × Nat)
  kind : Int
  wt : List UInt8
  wl : Nat
  wc : Nat
  text : List UInt8

def cellsW (l : List (Int × List UInt8 × Nat × Nat)) : List Value := l.flatMap fun x => [.int .i64 x.1, strV x.2.1, .int .i64 (x.2.2.1 : Int), .int .i64 (x.2.2.2 : Int)]
theorem cellsW_len : ∀ l, (cellsW l).length = l.length * 4
  | [] => rfl
  | x :: t => by
    have := cellsW_len t
    simp only [cellsW, List.flatMap_cons, List.length_append, List.length_cons, List.length_nil] at this ⊢
    omega
theorem cellsW_snoc (l : List (Int × List UInt8 × Nat × Nat)) (x : Int × List UInt8 × Nat × Nat) : cellsW (l ++ [x]) = cellsW l ++ [.int .i64 x.1, strV x.2.1, .int .i64 (x.2.2.1 : Int), .int .i64 (x.2.2.2 : Int)] := by simp [cellsW]

def cellsR (g : Nat) (s : RS) (vw vt : Value) : Array Value := #[.func (Fn.func g) #[] #[], .int .i64 (s.line : Int), .int .i64 (s.col : Int), vw, .int .i64 s.kind, strV s.wt, .int .i64 (s.wl : Int), .int .i64 (s.wc : Int), vt]

/-- The reader lies in memory; its words and its text are the call's own. -/
def RdR (w : World) (B b : Nat) (s : RS) : Prop :=
  ∃ vw vt, Blk w b (cellsR (fid s.mode) s vw vt) 100 ∧ w.ownsRow B 83 4 vw s.words.length (cellsW s.words) ∧ w.ownsRow B 5 1 vt s.text.length (Lib.byteCells s.text) ∧ B ≤ b

/-- What was there below stays, and so does whoever goes through a string. -/
def KeepI (B : Nat) (w w' : World) : Prop := Below B w w' ∧ ∀ (i : Nat) (s : ByteArray) (p : Nat), w.heap[i]? = some (Obj.stringIter s p) → w'.heap[i]? = some (Obj.stringIter s p)
theorem KeepI.refl (B : Nat) (w : World) : KeepI B w w := ⟨Below.refl _ _, fun _ _ _ h => h⟩
theorem KeepI.trans {B : Nat} {a b c : World} (h : KeepI B a b) (k : KeepI B b c) : KeepI B a c := ⟨h.1.trans k.1, fun i s p e => k.2 i s p (h.2 i s p e)⟩
theorem KeepI.drewN {B : Nat} {a w : World} (h : KeepI B a w) (n : Nat) : KeepI B a (w.drewN n) := ⟨belowN h.1 n, h.2⟩
theorem lt_iter {w : World} {i : Nat} {o : Obj} (h : w.heap[i]? = some o) : i < w.heap.size := (Array.getElem?_eq_some_iff.1 h).1
theorem KeepI.alloc {B : Nat} {a w : World} (h : KeepI B a w) (hB : B ≤ w.heap.size) (o : Obj) : KeepI B a (w.alloc o) :=
  ⟨h.1.alloc hB o, fun i s p e => by
    have e2 := h.2 i s p e
    rw [Below.heap_alloc w o i (lt_iter e2)]
    exact e2⟩
theorem KeepI.set {B b : Nat} {a w : World} {cs : Array Value} {t : TypeId} (h : KeepI B a w) (hb : Blk w b cs t) (hB : B ≤ b) (i : Nat) (v : Value) : KeepI B a (w.setCell ⟨b, i, none⟩ v) :=
  ⟨h.1.setCell hB v, fun j s p e => by
    have e2 := h.2 j s p e
    rw [Below.heap_setCell w ⟨b, i, none⟩ v j (fun e3 => by
      simp only at e3
      subst e3
      unfold Blk at hb
      rw [hb] at e2
      cases e2)]
    exact e2⟩
theorem KeepI.grown {B : Nat} {a w w' : World} {e : TypeId} {size n : Nat} {v : Value} {xs : List Value} (h : KeepI B a w) (ho : w.ownsRow B e size v n xs) (hB : B ≤ w.heap.size) (hg : w.grownBy w' v.ownBlock) : KeepI B a w' :=
  ⟨h.1.grown hg hB (fun k hk => (ho.lt k hk).1), fun j s p e => by
    have e2 := h.2 j s p e
    rw [hg.block j (lt_iter e2) (fun e3 => by
      rcases ho.2 with ⟨rfl, _⟩ | ⟨g, cap, cur, rfl, _, hg2, _⟩
      · simp [Value.ownBlock] at e3
      · simp only [Value.ownBlock, Option.some.injEq] at e3
        subst e3
        rw [e2] at hg2
        cases hg2)]
    exact e2⟩

theorem own_notS {w : World} {base : Nat} {e t : TypeId} {size : Nat} {v : Value} {n : Nat} {xs : List Value} (h : w.ownsRow base e size v n xs) {b : Nat} {cs : Array Value} (hb : Blk w b cs t) (hne : t ≠ e) : v.ownBlock ≠ some b := by
  rcases h.2 with ⟨rfl, _⟩ | ⟨g, cap, cur, rfl, _, hg, _⟩
  · simp [Value.ownBlock]
  · intro hq
    simp only [Value.ownBlock, Option.some.injEq] at hq
    subst hq
    unfold Blk at hb
    rw [hg] at hb
    simp only [Option.some.injEq, Obj.cells.injEq] at hb
    exact hne hb.2.1.symm
theorem own_two {w : World} {base : Nat} {e t : TypeId} {size size2 : Nat} {v u : Value} {n m : Nat} {xs ys : List Value} (h : w.ownsRow base e size v n xs) (k : w.ownsRow base t size2 u m ys) (hne : t ≠ e) : v.ownBlock = none ∨ v.ownBlock ≠ u.ownBlock := by
  rcases h.2 with ⟨rfl, _⟩ | ⟨g, cap, cur, rfl, _, hg, _⟩
  · exact .inl rfl
  · refine .inr ?_
    rcases k.2 with ⟨rfl, _⟩ | ⟨g2, cap2, cur2, rfl, _, hg2, _⟩
    · simp [Value.ownBlock]
    · simp only [Value.ownBlock, ne_eq, Option.some.injEq]
      intro hq
      subst hq
      rw [hg] at hg2
      simp only [Option.some.injEq, Obj.cells.injEq] at hg2
      exact hne hg2.2.1.symm
theorem own_set {w : World} {base : Nat} {e t : TypeId} {size : Nat} {v : Value} {n : Nat} {xs : List Value} (h : w.ownsRow base e size v n xs) {b : Nat} {cs : Array Value} (hb : Blk w b cs t) (hne : t ≠ e) (i : Nat) (x : Value) : (w.setCell ⟨b, i, none⟩ x).ownsRow base e size v n xs := by
  obtain ⟨h1, h2⟩ := h
  refine ⟨h1, ?_⟩
  rcases h2 with h2 | ⟨g, cap, cur, hv, hg, hc, h3⟩
  · exact .inl h2
  · refine .inr ⟨g, cap, cur, hv, hg, ?_, h3⟩
    rw [Below.heap_setCell w ⟨b, i, none⟩ x g (fun e3 => by
      simp only at e3
      subst e3
      unfold Blk at hb
      rw [hb] at hc
      simp only [Option.some.injEq, Obj.cells.injEq] at hc
      exact hne hc.2.1)]
    exact hc
/-- A row that is cut to nothing is still the call's own. -/
theorem own_cut {w : World} {base : Nat} {e : TypeId} {size : Nat} {v : Value} {n : Nat} {xs : List Value} (h : w.ownsRow base e size v n xs) : ∃ A c, v = .slice A n c ∧ n ≤ c ∧ c ≤ maxLen ∧ (A = none → n = 0 ∧ c = 0) ∧ (∀ a, A = some a → ∃ g, a = ⟨g, 0, none⟩) ∧ w.ownsRow base e size (.slice A 0 c) 0 [] := by
  rcases h.2 with ⟨rfl, h0⟩ | ⟨g, cap, cur, rfl, hb, hg, h1, h2, h3, h4⟩
  · exact ⟨none, 0, by rw [h0], by omega, Nat.zero_le _, fun _ => ⟨h0, rfl⟩, fun a ha => (by cases ha), World.ownsRow_nil _ _ _ _⟩
  · exact ⟨_, _, rfl, h1, h2, fun h => (by cases h), fun a ha => (by cases ha; exact ⟨g, rfl⟩), (by simp), .inr ⟨g, cap, cur, rfl, hb, hg, Nat.zero_le _, h2, h3, by simp⟩⟩

theorem byte_of {w : World} {base : Nat} {e : TypeId} {v : Value} {n : Nat} {l : List UInt8} (h : w.ownsRow base e 1 v n (Lib.byteCells l)) : n = l.length := by
  have := h.1
  rw [Lib.byteCells_length] at this
  omega
/-- The text of a row of bytes. -/
theorem run_text {w : World} {base : Nat} {v : Value} {l : List UInt8} (h : w.ownsRow base 5 1 v l.length (Lib.byteCells l)) : (convert 51 9 v).run Tryz.prog w = .ok (strV l) w := by
  rcases h.2 with ⟨rfl, h0⟩ | ⟨g, cap, cur, rfl, hb, hg, h1, h2, h3, h4⟩
  · obtain rfl : l = [] := List.length_eq_zero_iff.1 h0
    exact run_convert_bytes_nil w 51 5 Tryz.underlying51 Tryz.underlying5 0 0 _ Tryz.underlying9
  · refine run_convert_bytes_back (P := Tryz.prog) w 51 9 5 ⟨g, 0, none⟩ cap l Tryz.underlying51 Tryz.underlying5 Tryz.underlying9 (fun j hj => ?_)
    have hc : (Lib.byteCells l)[j]? = some (.int .u8 (l[j].toNat : Int)) := by
      rw [show Lib.byteCells l = l.map (fun b => Value.int .u8 (b.toNat : Int)) from rfl, List.getElem?_map, List.getElem?_eq_getElem hj]
      rfl
    have e : (⟨g, 0, none⟩ : Addr).add j = ⟨g, j, none⟩ := by unfold Addr.add; split <;> simp_all
    rw [e, cell_of_row w g j _ _ _ hg]
    rw [← h4, List.getElem?_take] at hc
    split at hc
    · rwa [Array.getElem?_toList] at hc
    · cases hc

theorem none_ret {fn : Func} (h : fn.results = #[]) {R : Ending → World → Prop} {a : Act} {w : World} (hd : a.defers = []) (hR : R (.returned (.tuple #[])) w) : bodyPost Tryz.prog fn R .ret a w :=
  bodyPost_ret (results_none h a.tmps _ w) hd hR
end Go.Proofs.YthbplchbolghjaaGreatDoor.Sc
