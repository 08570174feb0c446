/- What a label, and a term, reads, and what it answers: as plain functions. Condition: the reader lies in memory. -/
import Derived.Test.YtfnigiiocapceaaGreatLRead
namespace Go.Proofs.YtfnigiiocapceaaGreat.La
open Go.RowKit

/-- A row and a word are handed back. -/
theorem results_row2 {P : Program} {fn : Func} {p s : Tmp} {ty : TypeId} (h : fn.results = #[.cell p ty, .tmp s]) (tmps : Array Value) (w : World) (g : Nat) (t : TypeId) (cs : Array Value) (fr : Nat × Nat) (d : TypeDesc) (v : Value)
    (hp : tmps.getD p undef = .pointer (some ⟨g, 0, none⟩)) (hs : tmps.getD s undef = v) (hg : w.heap[g]? = some (.cells cs t fr))
    (hu : P.underlying ty = some d) (hd : (match d with | .struct _ | .array _ _ => true | _ => false) = true) (hi : (P.info? ty).map (·.size) = some cs.size) :
    (results fn tmps).run P w = .ok (.tuple #[.agg cs, v]) w := by
  have hp' : tmps[p]?.getD undef = .pointer (some ⟨g, 0, none⟩) := by simpa using hp
  have hs' : tmps[s]?.getD undef = v := by simpa using hs
  simp [results, h, hp', hs', asAddr, run_loadVar_row w g t ty cs fr d hg hu hd hi]
theorem bodyPost_row2 {P : Program} {fn : Func} {p s : Tmp} {ty : TypeId} {R : Ending → World → Prop} {a : Act} {w : World} (h : fn.results = #[.cell p ty, .tmp s]) (g : Nat) (t : TypeId) (cs : Array Value) (fr : Nat × Nat) (d : TypeDesc) (v : Value)
    (hd0 : a.defers = []) (hp : a.tmps.getD p undef = .pointer (some ⟨g, 0, none⟩)) (hs : a.tmps.getD s undef = v) (hg : w.heap[g]? = some (.cells cs t fr))
    (hu : P.underlying ty = some d) (hd : (match d with | .struct _ | .array _ _ => true | _ => false) = true) (hi : (P.info? ty).map (·.size) = some cs.size)
    (hR : R (.returned (.tuple #[.agg cs, v])) w) : bodyPost P fn R .ret a w :=
  bodyPost_ret (results_row2 h a.tmps w g t cs fr d v hp hs hg hu hd hi) hd0 hR

theorem label_size : (Tryz.prog.info? 91).map (·.size) = some 2 := by kernel_rfl
theorem term_size : (Tryz.prog.info? 158).map (·.size) = some 3 := by kernel_rfl

/-- A label's value. -/
abbrev labV (x : List UInt8 × List UInt8) : Value := .agg #[strV x.1, strV x.2]
/-- A term's value: its kind, its key, its value. -/
abbrev terV (x : Int × List UInt8 × List UInt8) : Value := .agg #[.int .i64 x.1, strV x.2.1, strV x.2.2]

/-- What a label reads: it, whether it is one, where it ends. -/
def labF (vf : List UInt8 → Nat → List UInt8 × Bool × Nat) (l : List UInt8) (a : Nat) : (List UInt8 × List UInt8) × Bool × Nat :=
  let n := wordL okName l a
  if n = 0 then (([], []), false, a) else if signL l (a + n) 61 = false then (([], []), false, a + n) else
  (((l.drop a).take n, (vf l (a + n + 1)).1), (vf l (a + n + 1)).2)

theorem sign_lt {l : List UInt8} {a : Nat} {c : UInt8} (h : signL l a c = true) : a + 1 ≤ l.length := by
  unfold signL at h
  have := of_decide_eq_true h
  have := (List.getElem?_eq_some_iff.1 this).1
  omega

/-- What stands behind a term's key: its kind, whether it may be, where it ends. -/
def relF (l : List UInt8) (a : Nat) : Int × Bool × Nat :=
  if signL l a 61 = true then (1, true, a + 1) else if signL l a 33 = true then (if signL l (a + 1) 61 = true then (2, true, a + 2) else (2, false, a + 1)) else (3, true, a)

theorem relF_cases (l : List UInt8) (a : Nat) (ha : a ≤ l.length) : relF l a = (3, true, a) ∨ (∃ b, relF l a = (2, false, b) ∧ b ≤ l.length) ∨ (∃ k b, relF l a = (k, true, b) ∧ (k = 1 ∨ k = 2) ∧ b ≤ l.length) := by
  unfold relF
  by_cases h1 : signL l a 61 = true
  · rw [if_pos h1]
    exact .inr (.inr ⟨1, a + 1, rfl, .inl rfl, sign_lt h1⟩)
  · rw [if_neg h1]
    by_cases h2 : signL l a 33 = true
    · rw [if_pos h2]
      by_cases h3 : signL l (a + 1) 61 = true
      · rw [if_pos h3]
        exact .inr (.inr ⟨2, a + 2, rfl, .inr rfl, sign_lt h3⟩)
      · rw [if_neg h3]
        exact .inr (.inl ⟨a + 1, rfl, sign_lt h2⟩)
    · rw [if_neg h2]
      exact .inl rfl

/-- What a term reads: it, whether it is one, where it ends. -/
def terF (l : List UInt8) (a : Nat) : (Int × List UInt8 × List UInt8) × Bool × Nat :=
  if signL l a 33 = true then ((4, (l.drop (a + 1)).take (wordL okName l (a + 1)), []), decide (0 < wordL okName l (a + 1)), a + 1 + wordL okName l (a + 1)) else
  let n := wordL okName l a
  if n = 0 then ((0, [], []), false, a) else
  match relF l (a + n) with
  | (k, is, b) => if is = true ∧ k ≠ 3 then ((k, (l.drop a).take n, (valF l b).1), (valF l b).2) else ((k, (l.drop a).take n, []), is, b)

end Go.Proofs.YtfnigiiocapceaaGreat.La
