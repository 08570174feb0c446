/- Arguments that are slices of pairs (of a key, a value, a kind, as numbers), opened: what stands in memory. No conditions of its own. -/
import Derived.Test.YteclbkjonaildaaLiftL
import Derived.Test.YteclbkjonaildaaLPrintB
import Derived.Deep.Slices
namespace Go.Proofs.Yteclbkjonaildaa
open Go.ChangeShapes Go.WideShapes Go.ChangeAt Go.RowKit Go.Deep

theorem cellsPair : Try.prog.cellsOf 46 = 3 := by kernel_rfl
theorem cellsIntP : Try.prog.cellsOf 3 = 1 := by kernel_rfl
def cellsP (l : List (Int × Int × Int)) : List Value := l.flatMap fun x => [.int .i64 x.1, .int .i64 x.2.1, .int .i64 x.2.2]

set_option maxRecDepth 100000 in
theorem pair_cells {H : Type} {enc : TypeId × Value → H} {W : World} {base : Nat} {sp : Nat → Bool} {held : Bool} {n : Nat} {cs : List Value} {x : DataW H × List MemPlace}
    (h : DataW.trod enc Try.prog W base sp held n 46 cs = some x) : ∃ y : Int × Int × Int, cs = [.int .i64 y.1, .int .i64 y.2.1, .int .i64 y.2.2] := by
  obtain ⟨xs, m, _, _, hl, hxl, hf⟩ := DataW.trod_struct Try.underlying46 h
  rw [cellsPair] at hl
  match cs, hl, xs, hxl with
  | [c0, c1, c2], _, [y0, y1, y2], _ =>
    have h0 : DataW.trod enc Try.prog W base sp held m 3 ((([c0, c1, c2] : List Value).drop 0).take (Try.prog.cellsOf 3)) = some y0 := hf 0 _ rfl
    have h1 : DataW.trod enc Try.prog W base sp held m 3 ((([c0, c1, c2] : List Value).drop 1).take (Try.prog.cellsOf 3)) = some y1 := hf 1 _ rfl
    have h2 : DataW.trod enc Try.prog W base sp held m 3 ((([c0, c1, c2] : List Value).drop 2).take (Try.prog.cellsOf 3)) = some y2 := hf 2 _ rfl
    obtain ⟨k0, e0, _, _⟩ := DataW.trod_int Try.underlying3 h0
    obtain ⟨k1, e1, _, _⟩ := DataW.trod_int Try.underlying3 h1
    obtain ⟨k2, e2, _, _⟩ := DataW.trod_int Try.underlying3 h2
    simp only [cellsIntP, List.drop_zero, List.drop_succ_cons, List.take_succ_cons, List.take_zero, List.cons.injEq, and_true] at e0 e1 e2
    exact ⟨(k0, k1, k2), by rw [e0, e1, e2]⟩

theorem slat_pair {W : World} : ∀ (l : List (Int × Int × Int)) (b o : Nat), (∀ i x, l[i]? = some x → W.cell? ⟨b, o + i * 3, none⟩ = some (.int .i64 x.1) ∧ W.cell? ⟨b, o + i * 3 + 1, none⟩ = some (.int .i64 x.2.1) ∧ W.cell? ⟨b, o + i * 3 + 2, none⟩ = some (.int .i64 x.2.2)) →
    ∀ j y, (cellsP l)[j]? = some y → W.cell? ⟨b, o + j, none⟩ = some y
  | [], b, o, h, j, y, hj => by simp [cellsP] at hj
  | x :: t, b, o, h, j, y, hj => by
    have e : cellsP (x :: t) = .int .i64 x.1 :: .int .i64 x.2.1 :: .int .i64 x.2.2 :: cellsP t := rfl
    rw [e] at hj
    match j, hj with
    | 0, hj =>
      simp only [List.getElem?_cons_zero, Option.some.injEq] at hj
      subst hj
      exact (h 0 x rfl).1
    | 1, hj =>
      simp only [List.getElem?_cons_succ, List.getElem?_cons_zero, Option.some.injEq] at hj
      subst hj
      exact (h 0 x rfl).2.1
    | 2, hj =>
      simp only [List.getElem?_cons_succ, List.getElem?_cons_zero, Option.some.injEq] at hj
      subst hj
      exact (h 0 x rfl).2.2
    | j + 3, hj =>
      simp only [List.getElem?_cons_succ] at hj
      have := slat_pair t b (o + 3) (fun i x hi => by
        have k := h (i + 1) x (by simpa using hi)
        rw [show o + (i + 1) * 3 = o + 3 + i * 3 by omega] at k
        exact k) j y hj
      rwa [show o + (j + 3) = o + 3 + j by omega]

set_option maxRecDepth 100000 in
theorem open_pairs {H : Type} {enc : TypeId × Value → H} {W : World} {r : Reach} {b0 : Nat} {held : Bool} {v : Value} {d : DataW H} {p : List MemPlace}
    (hv : Value.okWide Try.prog W r b0 38 v) (h : DataW.Trod enc Try.prog W 0 (fun _ => true) held 38 v d p) :
    ∃ (al : Option Addr) (cap : Nat) (l : List (Int × Int × Int)), v = .slice al l.length cap ∧ SlAt W al (cellsP l) ∧ l.length ≤ cap ∧ cap ≤ maxLen := by
  obtain ⟨a0, len, cap, rfl⟩ := okWide_slice Try.underlying38 hv
  obtain ⟨fuel, hf⟩ := h
  rcases open_slice Try.underlying38 hf with ⟨hcs, _⟩ | ⟨a, len', cap', m, n, D, Pl, hcs, _, hl, hm, hmm, _, hx⟩
  · simp [Value.cells] at hcs
    obtain ⟨rfl, rfl, rfl⟩ := hcs
    exact ⟨none, 0, [], rfl, SlAt.nil _ _, by simp, by simp⟩
  · simp [Value.cells] at hcs
    obtain ⟨rfl, rfl, rfl⟩ := hcs
    simp only [if_true] at hmm
    subst hmm
    rw [cellsPair] at hx
    obtain ⟨L, hL⟩ := choose_lt (α := Int × Int × Int) (p := fun i x => W.cell? (a.add (i * 3)) = some (.int .i64 x.1) ∧ W.cell? ((a.add (i * 3)).add 1) = some (.int .i64 x.2.1) ∧ W.cell? ((a.add (i * 3)).add 2) = some (.int .i64 x.2.2)) (n := len) (fun i hi => by
      obtain ⟨cs', h1, h2⟩ := hx i (by omega)
      obtain ⟨x, e⟩ := pair_cells h2
      subst e
      obtain ⟨_, _, hc⟩ := World.cells?_some h1
      have c0 := hc 0 (by decide)
      have c1 := hc 1 (by decide)
      have c2 := hc 2 (by decide)
      refine ⟨x, ?_, ?_, ?_⟩
      · simpa [Addr.add] using c0
      · exact c1
      · exact c2)
    refine ⟨some a, m, (List.range len).map L, by simp, ?_, by simpa using hl, hm⟩
    · rcases Nat.eq_zero_or_pos len with h0 | hpos
      · subst h0
        exact SlAt.nil _ _
      · obtain ⟨b, off, spot⟩ := a
        have hspot : spot = none := by simpa [Addr.add] using World.cell?_spot (hL 0 hpos).1
        subst hspot
        intro j y hj
        refine ⟨b, off, rfl, slat_pair ((List.range len).map L) b off (fun i x hi => ?_) j y hj⟩
        have hil : i < len := by
          have h := (List.getElem?_eq_some_iff.1 hi).1
          simpa using h
        rw [List.getElem?_map, List.getElem?_range hil] at hi
        simp only [Option.map_some, Option.some.injEq] at hi
        subst hi
        obtain ⟨k0, k1, k2⟩ := hL i hil
        rw [add_plain] at k0
        rw [add_plain, add_plain] at k1 k2
        exact ⟨k0, k1, k2⟩

end Go.Proofs.Yteclbkjonaildaa
