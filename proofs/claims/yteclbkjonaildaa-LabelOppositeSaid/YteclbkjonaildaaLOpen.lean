/- Arguments that are slices of labels, of terms, opened: what stands in memory. No conditions of its own. -/
import Derived.Test.YteclbkjonaildaaLiftL
import Derived.Test.YteclbkjonaildaaLPrintB
import Derived.Deep.Slices
namespace Go.Proofs.Yteclbkjonaildaa
open Go.ChangeShapes Go.WideShapes Go.ChangeAt Go.RowKit Go.Deep

theorem cellsLab : Try.prog.cellsOf 41 = 2 := by kernel_rfl
theorem cellsTer : Try.prog.cellsOf 43 = 3 := by kernel_rfl
theorem cellsStr : Try.prog.cellsOf 9 = 1 := by kernel_rfl
theorem cellsInt : Try.prog.cellsOf 3 = 1 := by kernel_rfl

theorem str_list (s : ByteArray) : Value.string s = strV s.data.toList := rfl

set_option maxRecDepth 100000 in
theorem lab_cells {H : Type} {enc : TypeId × Value → H} {W : World} {base : Nat} {sp : Nat → Bool} {held : Bool} {n : Nat} {cs : List Value} {x : DataW H × List MemPlace}
    (h : DataW.trod enc Try.prog W base sp held n 41 cs = some x) : ∃ y : List UInt8 × List UInt8, cs = [strV y.1, strV y.2] ∧ y.1.length ≤ maxLen ∧ y.2.length ≤ maxLen := by
  obtain ⟨y0, y1, m, _, hl, h0, h1⟩ := trod_struct2 Try.underlying41 h
  rw [cellsLab] at hl
  match cs, hl with
  | [c0, c1], _ =>
    obtain ⟨s0, e0, _, m0⟩ := DataW.trod_string Try.underlying9 h0
    obtain ⟨s1, e1, _, m1⟩ := DataW.trod_string Try.underlying9 h1
    simp only [cellsStr, List.drop_zero, List.drop_succ_cons, List.take_succ_cons, List.take_zero, List.cons.injEq, and_true] at e0 e1
    exact ⟨(s0.data.toList, s1.data.toList), by rw [e0, e1], m0, m1⟩
set_option maxRecDepth 100000 in
theorem ter_cells {H : Type} {enc : TypeId × Value → H} {W : World} {base : Nat} {sp : Nat → Bool} {held : Bool} {n : Nat} {cs : List Value} {x : DataW H × List MemPlace}
    (h : DataW.trod enc Try.prog W base sp held n 43 cs = some x) : ∃ y : Int × List UInt8 × List UInt8, cs = [.int .i64 y.1, strV y.2.1, strV y.2.2] ∧ y.2.1.length ≤ maxLen ∧ y.2.2.length ≤ maxLen := by
  obtain ⟨xs, m, _, _, hl, hxl, hf⟩ := DataW.trod_struct Try.underlying43 h
  rw [cellsTer] at hl
  match cs, hl, xs, hxl with
  | [c0, c1, c2], _, [y0, y1, y2], _ =>
    have h0 : DataW.trod enc Try.prog W base sp held m 3 ((([c0, c1, c2] : List Value).drop 0).take (Try.prog.cellsOf 3)) = some y0 := hf 0 _ rfl
    have h1 : DataW.trod enc Try.prog W base sp held m 9 ((([c0, c1, c2] : List Value).drop 1).take (Try.prog.cellsOf 9)) = some y1 := hf 1 _ rfl
    have h2 : DataW.trod enc Try.prog W base sp held m 9 ((([c0, c1, c2] : List Value).drop 2).take (Try.prog.cellsOf 9)) = some y2 := hf 2 _ rfl
    obtain ⟨k, e0, _, _⟩ := DataW.trod_int Try.underlying3 h0
    obtain ⟨s1, e1, _, m1⟩ := DataW.trod_string Try.underlying9 h1
    obtain ⟨s2, e2, _, m2⟩ := DataW.trod_string Try.underlying9 h2
    simp only [cellsStr, cellsInt, List.drop_zero, List.drop_succ_cons, List.take_succ_cons, List.take_zero, List.cons.injEq, and_true] at e0 e1 e2
    exact ⟨(k, s1.data.toList, s2.data.toList), by rw [e0, e1, e2], m1, m2⟩

theorem slat_lab {W : World} : ∀ (l : List (List UInt8 × List UInt8)) (b o : Nat), (∀ i x, l[i]? = some x → W.cell? ⟨b, o + i * 2, none⟩ = some (strV x.1) ∧ W.cell? ⟨b, o + i * 2 + 1, none⟩ = some (strV x.2)) →
    ∀ j y, (cellsL l)[j]? = some y → W.cell? ⟨b, o + j, none⟩ = some y
  | [], b, o, h, j, y, hj => by simp [cellsL] at hj
  | x :: t, b, o, h, j, y, hj => by
    have e : cellsL (x :: t) = strV x.1 :: strV x.2 :: cellsL t := rfl
    rw [e] at hj
    match j, hj with
    | 0, hj =>
      simp only [List.getElem?_cons_zero, Option.some.injEq] at hj
      subst hj
      exact (h 0 x rfl).1
    | 1, hj =>
      simp only [List.getElem?_cons_succ, List.getElem?_cons_zero, Option.some.injEq] at hj
      subst hj
      exact (h 0 x rfl).2
    | j + 2, hj =>
      simp only [List.getElem?_cons_succ] at hj
      have := slat_lab t b (o + 2) (fun i x hi => by
        have k := h (i + 1) x (by simpa using hi)
        rw [show o + (i + 1) * 2 = o + 2 + i * 2 by omega] at k
        exact k) j y hj
      rwa [show o + (j + 2) = o + 2 + j by omega]
theorem slat_ter {W : World} : ∀ (l : List (Int × List UInt8 × List UInt8)) (b o : Nat), (∀ i x, l[i]? = some x → W.cell? ⟨b, o + i * 3, none⟩ = some (.int .i64 x.1) ∧ W.cell? ⟨b, o + i * 3 + 1, none⟩ = some (strV x.2.1) ∧ W.cell? ⟨b, o + i * 3 + 2, none⟩ = some (strV x.2.2)) →
    ∀ j y, (cellsT l)[j]? = some y → W.cell? ⟨b, o + j, none⟩ = some y
  | [], b, o, h, j, y, hj => by simp [cellsT] at hj
  | x :: t, b, o, h, j, y, hj => by
    have e : cellsT (x :: t) = .int .i64 x.1 :: strV x.2.1 :: strV x.2.2 :: cellsT t := rfl
    rw [e] at hj
    match j, hj with
    | 0, hj =>
      simp only [List.getElem?_cons_zero, Option.some.injEq] at hj
      subst hj
      exact (h 0 x rfl).1
    | 1, hj =>
      simp only [List.getElem?_cons_succ, List.getElem?_cons_zero, Option.some.injEq] at hj
      subst hj
      exact (h 0 x rfl).2.1
    | 2, hj =>
      simp only [List.getElem?_cons_succ, List.getElem?_cons_zero, Option.some.injEq] at hj
      subst hj
      exact (h 0 x rfl).2.2
    | j + 3, hj =>
      simp only [List.getElem?_cons_succ] at hj
      have := slat_ter t b (o + 3) (fun i x hi => by
        have k := h (i + 1) x (by simpa using hi)
        rw [show o + (i + 1) * 3 = o + 3 + i * 3 by omega] at k
        exact k) j y hj
      rwa [show o + (j + 3) = o + 3 + j by omega]

set_option maxRecDepth 100000 in
theorem open_labs {H : Type} {enc : TypeId × Value → H} {W : World} {r : Reach} {b0 : Nat} {held : Bool} {v : Value} {d : DataW H} {p : List MemPlace}
    (hv : Value.okWide Try.prog W r b0 22 v) (h : DataW.Trod enc Try.prog W 0 (fun _ => true) held 22 v d p) :
    ∃ (al : Option Addr) (cap : Nat) (l : List (List UInt8 × List UInt8)), v = .slice al l.length cap ∧ SlAt W al (cellsL l) ∧ l.length ≤ cap ∧ cap ≤ maxLen ∧ ∀ x ∈ l, x.1.length ≤ maxLen ∧ x.2.length ≤ maxLen := by
  obtain ⟨a0, len, cap, rfl⟩ := okWide_slice Try.underlying22 hv
  obtain ⟨fuel, hf⟩ := h
  rcases open_slice Try.underlying22 hf with ⟨hcs, _⟩ | ⟨a, len', cap', m, n, D, Pl, hcs, _, hl, hm, hmm, _, hx⟩
  · simp [Value.cells] at hcs
    obtain ⟨rfl, rfl, rfl⟩ := hcs
    exact ⟨none, 0, [], rfl, SlAt.nil _ _, by simp, by simp, fun x hx => by simp at hx⟩
  · simp [Value.cells] at hcs
    obtain ⟨rfl, rfl, rfl⟩ := hcs
    simp only [if_true] at hmm
    subst hmm
    rw [cellsLab] at hx
    obtain ⟨L, hL⟩ := choose_lt (α := List UInt8 × List UInt8) (p := fun i x => W.cell? (a.add (i * 2)) = some (strV x.1) ∧ W.cell? ((a.add (i * 2)).add 1) = some (strV x.2) ∧ x.1.length ≤ maxLen ∧ x.2.length ≤ maxLen) (n := len) (fun i hi => by
      obtain ⟨cs', h1, h2⟩ := hx i (by omega)
      obtain ⟨x, e, m1, m2⟩ := lab_cells h2
      subst e
      obtain ⟨_, _, hc⟩ := World.cells?_some h1
      have c0 := hc 0 (by decide)
      have c1 := hc 1 (by decide)
      refine ⟨x, ?_, ?_, m1, m2⟩
      · simpa [Addr.add] using c0
      · exact c1)
    refine ⟨some a, m, (List.range len).map L, by simp, ?_, by simpa using hl, hm, ?_⟩
    · rcases Nat.eq_zero_or_pos len with h0 | hpos
      · subst h0
        exact SlAt.nil _ _
      · obtain ⟨b, off, spot⟩ := a
        have hspot : spot = none := by simpa [Addr.add] using World.cell?_spot (hL 0 hpos).1
        subst hspot
        intro j y hj
        refine ⟨b, off, rfl, slat_lab ((List.range len).map L) b off (fun i x hi => ?_) j y hj⟩
        have hil : i < len := by
          have h := (List.getElem?_eq_some_iff.1 hi).1
          simpa using h
        rw [List.getElem?_map, List.getElem?_range hil] at hi
        simp only [Option.map_some, Option.some.injEq] at hi
        subst hi
        obtain ⟨k0, k1, _, _⟩ := hL i hil
        rw [add_plain] at k0
        rw [add_plain, add_plain] at k1
        exact ⟨k0, k1⟩
    · intro x hx
      obtain ⟨i, hi, rfl⟩ := List.mem_map.1 hx
      have := hL i (List.mem_range.1 hi)
      exact ⟨this.2.2.1, this.2.2.2⟩

set_option maxRecDepth 100000 in
theorem open_ters {H : Type} {enc : TypeId × Value → H} {W : World} {r : Reach} {b0 : Nat} {held : Bool} {v : Value} {d : DataW H} {p : List MemPlace}
    (hv : Value.okWide Try.prog W r b0 26 v) (h : DataW.Trod enc Try.prog W 0 (fun _ => true) held 26 v d p) :
    ∃ (al : Option Addr) (cap : Nat) (l : List (Int × List UInt8 × List UInt8)), v = .slice al l.length cap ∧ SlAt W al (cellsT l) ∧ l.length ≤ cap ∧ cap ≤ maxLen ∧ ∀ x ∈ l, x.2.1.length ≤ maxLen ∧ x.2.2.length ≤ maxLen := by
  obtain ⟨a0, len, cap, rfl⟩ := okWide_slice Try.underlying26 hv
  obtain ⟨fuel, hf⟩ := h
  rcases open_slice Try.underlying26 hf with ⟨hcs, _⟩ | ⟨a, len', cap', m, n, D, Pl, hcs, _, hl, hm, hmm, _, hx⟩
  · simp [Value.cells] at hcs
    obtain ⟨rfl, rfl, rfl⟩ := hcs
    exact ⟨none, 0, [], rfl, SlAt.nil _ _, by simp, by simp, fun x hx => by simp at hx⟩
  · simp [Value.cells] at hcs
    obtain ⟨rfl, rfl, rfl⟩ := hcs
    simp only [if_true] at hmm
    subst hmm
    rw [cellsTer] at hx
    obtain ⟨L, hL⟩ := choose_lt (α := Int × List UInt8 × List UInt8) (p := fun i x => W.cell? (a.add (i * 3)) = some (.int .i64 x.1) ∧ W.cell? ((a.add (i * 3)).add 1) = some (strV x.2.1) ∧ W.cell? ((a.add (i * 3)).add 2) = some (strV x.2.2) ∧ x.2.1.length ≤ maxLen ∧ x.2.2.length ≤ maxLen) (n := len) (fun i hi => by
      obtain ⟨cs', h1, h2⟩ := hx i (by omega)
      obtain ⟨x, e, m1, m2⟩ := ter_cells h2
      subst e
      obtain ⟨_, _, hc⟩ := World.cells?_some h1
      have c0 := hc 0 (by decide)
      have c1 := hc 1 (by decide)
      have c2 := hc 2 (by decide)
      refine ⟨x, ?_, ?_, ?_, m1, m2⟩
      · simpa [Addr.add] using c0
      · exact c1
      · exact c2)
    refine ⟨some a, m, (List.range len).map L, by simp, ?_, by simpa using hl, hm, ?_⟩
    · rcases Nat.eq_zero_or_pos len with h0 | hpos
      · subst h0
        exact SlAt.nil _ _
      · obtain ⟨b, off, spot⟩ := a
        have hspot : spot = none := by simpa [Addr.add] using World.cell?_spot (hL 0 hpos).1
        subst hspot
        intro j y hj
        refine ⟨b, off, rfl, slat_ter ((List.range len).map L) b off (fun i x hi => ?_) j y hj⟩
        have hil : i < len := by
          have h := (List.getElem?_eq_some_iff.1 hi).1
          simpa using h
        rw [List.getElem?_map, List.getElem?_range hil] at hi
        simp only [Option.map_some, Option.some.injEq] at hi
        subst hi
        obtain ⟨k0, k1, k2, _, _⟩ := hL i hil
        rw [add_plain] at k0
        rw [add_plain, add_plain] at k1 k2
        exact ⟨k0, k1, k2⟩
    · intro x hx
      obtain ⟨i, hi, rfl⟩ := List.mem_map.1 hx
      have := hL i (List.mem_range.1 hi)
      exact ⟨this.2.2.2.1, this.2.2.2.2⟩

theorem SlAt.takeL {w : World} {A : Option Addr} {l : List (List UInt8 × List UInt8)} (h : SlAt w A (cellsL l)) (m : Nat) : SlAt w A (cellsL (l.take m)) := by
  intro j y hj
  have e : cellsL l = cellsL (l.take m) ++ cellsL (l.drop m) := by
    unfold cellsL
    rw [← List.flatMap_append, List.take_append_drop]
  have hlt := (List.getElem?_eq_some_iff.1 hj).1
  exact h j y (by rw [e, List.getElem?_append_left hlt]; exact hj)
theorem SlAt.takeT {w : World} {A : Option Addr} {l : List (Int × List UInt8 × List UInt8)} (h : SlAt w A (cellsT l)) (m : Nat) : SlAt w A (cellsT (l.take m)) := by
  intro j y hj
  have e : cellsT l = cellsT (l.take m) ++ cellsT (l.drop m) := by
    unfold cellsT
    rw [← List.flatMap_append, List.take_append_drop]
  have hlt := (List.getElem?_eq_some_iff.1 hj).1
  exact h j y (by rw [e, List.getElem?_append_left hlt]; exact hj)

end Go.Proofs.Yteclbkjonaildaa
