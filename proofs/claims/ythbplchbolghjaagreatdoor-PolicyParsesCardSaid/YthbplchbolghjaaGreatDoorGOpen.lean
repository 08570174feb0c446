/- An argument that is a policy, opened: what stands in memory. No conditions of its own. -/
import Derived.Test.YthbplchbolghjaaGreatDoorGLift
namespace Go.Proofs.YthbplchbolghjaaGreatDoor
open Go.ChangeShapes Go.WideShapes Go.ChangeAt Go.RowKit Go.Deep

theorem gadd_plain (b o n : Nat) : (⟨b, o, none⟩ : Addr).add n = ⟨b, o + n, none⟩ := by unfold Addr.add; split <;> simp_all
theorem gchoose {α : Type} {p : Nat → α → Prop} {n : Nat} (h : ∀ i, i < n → ∃ x, p i x) : ∃ L : List α, L.length = n ∧ ∀ i x, L[i]? = some x → p i x := by
  induction n with
  | zero => exact ⟨[], rfl, fun i x hx => by simp at hx⟩
  | succ n ih =>
    obtain ⟨L, hl, hp⟩ := ih (fun i hi => h i (by omega))
    obtain ⟨x, hx⟩ := h n (by omega)
    refine ⟨L ++ [x], by simp [hl], fun i y hy => ?_⟩
    by_cases hi : i < n
    · rw [List.getElem?_append_left (by omega)] at hy
      exact hp i y hy
    · have : i = n := by
        have := (List.getElem?_eq_some_iff.1 hy).1
        simp [hl] at this
        omega
      subst this
      rw [List.getElem?_append_right (by omega), hl, Nat.sub_self] at hy
      simp only [List.getElem?_cons_zero, Option.some.injEq] at hy
      subst hy
      exact hx
set_option maxRecDepth 100000 in
theorem names_cells {H : Type} {enc : TypeId × Value → H} {W : World} {held : Bool} {n : Nat} {cs : List Value} {x : DataW H × List MemPlace}
    (h : DataW.trod enc Tryz.prog W 0 (fun _ => true) held n 23 cs = some x) : ∃ (A : Option Addr) (c : Nat) (l : List (List UInt8)), cs = [.slice A l.length c] ∧ NamesAt W A c l ∧ (A = none → l = [] ∧ c = 0) := by
  rcases open_slice1 Tryz.underlying23 gcellsStr h with ⟨hcs, _⟩ | ⟨a, len, cap, m, q, V, D, Pl, hcs, _, hl, hm, hmm, _, hx⟩
  · exact ⟨none, 0, [], hcs, ⟨fun j y hj => by simp [strC] at hj, Nat.le_refl _, by omega, fun x hx => by cases hx⟩, fun _ => ⟨rfl, rfl⟩⟩
  · simp only [if_true] at hmm
    subst hmm
    obtain ⟨L, hL, hp⟩ := gchoose (p := fun i (t : List UInt8) => W.cell? (a.add i) = some (strV t) ∧ t.length ≤ maxLen) (n := len) (fun i hi => by
      obtain ⟨h1, h2⟩ := hx i (by omega)
      obtain ⟨s, hs, _, hm2⟩ := DataW.trod_string Tryz.underlying9 h2
      simp only [List.cons.injEq, and_true] at hs
      exact ⟨s.data.toList, by rw [h1, hs], hm2⟩)
    refine ⟨some a, m, L, by rw [hcs, hL], ⟨?_, by rw [hL]; exact hl, hm, fun x hx => ?_⟩, fun e => by cases e⟩
    · intro j y hj
      have hjl : j < L.length := by
        have := (List.getElem?_eq_some_iff.1 hj).1
        simpa [strC] using this
      obtain ⟨t, ht⟩ : ∃ t, L[j]? = some t := ⟨L[j], List.getElem?_eq_getElem hjl⟩
      have hy : y = strV t := by
        simp only [strC, List.getElem?_map, ht, Option.map_some, Option.some.injEq] at hj
        exact hj.symm
      subst hy
      have hc := (hp j t ht).1
      obtain ⟨b, off, spot⟩ := a
      obtain ⟨t0, ht0⟩ : ∃ t, L[0]? = some t := ⟨L[0]'(by omega), List.getElem?_eq_getElem (by omega)⟩
      have hspot : spot = none := by simpa [Addr.add] using World.cell?_spot (hp 0 t0 ht0).1
      subst hspot
      rw [gadd_plain] at hc
      exact ⟨b, off, rfl, hc⟩
    · obtain ⟨j, hj⟩ := List.getElem?_of_mem hx
      exact (hp j x hj).2
set_option maxRecDepth 100000 in
theorem arr2_cells {H : Type} {enc : TypeId × Value → H} {W : World} {base : Nat} {sp : Nat → Bool} {held : Bool} {n : Nat} {cs : List Value} {x : DataW H × List MemPlace}
    (h : DataW.trod enc Tryz.prog W base sp held n 22 cs = some x) : ∃ a b : Int, cs = [.int .i64 a, .int .i64 b] ∧ (-9223372036854775808 ≤ a ∧ a ≤ 9223372036854775807) ∧ (-9223372036854775808 ≤ b ∧ b ≤ 9223372036854775807) := by
  obtain ⟨xs, m, _, _, hl, hxl, hf⟩ := DataW.trod_array Tryz.underlying22 h
  rw [gcellsArr2] at hl
  match cs, hl, xs, hxl with
  | [c0, c1], _, [y0, y1], _ =>
    have h0 := hf 0 (by omega)
    have h1 := hf 1 (by omega)
    rw [gcells3] at h0 h1
    obtain ⟨n0, e0, _, w0⟩ := DataW.trod_int Tryz.underlying3 (show DataW.trod enc Tryz.prog W base sp held m 3 [c0] = some y0 from h0)
    obtain ⟨n1, e1, _, w1⟩ := DataW.trod_int Tryz.underlying3 (show DataW.trod enc Tryz.prog W base sp held m 3 [c1] = some y1 from h1)
    simp only [List.cons.injEq, and_true] at e0 e1
    exact ⟨n0, n1, by rw [e0, e1], gint_wf w0, gint_wf w1⟩
/-- What a policy's numbers may be. -/
structure PolInts (g : Pol) : Prop where
  l0 : -9223372036854775808 ≤ g.l0 ∧ g.l0 ≤ 9223372036854775807
  l1 : -9223372036854775808 ≤ g.l1 ∧ g.l1 ≤ 9223372036854775807
  h0 : -9223372036854775808 ≤ g.h0 ∧ g.h0 ≤ 9223372036854775807
  h1 : -9223372036854775808 ≤ g.h1 ∧ g.h1 ≤ 9223372036854775807
  on : -9223372036854775808 ≤ g.on ∧ g.on ≤ 9223372036854775807
  mx : -9223372036854775808 ≤ g.mx ∧ g.mx ≤ 9223372036854775807
  tr : -9223372036854775808 ≤ g.tr ∧ g.tr ≤ 9223372036854775807
set_option maxRecDepth 100000 in
set_option maxHeartbeats 1000000 in
theorem open_goal {H : Type} {enc : TypeId × Value → H} {W : World} {r : Reach} {b0 : Nat} {held : Bool} {v : Value} {d : DataW H} {p : List MemPlace}
    (hv : Value.okWide Tryz.prog W r b0 25 v) (h : DataW.Trod enc Tryz.prog W 0 (fun _ => true) held 25 v d p) :
    ∃ (g : Pol) (A : Option Addr) (c : Nat), v = valG g A c ∧ NamesAt W A c g.drain ∧ PolInts g ∧ (A = none → g.drain = [] ∧ c = 0) := by
  simp only [Value.okWide, Tryz.underlying25] at hv
  obtain ⟨cs, rfl, _, _⟩ := hv
  obtain ⟨fuel, hf0⟩ := h
  obtain ⟨xs, m, _, _, hl, hxl, hf⟩ := DataW.trod_struct Tryz.underlying25 hf0
  rw [gcellsGoal] at hl
  have hc : (Value.agg cs).cells.toList = cs.toList := rfl
  rw [hc] at hl hf
  generalize hL : cs.toList = L at hl hf
  match L, hl, xs, hxl with
  | [c0, c1, c2, c3, c4, c5, c6, c7, c8], _, [y0, y1, y2, y3, y4, y5, y6], _ =>
    have h0 : DataW.trod enc Tryz.prog W 0 (fun _ => true) held m 22 ((([c0, c1, c2, c3, c4, c5, c6, c7, c8] : List Value).drop 0).take (Tryz.prog.cellsOf 22)) = some y0 := hf 0 _ rfl
    have h1 : DataW.trod enc Tryz.prog W 0 (fun _ => true) held m 22 ((([c0, c1, c2, c3, c4, c5, c6, c7, c8] : List Value).drop 2).take (Tryz.prog.cellsOf 22)) = some y1 := hf 1 _ rfl
    have h2 : DataW.trod enc Tryz.prog W 0 (fun _ => true) held m 3 ((([c0, c1, c2, c3, c4, c5, c6, c7, c8] : List Value).drop 4).take (Tryz.prog.cellsOf 3)) = some y2 := hf 2 _ rfl
    have h3 : DataW.trod enc Tryz.prog W 0 (fun _ => true) held m 23 ((([c0, c1, c2, c3, c4, c5, c6, c7, c8] : List Value).drop 5).take (Tryz.prog.cellsOf 23)) = some y3 := hf 3 _ rfl
    have h4 : DataW.trod enc Tryz.prog W 0 (fun _ => true) held m 3 ((([c0, c1, c2, c3, c4, c5, c6, c7, c8] : List Value).drop 6).take (Tryz.prog.cellsOf 3)) = some y4 := hf 4 _ rfl
    have h5 : DataW.trod enc Tryz.prog W 0 (fun _ => true) held m 3 ((([c0, c1, c2, c3, c4, c5, c6, c7, c8] : List Value).drop 7).take (Tryz.prog.cellsOf 3)) = some y5 := hf 5 _ rfl
    have h6 : DataW.trod enc Tryz.prog W 0 (fun _ => true) held m 4 ((([c0, c1, c2, c3, c4, c5, c6, c7, c8] : List Value).drop 8).take (Tryz.prog.cellsOf 4)) = some y6 := hf 6 _ rfl
    rw [gcellsArr2] at h0 h1
    rw [gcells3] at h2 h4 h5
    rw [gcellsSl] at h3
    rw [gcellsBool] at h6
    obtain ⟨a0, a1, e0, b0, b1⟩ := arr2_cells (show DataW.trod enc Tryz.prog W 0 (fun _ => true) held m 22 [c0, c1] = some y0 from h0)
    obtain ⟨a2, a3, e1, b2, b3⟩ := arr2_cells (show DataW.trod enc Tryz.prog W 0 (fun _ => true) held m 22 [c2, c3] = some y1 from h1)
    obtain ⟨n2, e2, _, w2⟩ := DataW.trod_int Tryz.underlying3 (show DataW.trod enc Tryz.prog W 0 (fun _ => true) held m 3 [c4] = some y2 from h2)
    obtain ⟨A, c, l, e3, hn, hz⟩ := names_cells (show DataW.trod enc Tryz.prog W 0 (fun _ => true) held m 23 [c5] = some y3 from h3)
    obtain ⟨n4, e4, _, w4⟩ := DataW.trod_int Tryz.underlying3 (show DataW.trod enc Tryz.prog W 0 (fun _ => true) held m 3 [c6] = some y4 from h4)
    obtain ⟨n5, e5, _, w5⟩ := DataW.trod_int Tryz.underlying3 (show DataW.trod enc Tryz.prog W 0 (fun _ => true) held m 3 [c7] = some y5 from h5)
    obtain ⟨bb, e6, _⟩ := DataW.trod_bool Tryz.underlying4 (show DataW.trod enc Tryz.prog W 0 (fun _ => true) held m 4 [c8] = some y6 from h6)
    simp only [List.cons.injEq, and_true] at e0 e1 e2 e3 e4 e5 e6
    refine ⟨⟨a0, a1, a2, a3, n2, l, n4, n5, bb⟩, A, c, ?_, hn, ⟨b0, b1, b2, b3, gint_wf w2, gint_wf w4, gint_wf w5⟩, hz⟩
    have hv : cs = #[.int .i64 a0, .int .i64 a1, .int .i64 a2, .int .i64 a3, .int .i64 n2, .slice A l.length c, .int .i64 n4, .int .i64 n5, .bool bb] := by
      apply Array.ext'
      rw [hL, e0.1, e0.2, e1.1, e1.2, e2, e3, e4, e5, e6]
    rw [hv]
end Go.Proofs.YthbplchbolghjaaGreatDoor
