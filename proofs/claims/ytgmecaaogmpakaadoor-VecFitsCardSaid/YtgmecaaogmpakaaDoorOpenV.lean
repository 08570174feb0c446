/- Arguments that are rows beside each other, or a slice of rows, opened. No conditions of its own. -/
import Derived.Test.YtgmecaaogmpakaaDoorLiftV
import Derived.Test.YtgmecaaogmpakaaDoorVecCol
import Derived.Deep.Slices
namespace Go.Proofs.YtgmecaaogmpakaaDoor
open Go.ChangeShapes Go.WideShapes Go.ChangeAt Go.RowKit Go.Deep

theorem cellsVec2 : Tryd.prog.cellsOf 25 = 10 := by kernel_rfl

theorem ten {α : Type} {l : List α} {a b c d e f g h i j : α} (h0 : l.length = 10) (h1 : l.take 5 = [a, b, c, d, e]) (h2 : (l.drop 5).take 5 = [f, g, h, i, j]) : l = [a, b, c, d, e, f, g, h, i, j] := by
  have e1 : l = l.take 5 ++ l.drop 5 := (List.take_append_drop 5 l).symm
  have e2 : (l.drop 5).take 5 = l.drop 5 := List.take_of_length_le (by rw [List.length_drop]; omega)
  rw [e2] at h2
  rw [e1, h1, h2]
  rfl

set_option maxRecDepth 100000 in
theorem open_vec2 {H : Type} {enc : TypeId × Value → H} {W : World} {r : Reach} {b0 base : Nat} {sp : Nat → Bool} {held : Bool} {v : Value} {d : DataW H} {p : List MemPlace}
    (hv : Value.okWide Tryd.prog W r b0 25 v) (h : DataW.Trod enc Tryd.prog W base sp held 25 v d p) :
    ∃ x y : Nat → Int, Ints x ∧ Ints y ∧ v = .agg #[.int .i64 (x 0), .int .i64 (x 1), .int .i64 (x 2), .int .i64 (x 3), .int .i64 (x 4), .int .i64 (y 0), .int .i64 (y 1), .int .i64 (y 2), .int .i64 (y 3), .int .i64 (y 4)] := by
  simp only [Value.okWide, Tryd.underlying25] at hv
  obtain ⟨cs, rfl, _, _⟩ := hv
  obtain ⟨fuel, hf⟩ := h
  obtain ⟨xs, m, _, _, hl, hxl, hf⟩ := DataW.trod_array Tryd.underlying25 hf
  rw [cellsVec2] at hl
  match xs, hxl with
  | [x0, x1], _ =>
    have h0 := hf 0 (by omega)
    have h1 := hf 1 (by omega)
    rw [cellsVec] at h0 h1
    obtain ⟨x, ix, ex⟩ := vec_cells h0
    obtain ⟨y, iy, ey⟩ := vec_cells h1
    refine ⟨x, y, ix, iy, ?_⟩
    have e : cs.toList = _ := ten hl (show List.take 5 cs.toList = _ from by simpa [Value.cells] using ex) (show List.take 5 (List.drop 5 cs.toList) = _ from by simpa [Value.cells] using ey)
    rw [← e]

set_option maxRecDepth 100000 in
theorem open_vecs {H : Type} {enc : TypeId × Value → H} {W : World} {r : Reach} {b0 : Nat} {held : Bool} {v : Value} {d : DataW H} {p : List MemPlace}
    (hv : Value.okWide Tryd.prog W r b0 22 v) (h : DataW.Trod enc Tryd.prog W 0 (fun _ => true) held 22 v d p) :
    ∃ (al : Option Addr) (cap : Nat) (l : List (Nat → Int)), v = .slice al l.length cap ∧ RowsOf W al l ∧ l.length ≤ cap ∧ l.length ≤ maxLen := by
  obtain ⟨a0, len, cap, rfl⟩ := okWide_slice Tryd.underlying22 hv
  obtain ⟨fuel, hf⟩ := h
  rcases open_slice Tryd.underlying22 hf with ⟨hcs, _⟩ | ⟨a, len', cap', m, n, D, Pl, hcs, _, hl, hm, hmm, _, hx⟩
  · simp [Value.cells] at hcs
    obtain ⟨rfl, rfl, rfl⟩ := hcs
    exact ⟨none, 0, [], rfl, fun i x hx => by simp at hx, by simp, by simp⟩
  · simp [Value.cells] at hcs
    obtain ⟨rfl, rfl, rfl⟩ := hcs
    simp only [if_true] at hmm
    subst hmm
    rw [cellsVec] at hx
    obtain ⟨L, hL⟩ := choose_lt (α := Nat → Int) (p := fun i x => ∀ k, k < 5 → W.cell? ((a.add (i * 5)).add k) = some (.int .i64 (x k))) (n := len) (fun i hi => by
      obtain ⟨cs', h1, h2⟩ := hx i (by omega)
      obtain ⟨x, _, e⟩ := vec_cells h2
      subst e
      obtain ⟨_, _, hc⟩ := World.cells?_some h1
      refine ⟨x, fun k hk => ?_⟩
      rw [hc k hk]
      have hk : k = 0 ∨ k = 1 ∨ k = 2 ∨ k = 3 ∨ k = 4 := by omega
      rcases hk with rfl | rfl | rfl | rfl | rfl <;> rfl)
    refine ⟨some a, m, (List.range len).map L, by simp, ?_, by simpa using hl, by simp; omega⟩
    intro i x hi
    have hil : i < len := by
      have h := (List.getElem?_eq_some_iff.1 hi).1
      simpa using h
    rw [List.getElem?_map, List.getElem?_range hil] at hi
    simp only [Option.map_some, Option.some.injEq] at hi
    subst hi
    have hc := hL i hil
    obtain ⟨b, off, spot⟩ := a
    have hspot : spot = none := by simpa [Addr.add] using World.cell?_spot (hL 0 (by omega) 0 (by omega))
    subst hspot
    have hcell : ∀ k, k < 5 → W.cell? ⟨b, off + i * 5 + k, none⟩ = some (.int .i64 (L i k)) := fun k hk => by
      have h := hc k hk
      rw [add_plain, add_plain] at h
      exact h
    refine ⟨b, off, rfl, ?_, hcell⟩
    rcases Nat.lt_or_ge b W.heap.size with g | g
    · exact g
    · have h0 := hcell 0 (by omega)
      simp [World.cell?, Array.getElem?_eq_none g] at h0

end Go.Proofs.YtgmecaaogmpakaaDoor
