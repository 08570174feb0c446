/- An argument that is three rows beside each other, opened. No conditions of its own. -/
import Derived.Test.YtgmecaaogmpakaaDoorOpenV
namespace Go.Proofs.YtgmecaaogmpakaaDoor
open Go.ChangeShapes Go.WideShapes Go.ChangeAt Go.RowKit Go.Deep

theorem cellsVec3 : Tryd.prog.cellsOf 44 = 15 := by kernel_rfl

theorem fifteen {α : Type} {l : List α} {a b c d e f g h i j k m n o p : α} (h0 : l.length = 15) (h1 : l.take 5 = [a, b, c, d, e]) (h2 : (l.drop 5).take 5 = [f, g, h, i, j]) (h3 : (l.drop 10).take 5 = [k, m, n, o, p]) :
    l = [a, b, c, d, e, f, g, h, i, j, k, m, n, o, p] := by
  have e1 : l = l.take 5 ++ l.drop 5 := (List.take_append_drop 5 l).symm
  have e2 : l.drop 5 = [f, g, h, i, j, k, m, n, o, p] := ten (by rw [List.length_drop]; omega) h2 (by rw [List.drop_drop]; exact h3)
  rw [e1, h1, e2]
  rfl

set_option maxRecDepth 100000 in
theorem open_vec3 {H : Type} {enc : TypeId × Value → H} {W : World} {r : Reach} {b0 base : Nat} {sp : Nat → Bool} {held : Bool} {v : Value} {d : DataW H} {p : List MemPlace}
    (hv : Value.okWide Tryd.prog W r b0 44 v) (h : DataW.Trod enc Tryd.prog W base sp held 44 v d p) :
    ∃ x y z : Nat → Int, Ints x ∧ Ints y ∧ Ints z ∧ v = .agg #[.int .i64 (x 0), .int .i64 (x 1), .int .i64 (x 2), .int .i64 (x 3), .int .i64 (x 4), .int .i64 (y 0), .int .i64 (y 1), .int .i64 (y 2), .int .i64 (y 3), .int .i64 (y 4), .int .i64 (z 0), .int .i64 (z 1), .int .i64 (z 2), .int .i64 (z 3), .int .i64 (z 4)] := by
  simp only [Value.okWide, Tryd.underlying44] at hv
  obtain ⟨cs, rfl, _, _⟩ := hv
  obtain ⟨fuel, hf⟩ := h
  obtain ⟨xs, m, _, _, hl, hxl, hf⟩ := DataW.trod_array Tryd.underlying44 hf
  rw [cellsVec3] at hl
  match xs, hxl with
  | [x0, x1, x2], _ =>
    have h0 := hf 0 (by omega)
    have h1 := hf 1 (by omega)
    have h2 := hf 2 (by omega)
    rw [cellsVec] at h0 h1 h2
    obtain ⟨x, ix, ex⟩ := vec_cells h0
    obtain ⟨y, iy, ey⟩ := vec_cells h1
    obtain ⟨z, iz, ez⟩ := vec_cells h2
    refine ⟨x, y, z, ix, iy, iz, ?_⟩
    have e : cs.toList = _ := fifteen hl (show List.take 5 cs.toList = _ from by simpa [Value.cells] using ex) (show List.take 5 (List.drop 5 cs.toList) = _ from by simpa [Value.cells] using ey) (show List.take 5 (List.drop 10 cs.toList) = _ from by simpa [Value.cells] using ez)
    rw [← e]

end Go.Proofs.YtgmecaaogmpakaaDoor
