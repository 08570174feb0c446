/- Arguments that are pairs (of a key, a value, a kind, as numbers), opened. No conditions of its own. -/
import Derived.Test.YteclbkjonaildaaLOpenP
namespace Go.Proofs.Yteclbkjonaildaa
open Go.ChangeShapes Go.WideShapes Go.ChangeAt Go.RowKit Go.Deep

set_option maxRecDepth 100000 in
theorem open_pair {H : Type} {enc : TypeId × Value → H} {W : World} {r : Reach} {b0 base : Nat} {sp : Nat → Bool} {held : Bool} {v : Value} {d : DataW H} {p : List MemPlace}
    (hv : Value.okWide Try.prog W r b0 46 v) (h : DataW.Trod enc Try.prog W base sp held 46 v d p) :
    ∃ x : Int × Int × Int, v = .agg #[.int .i64 x.1, .int .i64 x.2.1, .int .i64 x.2.2] := by
  simp only [Value.okWide, Try.underlying46] at hv
  obtain ⟨cs, rfl, _, _⟩ := hv
  obtain ⟨fuel, hf⟩ := h
  obtain ⟨x, e⟩ := pair_cells hf
  refine ⟨x, ?_⟩
  have e2 : cs.toList = [.int .i64 x.1, .int .i64 x.2.1, .int .i64 x.2.2] := e
  rw [← e2]
end Go.Proofs.Yteclbkjonaildaa
