/- From what a law's walk gives to the law's row, where rows of quantities are read and the names of their places are listed. No conditions of its own. -/
import Derived.Test.YtgmecaaogmpakaaDoorLift
import Derived.Test.YtgmecaaogmpakaaDoorVecNames
namespace Go.Proofs.YtgmecaaogmpakaaDoor
open Go.ChangeShapes Go.WideShapes Go.ChangeAt Go.RowKit

/-- What the rows list. -/
def laid4 : List (String × DataW Unit) := [("math/bits.deBruijn32tab", Rows.laid_math_bits_deBruijn32tab), ("math/bits.deBruijn64tab", Rows.laid_math_bits_deBruijn64tab), ("internal/strconv.uint64pow10", Rows.laid_internal_strconv_uint64pow10), ("drayage/vec.names", Rows.laid_drayage_vec_names)]

theorem tab_of4 {W : World} (h : laidMetH Tryd.prog laid4 W) : Tab W := by
  have h1 := h.filter (fun x => x.1 == "internal/strconv.uint64pow10")
  have e : (laid4.filter (fun x => x.1 == "internal/strconv.uint64pow10")) = [("internal/strconv.uint64pow10", Lib.tabData .u64 Lib.pow10Tab)] := by
    unfold laid4
    rw [tab_data]
    rfl
  rw [e] at h1
  exact Lib.tabIs_of_head (rest := []) gTab gTabType Tryd.underlying107 Tryd.underlying97 cellsU cellsTab h1

theorem gNames : Tryd.prog.globalNamed "drayage/vec.names" = some 0 := by kernel_rfl
theorem gNamesType : (Tryd.prog.globals[0]?).map (·.type) = some 58 := by kernel_rfl
theorem cellsNames : Tryd.prog.cellsOf 58 = 5 := by kernel_rfl
theorem cellsStr : Tryd.prog.cellsOf 9 = 1 := by kernel_rfl

theorem five {α : Type} {l : List α} (h : l.length = 5) : ∃ a b c d e, l = [a, b, c, d, e] := by
  match l, h with
  | [a, b, c, d, e], _ => exact ⟨a, b, c, d, e, rfl⟩

/-- Cells that read as five texts are these texts. -/
theorem str_cells {H : Type} {enc : TypeId × Value → H} {w : World} {base : Nat} {sp : Nat → Bool} {held : Bool} {fuel : Nat} {cs : List Value} {a b c d e : List UInt8} {p : List MemPlace}
    (h : DataW.trod enc Tryd.prog w base sp held fuel 58 cs = some (.agg [.lit (.string a), .lit (.string b), .lit (.string c), .lit (.string d), .lit (.string e)], p)) :
    cs = [.string ⟨a.toArray⟩, .string ⟨b.toArray⟩, .string ⟨c.toArray⟩, .string ⟨d.toArray⟩, .string ⟨e.toArray⟩] := by
  obtain ⟨xs, m, _, hx, hl, hxl, hf⟩ := DataW.trod_array Tryd.underlying58 h
  rw [cellsNames] at hl
  obtain ⟨c0, c1, c2, c3, c4, rfl⟩ := five hl
  obtain ⟨x0, x1, x2, x3, x4, rfl⟩ := five hxl
  simp only [Prod.mk.injEq, List.map_cons, List.map_nil, DataW.agg.injEq, List.cons.injEq, and_true] at hx
  obtain ⟨⟨e0, e1, e2, e3, e4⟩, _⟩ := hx
  have one : ∀ (i : Nat) (v : Value) (x : DataW H × List MemPlace) (t : List UInt8), i < 5 → [c0, c1, c2, c3, c4][i]? = some v → [x0, x1, x2, x3, x4][i]? = some x → DataW.lit (.string t) = x.1 → v = .string ⟨t.toArray⟩ := by
    intro i v x t hi hv hxi he
    have h1 := hf i hi
    rw [cellsStr, hxi, Nat.mul_one] at h1
    obtain ⟨s, hs, hx2, _⟩ := DataW.trod_string Tryd.underlying9 h1
    have h2 : (([c0, c1, c2, c3, c4].drop i).take 1)[0]? = some v := by
      rw [List.getElem?_take_of_lt (by omega), List.getElem?_drop]
      simpa using hv
    rw [hs] at h2
    simp only [List.getElem?_cons_zero, Option.some.injEq] at h2
    rw [hx2] at he
    simp only [DataW.lit.injEq, Lit.string.injEq] at he
    rw [← h2, he]
  rw [one 0 c0 x0 a (by omega) rfl rfl e0, one 1 c1 x1 b (by omega) rfl rfl e1, one 2 c2 x2 c (by omega) rfl rfl e2, one 3 c3 x3 d (by omega) rfl rfl e3, one 4 c4 x4 e (by omega) rfl rfl e4]

theorem names_of {W : World} (h : laidMetH Tryd.prog laid4 W) : NamesAt W := by
  have h1 := h.filter (fun x => x.1 == "drayage/vec.names")
  have e : (laid4.filter (fun x => x.1 == "drayage/vec.names")) = [("drayage/vec.names", Rows.laid_drayage_vec_names)] := by
    unfold laid4
    rfl
  rw [e] at h1
  have h2 : laidMet Tryd.prog [("drayage/vec.names", Rows.laid_drayage_vec_names)] W := h1
  obtain ⟨ps, ⟨g', t', cs, fuel, p, q, hg', ht', hvar, hd, _, _⟩, _⟩ := h2
  obtain rfl := Option.some.inj (gNames.symm.trans hg')
  obtain rfl := Option.some.inj (gNamesType.symm.trans ht')
  have hc := str_cells hd
  have hcell : ∀ k, k < 5 → W.cell? ⟨0, k, none⟩ = some (.string ⟨(nameL k).toArray⟩) := by
    intro k hk
    rw [World.var?_cell gNames hvar k, ← Array.getElem?_toList, hc]
    have hk : k = 0 ∨ k = 1 ∨ k = 2 ∨ k = 3 ∨ k = 4 := by omega
    rcases hk with rfl | rfl | rfl | rfl | rfl <;> rfl
  refine ⟨?_, hcell⟩
  rcases Nat.lt_or_ge 0 W.heap.size with g | g
  · exact g
  · have h0 := hcell 0 (by omega)
    simp [World.cell?, Array.getElem?_eq_none g] at h0

theorem cellsVec : Tryd.prog.cellsOf 24 = 5 := by kernel_rfl
/-- Cells that read as a row are five ints. -/
theorem vec_cells {H : Type} {enc : TypeId × Value → H} {w : World} {base : Nat} {sp : Nat → Bool} {held : Bool} {fuel : Nat} {cs : List Value} {y : DataW H × List MemPlace}
    (h : DataW.trod enc Tryd.prog w base sp held fuel 24 cs = some y) : ∃ x : Nat → Int, Ints x ∧ cs = [.int .i64 (x 0), .int .i64 (x 1), .int .i64 (x 2), .int .i64 (x 3), .int .i64 (x 4)] := by
  obtain ⟨xs, m, _, _, hl, hxl, hf⟩ := DataW.trod_array Tryd.underlying24 h
  rw [cellsVec] at hl
  obtain ⟨c0, c1, c2, c3, c4, rfl⟩ := five hl
  obtain ⟨x0, x1, x2, x3, x4, rfl⟩ := five hxl
  have one : ∀ (i : Nat) (v : Value) (x : DataW H × List MemPlace), i < 5 → [c0, c1, c2, c3, c4][i]? = some v → [x0, x1, x2, x3, x4][i]? = some x → ∃ n, v = .int .i64 n ∧ -9223372036854775808 ≤ n ∧ n ≤ 9223372036854775807 := by
    intro i v x hi hv hxi
    have h1 := hf i hi
    rw [cells3, hxi, Nat.mul_one] at h1
    obtain ⟨n, hs, _, wf⟩ := DataW.trod_int Tryd.underlying3 h1
    have h2 : (([c0, c1, c2, c3, c4].drop i).take 1)[0]? = some v := by
      rw [List.getElem?_take_of_lt (by omega), List.getElem?_drop]
      simpa using hv
    rw [hs] at h2
    simp only [List.getElem?_cons_zero, Option.some.injEq] at h2
    exact ⟨n, h2.symm, int_wf wf⟩
  obtain ⟨n0, rfl, b0⟩ := one 0 c0 x0 (by omega) rfl rfl
  obtain ⟨n1, rfl, b1⟩ := one 1 c1 x1 (by omega) rfl rfl
  obtain ⟨n2, rfl, b2⟩ := one 2 c2 x2 (by omega) rfl rfl
  obtain ⟨n3, rfl, b3⟩ := one 3 c3 x3 (by omega) rfl rfl
  obtain ⟨n4, rfl, b4⟩ := one 4 c4 x4 (by omega) rfl rfl
  refine ⟨fun | 0 => n0 | 1 => n1 | 2 => n2 | 3 => n3 | _ => n4, fun k hk => ?_, rfl⟩
  have hk : k = 0 ∨ k = 1 ∨ k = 2 ∨ k = 3 ∨ k = 4 := by omega
  rcases hk with rfl | rfl | rfl | rfl | rfl <;> assumption

set_option maxRecDepth 100000 in
theorem open_vec {H : Type} {enc : TypeId × Value → H} {W : World} {r : Reach} {b0 base : Nat} {sp : Nat → Bool} {held : Bool} {v : Value} {d : DataW H} {p : List MemPlace}
    (hv : Value.okWide Tryd.prog W r b0 24 v) (h : DataW.Trod enc Tryd.prog W base sp held 24 v d p) :
    ∃ x : Nat → Int, Ints x ∧ v = .agg #[.int .i64 (x 0), .int .i64 (x 1), .int .i64 (x 2), .int .i64 (x 3), .int .i64 (x 4)] := by
  simp only [Value.okWide, Tryd.underlying24] at hv
  obtain ⟨cs, rfl, _, _⟩ := hv
  obtain ⟨fuel, hf⟩ := h
  obtain ⟨x, hx, e⟩ := vec_cells hf
  refine ⟨x, hx, ?_⟩
  have e2 : cs.toList = [.int .i64 (x 0), .int .i64 (x 1), .int .i64 (x 2), .int .i64 (x 3), .int .i64 (x 4)] := e
  rw [← e2]

def cellsN : Array Value := #[.string ⟨#[99, 112, 117]⟩, .string ⟨#[109, 101, 109]⟩, .string ⟨#[100, 105, 115, 107]⟩, .string ⟨#[115, 108, 111, 116, 115]⟩, .string ⟨#[101, 120, 116, 114, 97]⟩]
/-- A world for the witnesses: the settled one, with the tables and the names as their initialisers lay them. -/
noncomputable def laidWorld4 (os : Os) : World := { laidWorld os with heap := (laidWorld os).heap.modify 0 (putCells cellsN) }

end Go.Proofs.YtgmecaaogmpakaaDoor
