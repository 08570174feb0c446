/- Arguments that are slices of numbers, opened: what stands in memory. No conditions of its own. -/
import Derived.Test.YtdakkjfhmidkeaaLiftL
import Derived.Test.YtdakkjfhmidkeaaSSpelt
import Derived.Deep.Slices
namespace Go.Proofs.Ytdakkjfhmidkeaa
open Go.ChangeShapes Go.WideShapes Go.ChangeAt Go.RowKit Go.Deep

theorem cellsIntS : Try.prog.cellsOf 3 = 1 := by kernel_rfl
theorem add_one (a : Addr) (i : Nat) : a.add (i * 1) = a.add i := by rw [Nat.mul_one]
set_option maxRecDepth 100000 in
theorem open_ints {H : Type} {enc : TypeId × Value → H} {W : World} {r : Reach} {b0 : Nat} {held : Bool} {v : Value} {d : DataW H} {p : List MemPlace}
    (hv : Value.okWide Try.prog W r b0 22 v) (h : DataW.Trod enc Try.prog W 0 (fun _ => true) held 22 v d p) :
    ∃ (al : Option Addr) (cap : Nat) (l : List Int), v = .slice al l.length cap ∧ SlAt W al (cellsI l) ∧ l.length ≤ cap ∧ cap ≤ maxLen := by
  obtain ⟨a0, len, cap, rfl⟩ := okWide_slice Try.underlying22 hv
  obtain ⟨fuel, hf⟩ := h
  rcases open_slice Try.underlying22 hf with ⟨hcs, _⟩ | ⟨a, len', cap', m, n, D, Pl, hcs, _, hl, hm, hmm, _, hx⟩
  · simp [Value.cells] at hcs
    obtain ⟨rfl, rfl, rfl⟩ := hcs
    exact ⟨none, 0, [], rfl, SlAt.nil _ _, by simp, by simp⟩
  · simp [Value.cells] at hcs
    obtain ⟨rfl, rfl, rfl⟩ := hcs
    simp only [if_true] at hmm
    subst hmm
    rw [cellsIntS] at hx
    obtain ⟨L, hL⟩ := choose_lt (α := Int) (p := fun i x => W.cell? (a.add (i * 1)) = some (.int .i64 x)) (n := len) (fun i hi => by
      obtain ⟨cs', h1, h2⟩ := hx i (by omega)
      obtain ⟨k0, e0, _, _⟩ := DataW.trod_int Try.underlying3 h2
      subst e0
      obtain ⟨_, _, hc⟩ := World.cells?_some h1
      have c0 := hc 0 (by decide)
      refine ⟨k0, ?_⟩
      simpa [Addr.add] using c0)
    refine ⟨some a, m, (List.range len).map L, by simp, ?_, by simpa using hl, hm⟩
    rcases Nat.eq_zero_or_pos len with h0 | hpos
    · subst h0
      exact SlAt.nil _ _
    · obtain ⟨b, off, spot⟩ := a
      have hspot : spot = none := by simpa [Addr.add] using World.cell?_spot (hL 0 hpos)
      subst hspot
      intro j y hj
      refine ⟨b, off, rfl, ?_⟩
      have hil : j < len := by
        have h := (List.getElem?_eq_some_iff.1 hj).1
        simpa [cellsI] using h
      unfold cellsI at hj
      rw [List.getElem?_map, List.getElem?_map, List.getElem?_range hil] at hj
      simp only [Option.map_some, Option.some.injEq] at hj
      subst hj
      have k0 := hL j hil
      rw [add_plain, Nat.mul_one] at k0
      exact k0
end Go.Proofs.Ytdakkjfhmidkeaa
