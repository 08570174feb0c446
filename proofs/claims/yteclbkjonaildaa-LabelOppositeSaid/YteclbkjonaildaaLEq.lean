/- A label, and a term, equals itself. No conditions. -/
import Derived.Test.YteclbkjonaildaaLTerm
import Derived.Laws.StructEq
namespace Go.Proofs.Yteclbkjonaildaa
open Go.RowKit

theorem eq_string (n : Nat) (a : List UInt8) (w : World) : (Op.equalIn (n + 1) 9 (strV a) (strV a)).run Try.prog w = .ok true w := by
  rw [run_equalIn_string w n 9 _ _ Try.underlying9]
  simp
theorem eq_int1 (n : Nat) (a : Int) (w : World) : (Op.equalIn (n + 1) 3 (.int .i64 a) (.int .i64 a)).run Try.prog w = .ok true w := by
  rw [run_equalIn_int w n 3 .i64 .i64 a a Try.underlying3]
  simp
theorem lab_part0 (a b : List UInt8) (w : World) : (part 9 #[strV a, strV b] 0).run Try.prog w = .ok (strV a) w := by kernel_rfl
theorem lab_part1 (a b : List UInt8) (w : World) : (part 9 #[strV a, strV b] 1).run Try.prog w = .ok (strV b) w := by kernel_rfl
theorem ter_part0 (k : Int) (a b : List UInt8) (w : World) : (part 3 #[.int .i64 k, strV a, strV b] 0).run Try.prog w = .ok (.int .i64 k) w := by kernel_rfl
theorem ter_part1 (k : Int) (a b : List UInt8) (w : World) : (part 9 #[.int .i64 k, strV a, strV b] 1).run Try.prog w = .ok (strV a) w := by kernel_rfl
theorem ter_part2 (k : Int) (a b : List UInt8) (w : World) : (part 9 #[.int .i64 k, strV a, strV b] 2).run Try.prog w = .ok (strV b) w := by kernel_rfl
theorem lab_names : (Try.prog.fieldsOf 41).toList.map (fun f => (f.name, f.type, f.offset)) = [("Key", 9, 0), ("Value", 9, 1)] := by kernel_rfl
theorem ter_names : (Try.prog.fieldsOf 43).toList.map (fun f => (f.name, f.type, f.offset)) = [("Kind", 3, 0), ("Key", 9, 1), ("Value", 9, 2)] := by kernel_rfl
theorem lab_fields : ∃ f0 f1 : Field, (Try.prog.fieldsOf 41).toList = [f0, f1] ∧ f0.name ≠ "_" ∧ f1.name ≠ "_" ∧ f0.type = 9 ∧ f1.type = 9 ∧ f0.offset = 0 ∧ f1.offset = 1 := by
  have h := lab_names
  generalize (Try.prog.fieldsOf 41).toList = fs at h
  rcases fs with _ | ⟨f0, _ | ⟨f1, _ | ⟨f2, fs⟩⟩⟩
  · exact absurd (congrArg List.length h) (by simp)
  · exact absurd (congrArg List.length h) (by simp)
  · simp only [List.map_cons, List.map_nil, List.cons.injEq, Prod.mk.injEq] at h
    obtain ⟨⟨a0, b0, c0⟩, ⟨a1, b1, c1⟩, _⟩ := h
    exact ⟨f0, f1, rfl, by rw [a0]; decide, by rw [a1]; decide, b0, b1, c0, c1⟩
  · exact absurd (congrArg List.length h) (by simp)
theorem ter_fields : ∃ f0 f1 f2 : Field, (Try.prog.fieldsOf 43).toList = [f0, f1, f2] ∧ f0.name ≠ "_" ∧ f1.name ≠ "_" ∧ f2.name ≠ "_" ∧ f0.type = 3 ∧ f1.type = 9 ∧ f2.type = 9 ∧ f0.offset = 0 ∧ f1.offset = 1 ∧ f2.offset = 2 := by
  have h := ter_names
  generalize (Try.prog.fieldsOf 43).toList = fs at h
  rcases fs with _ | ⟨f0, _ | ⟨f1, _ | ⟨f2, _ | ⟨f3, fs⟩⟩⟩⟩
  · exact absurd (congrArg List.length h) (by simp)
  · exact absurd (congrArg List.length h) (by simp)
  · exact absurd (congrArg List.length h) (by simp)
  · simp only [List.map_cons, List.map_nil, List.cons.injEq, Prod.mk.injEq] at h
    obtain ⟨⟨a0, b0, c0⟩, ⟨a1, b1, c1⟩, ⟨a2, b2, c2⟩, _⟩ := h
    exact ⟨f0, f1, f2, rfl, by rw [a0]; decide, by rw [a1]; decide, by rw [a2]; decide, b0, b1, b2, c0, c1, c2⟩
  · exact absurd (congrArg List.length h) (by simp)
theorem eq_lab (x : List UInt8 × List UInt8) (w : World) : (Op.equalIn 10000 41 (labV x) (labV x)).run Try.prog w = .ok true w := by
  have h := run_equalIn_agg (P := Try.prog) w 9999 41 #[strV x.1, strV x.2] #[strV x.1, strV x.2] (by kernel_rfl) (by kernel_rfl)
  refine h.trans ?_
  obtain ⟨f0, f1, hf, n0, n1, t0, t1, o0, o1⟩ := lab_fields
  rw [hf]
  simp only [Op.eqFields, n0, n1, t0, t1, o0, o1, Sem.run_bind, Sem.run_ite, lab_part0, lab_part1, eq_string 9998, Result.andThen_ok, if_true, ne_eq, not_false_eq_true, Bool.not_true, Bool.false_eq_true, if_false, Sem.run_pure]
theorem eq_ter (x : Int × List UInt8 × List UInt8) (w : World) : (Op.equalIn 10000 43 (terV x) (terV x)).run Try.prog w = .ok true w := by
  have h := run_equalIn_agg (P := Try.prog) w 9999 43 #[.int .i64 x.1, strV x.2.1, strV x.2.2] #[.int .i64 x.1, strV x.2.1, strV x.2.2] (by kernel_rfl) (by kernel_rfl)
  refine h.trans ?_
  obtain ⟨f0, f1, f2, hf, n0, n1, n2, t0, t1, t2, o0, o1, o2⟩ := ter_fields
  rw [hf]
  simp only [Op.eqFields, n0, n1, n2, t0, t1, t2, o0, o1, o2, Sem.run_bind, Sem.run_ite, ter_part0, ter_part1, ter_part2, eq_string 9998, eq_int1 9998, Result.andThen_ok, if_true, ne_eq, not_false_eq_true, Bool.not_true, Bool.false_eq_true, if_false, Sem.run_pure]
theorem lab_guard : Try.prog.eqGuardType Try.prog.depth 41 = false := by kernel_rfl
theorem ter_guard : Try.prog.eqGuardType Try.prog.depth 43 = false := by kernel_rfl

end Go.Proofs.Yteclbkjonaildaa
