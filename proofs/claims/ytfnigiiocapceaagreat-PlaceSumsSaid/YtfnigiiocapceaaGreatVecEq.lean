/- Two rows that are alike are equal. No conditions. -/
import Derived.Test.YtfnigiiocapceaaGreatVecBase
import Derived.Laws.StructEq
namespace Go.Proofs.YtfnigiiocapceaaGreat.Qu
open Go.RowKit

theorem part_row0 (a b c d e : Int) (w : World) : (part 3 #[.int .i64 a, .int .i64 b, .int .i64 c, .int .i64 d, .int .i64 e] 0).run Tryz.prog w = .ok (.int .i64 a) w := by kernel_rfl
theorem part_row1 (a b c d e : Int) (w : World) : (part 3 #[.int .i64 a, .int .i64 b, .int .i64 c, .int .i64 d, .int .i64 e] 1).run Tryz.prog w = .ok (.int .i64 b) w := by kernel_rfl
theorem part_row2 (a b c d e : Int) (w : World) : (part 3 #[.int .i64 a, .int .i64 b, .int .i64 c, .int .i64 d, .int .i64 e] 2).run Tryz.prog w = .ok (.int .i64 c) w := by kernel_rfl
theorem part_row3 (a b c d e : Int) (w : World) : (part 3 #[.int .i64 a, .int .i64 b, .int .i64 c, .int .i64 d, .int .i64 e] 3).run Tryz.prog w = .ok (.int .i64 d) w := by kernel_rfl
theorem part_row4 (a b c d e : Int) (w : World) : (part 3 #[.int .i64 a, .int .i64 b, .int .i64 c, .int .i64 d, .int .i64 e] 4).run Tryz.prog w = .ok (.int .i64 e) w := by kernel_rfl
theorem int_size (w : World) : (sizeOf 3).run Tryz.prog w = .ok 1 w := by kernel_rfl
theorem eq_int (n : Nat) (a : Int) (w : World) : (Op.equalIn (n + 1) 3 (.int .i64 a) (.int .i64 a)).run Tryz.prog w = .ok true w := by
  rw [run_equalIn_int w n 3 .i64 .i64 a a Tryz.underlying3]
  simp
theorem eq_row_in (n : Nat) (a b c d e : Int) (w : World) : (Op.equalIn (n + 2) 33 (.agg #[.int .i64 a, .int .i64 b, .int .i64 c, .int .i64 d, .int .i64 e]) (.agg #[.int .i64 a, .int .i64 b, .int .i64 c, .int .i64 d, .int .i64 e])).run Tryz.prog w = .ok true w := by
  rw [Op.equalIn]
  simp only [Sem.run_bind, run_underlying Tryz.underlying33, Result.andThen_ok, int_size]
  simp [Std.Legacy.Range.forIn_eq_forIn_range', Std.Legacy.Range.size, List.range', Sem.run_bind, part_row0, part_row1, part_row2, part_row3, part_row4, eq_int]
theorem eq_row (a b c d e : Int) (w : World) : (Op.equalIn 10000 33 (.agg #[.int .i64 a, .int .i64 b, .int .i64 c, .int .i64 d, .int .i64 e]) (.agg #[.int .i64 a, .int .i64 b, .int .i64 c, .int .i64 d, .int .i64 e])).run Tryz.prog w = .ok true w := eq_row_in 9998 a b c d e w
theorem vec_guard : Tryz.prog.eqGuardType Tryz.prog.depth 33 = false := by kernel_rfl

end Go.Proofs.YtfnigiiocapceaaGreat.Qu
