/- How two wide numbers are compared: limb by limb. -/
import Derived.Test.YtpedidldhlldfabMul
import Derived.Test.YtpedidldhlldfabTurns
namespace Go.Proofs.Ytpedidldhlldfab
open Go.RowKit

/-- Wide numbers compared. -/
def eq8 (x0 x1 x2 x3 x4 x5 x6 x7 y0 y1 y2 y3 y4 y5 y6 y7 : Int) : Bool := x0 == y0 && (x1 == y1 && (x2 == y2 && (x3 == y3 && (x4 == y4 && (x5 == y5 && (x6 == y6 && x7 == y7))))))
theorem wide_part0 (x0 x1 x2 x3 x4 x5 x6 x7 : Int) (w : World) : (Go.part 22 #[.int .u64 x0, .int .u64 x1, .int .u64 x2, .int .u64 x3, .int .u64 x4, .int .u64 x5, .int .u64 x6, .int .u64 x7] 0).run Try.prog w = .ok (.int .u64 x0) w := by kernel_rfl
theorem wide_part1 (x0 x1 x2 x3 x4 x5 x6 x7 : Int) (w : World) : (Go.part 22 #[.int .u64 x0, .int .u64 x1, .int .u64 x2, .int .u64 x3, .int .u64 x4, .int .u64 x5, .int .u64 x6, .int .u64 x7] 1).run Try.prog w = .ok (.int .u64 x1) w := by kernel_rfl
theorem wide_part2 (x0 x1 x2 x3 x4 x5 x6 x7 : Int) (w : World) : (Go.part 22 #[.int .u64 x0, .int .u64 x1, .int .u64 x2, .int .u64 x3, .int .u64 x4, .int .u64 x5, .int .u64 x6, .int .u64 x7] 2).run Try.prog w = .ok (.int .u64 x2) w := by kernel_rfl
theorem wide_part3 (x0 x1 x2 x3 x4 x5 x6 x7 : Int) (w : World) : (Go.part 22 #[.int .u64 x0, .int .u64 x1, .int .u64 x2, .int .u64 x3, .int .u64 x4, .int .u64 x5, .int .u64 x6, .int .u64 x7] 3).run Try.prog w = .ok (.int .u64 x3) w := by kernel_rfl
theorem wide_part4 (x0 x1 x2 x3 x4 x5 x6 x7 : Int) (w : World) : (Go.part 22 #[.int .u64 x0, .int .u64 x1, .int .u64 x2, .int .u64 x3, .int .u64 x4, .int .u64 x5, .int .u64 x6, .int .u64 x7] 4).run Try.prog w = .ok (.int .u64 x4) w := by kernel_rfl
theorem wide_part5 (x0 x1 x2 x3 x4 x5 x6 x7 : Int) (w : World) : (Go.part 22 #[.int .u64 x0, .int .u64 x1, .int .u64 x2, .int .u64 x3, .int .u64 x4, .int .u64 x5, .int .u64 x6, .int .u64 x7] 5).run Try.prog w = .ok (.int .u64 x5) w := by kernel_rfl
theorem wide_part6 (x0 x1 x2 x3 x4 x5 x6 x7 : Int) (w : World) : (Go.part 22 #[.int .u64 x0, .int .u64 x1, .int .u64 x2, .int .u64 x3, .int .u64 x4, .int .u64 x5, .int .u64 x6, .int .u64 x7] 6).run Try.prog w = .ok (.int .u64 x6) w := by kernel_rfl
theorem wide_part7 (x0 x1 x2 x3 x4 x5 x6 x7 : Int) (w : World) : (Go.part 22 #[.int .u64 x0, .int .u64 x1, .int .u64 x2, .int .u64 x3, .int .u64 x4, .int .u64 x5, .int .u64 x6, .int .u64 x7] 7).run Try.prog w = .ok (.int .u64 x7) w := by kernel_rfl
set_option maxHeartbeats 1000000 in
theorem run_eq8' (d : Nat) (x0 x1 x2 x3 x4 x5 x6 x7 y0 y1 y2 y3 y4 y5 y6 y7 : Int) (w : World) : (Op.equalIn (d + 2) 29 (.agg #[.int .u64 x0, .int .u64 x1, .int .u64 x2, .int .u64 x3, .int .u64 x4, .int .u64 x5, .int .u64 x6, .int .u64 x7]) (.agg #[.int .u64 y0, .int .u64 y1, .int .u64 y2, .int .u64 y3, .int .u64 y4, .int .u64 y5, .int .u64 y6, .int .u64 y7])).run Try.prog w = .ok (eq8 x0 x1 x2 x3 x4 x5 x6 x7 y0 y1 y2 y3 y4 y5 y6 y7) w := by
  rw [Op.equalIn]
  simp only [Sem.run_bind, run_underlying Try.underlying29, Result.andThen_ok, size_limb]
  simp only [Std.Legacy.Range.forIn_eq_forIn_range', Std.Legacy.Range.size]
  simp only [List.range', List.forIn_cons, List.forIn_nil, Sem.run_bind, Nat.mul_one, Nat.sub_zero, Nat.zero_add, wide_part0, Result.andThen_ok, eq_limb, show 1 + 1 = 2 from rfl, show 2 + 1 = 3 from rfl, show 3 + 1 = 4 from rfl, show 4 + 1 = 5 from rfl, show 5 + 1 = 6 from rfl, show 6 + 1 = 7 from rfl]
  unfold eq8
  cases x0 == y0
  · simp
  simp only [Bool.not_true, Bool.false_eq_true, if_false, Sem.run_pure, Result.andThen_ok, Sem.run_bind, wide_part1, eq_limb]
  cases x1 == y1
  · simp
  simp only [Bool.not_true, Bool.false_eq_true, if_false, Sem.run_pure, Result.andThen_ok, Sem.run_bind, wide_part2, eq_limb]
  cases x2 == y2
  · simp
  simp only [Bool.not_true, Bool.false_eq_true, if_false, Sem.run_pure, Result.andThen_ok, Sem.run_bind, wide_part3, eq_limb]
  cases x3 == y3
  · simp
  simp only [Bool.not_true, Bool.false_eq_true, if_false, Sem.run_pure, Result.andThen_ok, Sem.run_bind, wide_part4, eq_limb]
  cases x4 == y4
  · simp
  simp only [Bool.not_true, Bool.false_eq_true, if_false, Sem.run_pure, Result.andThen_ok, Sem.run_bind, wide_part5, eq_limb]
  cases x5 == y5
  · simp
  simp only [Bool.not_true, Bool.false_eq_true, if_false, Sem.run_pure, Result.andThen_ok, Sem.run_bind, wide_part6, eq_limb]
  cases x6 == y6
  · simp
  simp only [Bool.not_true, Bool.false_eq_true, if_false, Sem.run_pure, Result.andThen_ok, Sem.run_bind, wide_part7, eq_limb]
  cases x7 == y7
  · simp
  · simp
theorem run_eq8 (x0 x1 x2 x3 x4 x5 x6 x7 y0 y1 y2 y3 y4 y5 y6 y7 : Int) (w : World) : (Op.equalIn 10000 29 (.agg #[.int .u64 x0, .int .u64 x1, .int .u64 x2, .int .u64 x3, .int .u64 x4, .int .u64 x5, .int .u64 x6, .int .u64 x7]) (.agg #[.int .u64 y0, .int .u64 y1, .int .u64 y2, .int .u64 y3, .int .u64 y4, .int .u64 y5, .int .u64 y6, .int .u64 y7])).run Try.prog w = .ok (eq8 x0 x1 x2 x3 x4 x5 x6 x7 y0 y1 y2 y3 y4 y5 y6 y7) w := run_eq8' 9998 x0 x1 x2 x3 x4 x5 x6 x7 y0 y1 y2 y3 y4 y5 y6 y7 w
theorem eq8_self (x0 x1 x2 x3 x4 x5 x6 x7 : Int) : eq8 x0 x1 x2 x3 x4 x5 x6 x7 x0 x1 x2 x3 x4 x5 x6 x7 = true := by simp [eq8]
end Go.Proofs.Ytpedidldhlldfab
