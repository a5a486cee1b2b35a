/- A step that is built of a request and a signature: the operation as a law. -/
import Derived.Test.YtolhkpgpcbebiaaQuK1
import Derived.Test.YtolhkpgpcbebiaaBsL
import Derived.Laws.Tables
namespace Go.Proofs.Ytolhkpgpcbebiaa
open Go Go.RowKit Go.Lib
theorem built_st (i : Int) (m : ByteArray) (S : Sg) : Try.prog.built 40 [(1, .agg #[.int .i64 i, .string m]), (2, .agg #[.int .u64 S.x0, .int .u64 S.x1, .int .u64 S.x2, .int .u64 S.x3, .int .u64 S.x4, .int .u64 S.x5, .int .u64 S.x6, .int .u64 S.x7, .bool S.i, .int .u64 S.x8, .int .u64 S.x9, .int .u64 S.x10, .int .u64 S.x11])] = some (stE (⟨0, i, m, S⟩ : Stq)).toArray := by kernel_rfl
theorem wpl_bst {ops : Array Oper} {rest : List Oper} {o : Oper} {a : Act} {w : World} {Q : Exit → Act → World → Prop} {x y : Nat} (i : Int) (m : ByteArray) (S : Sg) (hg : o.guard = none) (ho : o.op = .build 40 #[(1, .tmp x), (2, .tmp y)])
    (hx : a.eval (.tmp x) = .agg #[.int .i64 i, .string m]) (hy : a.eval (.tmp y) = .agg #[.int .u64 S.x0, .int .u64 S.x1, .int .u64 S.x2, .int .u64 S.x3, .int .u64 S.x4, .int .u64 S.x5, .int .u64 S.x6, .int .u64 S.x7, .bool S.i, .int .u64 S.x8, .int .u64 S.x9, .int .u64 S.x10, .int .u64 S.x11])
    (h : wpList Try.prog ops Q rest (a.put o.dst (.agg (stE (⟨0, i, m, S⟩ : Stq)).toArray)) w) : wpList Try.prog ops Q (o :: rest) a w :=
  wpList_plain hg fun _ hK => by
    have e : (Array.map (fun (x : Nat × Operand) => match x with | (i, x) => (i, a.eval x)) #[(1, Operand.tmp x), (2, Operand.tmp y)]).toList = [(1, .agg #[.int .i64 i, .string m]), (2, .agg #[.int .u64 S.x0, .int .u64 S.x1, .int .u64 S.x2, .int .u64 S.x3, .int .u64 S.x4, .int .u64 S.x5, .int .u64 S.x6, .int .u64 S.x7, .bool S.i, .int .u64 S.x8, .int .u64 S.x9, .int .u64 S.x10, .int .u64 S.x11])] := by simp [hx, hy]
    have hr := run_build (P := Try.prog) w 40 (Array.map (fun (x : Nat × Operand) => match x with | (i, x) => (i, a.eval x)) #[(1, Operand.tmp x), (2, Operand.tmp y)]) _ (by rw [e]; exact built_st i m S)
    unfold Oper.wp execOp
    simp only [ho, Sem.run_bind, hr, Result.andThen_ok]
    exact hK _ _ h
end Go.Proofs.Ytolhkpgpcbebiaa
