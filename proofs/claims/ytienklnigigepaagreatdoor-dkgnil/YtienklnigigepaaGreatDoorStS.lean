/- A struct that is stored over an equal one. -/
import Derived.Test.YtienklnigigepaaGreatDoorLbA
import Derived.Test.YtienklnigigepaaGreatDoorHeldR
import Derived.Deep.WholeRow
namespace Go.Proofs.YtienklnigigepaaGreatDoor
open Go Go.RowKit
theorem store_eq {ops : Array Oper} {rest : List Oper} {o : Oper} {a : Act} {w : World} {Q : Exit → Act → World → Prop} {b x y : Nat} {ty : TypeId} {vs : Array Value} (hgd : o.guard = none) (ho : o.op = .store ty (.tmp x) (.tmp y))
    (hx : a.eval (.tmp x) = .pointer (some ⟨b, 0, none⟩)) (hy : a.eval (.tmp y) = .agg vs) (hs : (storeVar ty ⟨b, 0, none⟩ (.agg vs)).run Tryz.prog w = .ok () w)
    (h : wpList Tryz.prog ops Q rest (a.put o.dst undef) w) : wpList Tryz.prog ops Q (o :: rest) a w :=
  wpList_plain hgd fun _ hK => by
    unfold Oper.wp execOp
    simp only [ho, hx, hy, Instr.storeAt, Instr.sureAddr, Sem.run_bind, Sem.run_pure, Result.andThen_ok, hs]
    exact hK _ _ h
end Go.Proofs.YtienklnigigepaaGreatDoor
