/- When numbers are alike; a struct's fields one by one. -/
import Derived.Test.YtbpgiijdcagckaaDoorWkA
import Derived.Test.YtbpgiijdcagckaaDoorLbA
namespace Go.Proofs.YtbpgiijdcagckaaDoor
open Go Go.RowKit
theorem eqFields_consK (d : Nat) (xs ys : Array Value) (f : Field) (fs : List Field) (hn : f.name ≠ "_") (w : World) (a b : Value) (r : Bool) (ha : (Go.part f.type xs f.offset).run Tryd.prog w = .ok a w) (hb : (Go.part f.type ys f.offset).run Tryd.prog w = .ok b w) (hr : (Op.equalIn d f.type a b).run Tryd.prog w = .ok r w) :
    (Op.eqFields d xs ys (f :: fs)).run Tryd.prog w = if r then (Op.eqFields d xs ys fs).run Tryd.prog w else .ok false w := by
  simp only [Op.eqFields, if_pos hn, Sem.run_bind, ha, hb, hr, Result.andThen_ok]
  cases r <;> simp
def eqn (a b : Nat) : Bool := eq4 (limb a 0 : Nat) (limb a 1 : Nat) (limb a 2 : Nat) (limb a 3 : Nat) (limb b 0 : Nat) (limb b 1 : Nat) (limb b 2 : Nat) (limb b 3 : Nat)
theorem eqn_iff {a b : Nat} (ha : a < R256) (hb : b < R256) : eqn a b = decide (a = b) := eq4_num a b ha hb
theorem eqn_self (a : Nat) : eqn a a = true := by simp [eqn, eq4]
theorem run_nu (d a b : Nat) (w : World) : (Op.equalIn (d + 2) 27 (.agg (nuV a).toArray) (.agg (nuV b).toArray)).run Tryd.prog w = .ok (eqn a b) w := run_eq4' d _ _ _ _ _ _ _ _ w
theorem run_num0 (a b : Nat) (w : World) : (Op.equalIn 10000 27 (.agg (nuV a).toArray) (.agg (nuV b).toArray)).run Tryd.prog w = .ok (eqn a b) w := run_nu 9998 a b w
end Go.Proofs.YtbpgiijdcagckaaDoor
