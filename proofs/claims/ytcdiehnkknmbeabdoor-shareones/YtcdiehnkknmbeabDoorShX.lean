/- Share: one node's weight; are two lists of numbers equal? The law ShareWeights. -/
import Derived.Test.YtcdiehnkknmbeabDoorMhG
namespace Go.Proofs.YtcdiehnkknmbeabDoor
open Go Go.RowKit Go.Lib
attribute [local go_sem] run_eq4

theorem eq4_self' (a b c d : Int) : eq4 a b c d a b c d = true := by simp [eq4]
end Go.Proofs.YtcdiehnkknmbeabDoor
