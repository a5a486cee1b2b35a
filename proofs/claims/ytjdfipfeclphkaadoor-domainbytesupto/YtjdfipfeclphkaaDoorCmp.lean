/- limb.Cmp: -1, 0 or 1, as the numbers lie. -/
import Derived.Test.YtjdfipfeclphkaaDoorAdd
namespace Go.Proofs.YtjdfipfeclphkaaDoor
open Go.RowKit

theorem ret_int {k : IntKind} {a b : Int} (h : a = b) : Ending.returned (.int k a) = .returned (.int k b) := by rw [h]

end Go.Proofs.YtjdfipfeclphkaaDoor
