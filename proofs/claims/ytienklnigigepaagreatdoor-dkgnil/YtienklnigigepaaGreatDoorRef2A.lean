/- wardmoteref02.Less, Plus and Minus: what the reference answers, over natural numbers. -/
import Derived.Test.YtienklnigigepaaGreatDoorFdA
import Derived.Test.YtienklnigigepaaGreatDoorLbA
namespace Go.Proofs.YtienklnigigepaaGreatDoor
open Go.RowKit

theorem ret_bool {a b : Bool} (h : a = b) : Ending.returned (.bool a) = .returned (.bool b) := by rw [h]

end Go.Proofs.YtienklnigigepaaGreatDoor
