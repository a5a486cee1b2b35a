/- The reference's Hashed. -/
import Derived.Test.YtienklnigigepaaGreatDoorDmS
namespace Go.Proofs.YtienklnigigepaaGreatDoor
open Go Go.RowKit Go.Lib

end Go.Proofs.YtienklnigigepaaGreatDoor
