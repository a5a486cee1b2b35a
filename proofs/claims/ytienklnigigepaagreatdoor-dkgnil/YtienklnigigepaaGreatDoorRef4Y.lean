/- The reference's Sum: the walk. -/
import Derived.Test.YtienklnigigepaaGreatDoorRef4Z
namespace Go.Proofs.YtienklnigigepaaGreatDoor
open Go.RowKit

end Go.Proofs.YtienklnigigepaaGreatDoor
