/- wardmoteref01.FromBytes: the number that 32 bytes are. -/
import Derived.Test.YtienklnigigepaaGreatDoorFromB
namespace Go.Proofs.YtienklnigigepaaGreatDoor
open Go.RowKit

end Go.Proofs.YtienklnigigepaaGreatDoor
