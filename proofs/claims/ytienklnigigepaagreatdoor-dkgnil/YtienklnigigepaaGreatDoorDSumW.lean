/- The law DigestSums: the code's sum is the reference's. -/
import Derived.Test.YtienklnigigepaaGreatDoorDNilW
import Derived.Test.YtienklnigigepaaGreatDoorRef4Y
namespace Go.Proofs.YtienklnigigepaaGreatDoor
open Go.RowKit

end Go.Proofs.YtienklnigigepaaGreatDoor
