/- The reference's Words. -/
import Derived.Test.YtienklnigigepaaGreatDoorRef4V
namespace Go.Proofs.YtienklnigigepaaGreatDoor
open Go.RowKit

theorem eight_lt (L : Nat) (h : L < 140737488351233) : 8 * L < 1152921504606846976 := by omega
theorem iz_facts (L z m iz : Nat) (h : iz = z - 1 - m) (h1 : L + 9 ≤ z) (h2 : z < L + 73) (h3 : L < 140737488351233) (hm : m < 8) : iz < z ∧ 0 < iz ∧ iz < 1152921504606846976 := by omega
theorem quarter_lt (k z : Nat) (h : k < z) (hz : z < 140737488355328) : k / 4 < 9223372036854775808 := by omega
theorem next_lt (k z : Nat) (h : k < z) (hz : z < 140737488355328) : k + 1 < 9223372036854775808 := by omega
theorem step_lt (x d : Nat) (h : x < 4294967296) (hd : d < 256) : 256 * x + d < 9223372036854775808 := by omega
theorem quarter_le (j z : Nat) (h : j < z / 4) : 4 * j + 4 ≤ z := by omega
end Go.Proofs.YtienklnigigepaaGreatDoor
