/- Several texts laid together. -/
import Derived.KernelRfl
import Derived.Test.YtfkpbcionlidaaaDoorPrimePQ
namespace Go.Proofs.YtfkpbcionlidaaaDoor

end Go.Proofs.YtfkpbcionlidaaaDoor

namespace Go.Proofs.YtfkpbcionlidaaaDoor

/-- a and b are the same modulo q. -/
def CZ (q : Nat) (a b : Int) : Prop := (q : Int) ∣ a - b
theorem CZ.refl (q : Nat) (a : Int) : CZ q a a := by unfold CZ; rw [Int.sub_self]; exact Int.dvd_zero _
theorem CZ.symm {q : Nat} {a b : Int} (h : CZ q a b) : CZ q b a := by
 obtain ⟨k, hk⟩ := h
 exact ⟨-k, by grind⟩
theorem CZ.trans {q : Nat} {a b c : Int} (h : CZ q a b) (g : CZ q b c) : CZ q a c := by
 obtain ⟨k, hk⟩ := h
 obtain ⟨j, hj⟩ := g
 exact ⟨k + j, by grind⟩
theorem CZ.add {q : Nat} {a b c d : Int} (h : CZ q a b) (g : CZ q c d) : CZ q (a + c) (b + d) := by
 obtain ⟨k, hk⟩ := h
 obtain ⟨j, hj⟩ := g
 exact ⟨k + j, by grind⟩
theorem CZ.mul {q : Nat} {a b c d : Int} (h : CZ q a b) (g : CZ q c d) : CZ q (a * c) (b * d) := by
 obtain ⟨k, hk⟩ := h
 obtain ⟨j, hj⟩ := g
 exact ⟨k * c + b * j, by grind⟩
/-- The code's way to a value: from the highest coefficient down. -/
def hoN (q x : Nat) : List Nat → Nat
 | [] => 0
 | c :: r => (hoN q x r * x % q + c) % q
theorem hoN_lt (q x : Nat) (hq : 0 < q) (l : List Nat) : hoN q x l < q := by
 cases l with
 | nil => exact hq
 | cons c r => exact Nat.mod_lt _ hq
end Go.Proofs.YtfkpbcionlidaaaDoor

namespace Go.Proofs.YtfkpbcionlidaaaDoor

end Go.Proofs.YtfkpbcionlidaaaDoor

namespace Go.Proofs.YtfkpbcionlidaaaDoor

end Go.Proofs.YtfkpbcionlidaaaDoor
