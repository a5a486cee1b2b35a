/- How a number of four limbs that is handed in is read, and reads again. -/
import Derived.Test.YtgmfecncfekjfaaDoorLbA
import Derived.Test.YtgmfecncfekjfaaDoorRows
import Derived.ProofKit
import Derived.OpenShut
import Derived.Below
namespace Go.Proofs.YtgmfecncfekjfaaDoor
open Go.ChangeShapes Go.WideShapes Go.ChangeAt Go.RowKit

theorem Tryd.own : ownKnob Tryd.prog.godebug = none := by kernel_rfl
theorem cellsNum : Tryd.prog.cellsOf 24 = 4 := by kernel_rfl
theorem cellsLimb : Tryd.prog.cellsOf 22 = 1 := by kernel_rfl
theorem word_of_wf {x : Int} (h : (Lit.int .u64 x).wf = true) : ∃ n : Nat, x = (n : Int) ∧ n < M64 := by
  simp [Lit.wf, IntKind.min, IntKind.max, IntKind.signed, IntKind.bits] at h
  exact ⟨x.toNat, by omega, by unfold M64; omega⟩
end Go.Proofs.YtgmfecncfekjfaaDoor
