/- The scalars' field, the code's and the reference's; Zero. -/
import Derived.Test.YtienklnigigepaaGreatDoorDmC
import Derived.Test.YtienklnigigepaaGreatDoorDmH
import Derived.Test.YtienklnigigepaaGreatDoorFdA
import Derived.Test.YtienklnigigepaaGreatDoorRef2R
import Derived.Test.YtienklnigigepaaGreatDoorFromB
import Derived.Test.YtienklnigigepaaGreatDoorFromR
namespace Go.Proofs.YtienklnigigepaaGreatDoor
open Go.RowKit
attribute [local go_sem] run_eq4

/-- The package's variable of the scalars' prime. -/
def GlobQ (w : World) : Prop := Num4 w 0 QQ ∧ 0 < w.heap.size
theorem GlobQ.call {W w1 : World} (h : GlobQ W) (hb : Below W.heap.size W w1) : GlobQ w1 := ⟨h.1.call hb h.2, Nat.lt_of_lt_of_le h.2 hb.size⟩
theorem GlobQ.alloc {W : World} {o : Obj} (h : GlobQ W) : GlobQ (W.alloc o) := h.call ((Below.refl _ _).alloc (Nat.le_refl _) o)
theorem GlobQ.drew {W : World} (h : GlobQ W) : GlobQ W.drew := h
theorem GlobQ.drewN {W : World} {k : Nat} (h : GlobQ W) : GlobQ (W.drewN k) := h
theorem scalars_any (w : World) (hG : GlobQ w) :
    Calls Tryz.prog 62 #[] w fun e w' => ∃ g, e = .returned (.pointer (some ⟨g, 0, none⟩)) ∧ FieldB w' g QQ ∧ Below w.heap.size w w' := by
  obtain ⟨m, hm⟩ : ∃ m, m = QQ := ⟨_, rfl⟩
  have k := newField_any QQ (by have := FM_Q.pos; omega) FM_Q.2.1
  obtain ⟨g0, g1, g2, g3⟩ := hG.1.facts
  rw [← hm] at k g0 g1 g2 g3
  rw [← hm]
  have K : Hid _ := k
  clear k hm hG
  go_enter Tryz.func62, Tryz.ntmps62
  go_wp2_with fail
  refine (K.out _).mono ?_
  rintro e w1 ⟨g, rfl, hF, hb1⟩
  go_wp2
  go_ret
  exact ⟨g, rfl, hF, hb1⟩

theorem limb_QQ : limb QQ 0 = 13822214165235122497 ∧ limb QQ 1 = 13451932020343611451 ∧ limb QQ 2 = 18446744073709551614 ∧ limb QQ 3 = 18446744073709551615 ∧ limb (R256 - QQ) 0 = 4624529908474429119 ∧ limb (R256 - QQ) 1 = 4994812053365940164 ∧ limb (R256 - QQ) 2 = 1 ∧ limb (R256 - QQ) 3 = 0 := by decide
theorem eq4_zero (a : Nat) (ha : a < R256) : eq4 (limb a 0 : Nat) (limb a 1 : Nat) (limb a 2 : Nat) (limb a 3 : Nat) 0 0 0 0 = decide (a = 0) := by
  have h := eq4_num a 0 ha (by decide)
  rw [limb_nought, limb_nought, limb_nought, limb_nought] at h
  exact h
end Go.Proofs.YtienklnigigepaaGreatDoor
