/- A drawn region where two operations may come up: a law of my own beside HeldN's; no program in sight. -/
import Derived.Test.YtgmfecncfekjfaaDoorHeldN
namespace Go.Proofs.YtgmfecncfekjfaaDoor
open Go

section
variable {P : Program} {ops : Array Oper} {Q : Exit → Act → World → Prop} {md : Region.Mode} {S : World → Prop} {n : Nat}
theorem wpAnyN_two {i j : Nat} {o p : Oper} {fuel : Nat} {listed : Array Bool} {a : Act} {w : World} (hr : Region.ready md ops listed = [i, j]) (ho : ops[i]? = some o) (hp : ops[j]? = some p)
    (hw : Region.wanted o (yielded ops a.tmps) = true) (hv : Region.wanted p (yielded ops a.tmps) = true)
    (h : ∀ K : Act → World → Prop, (∀ a' w', ((listed.setIfInBounds i true).getD n true = false → S w') ∧ wpAnyN P md ops Q S n fuel (listed.setIfInBounds i true) a' w' → K a' w') → Oper.wp P o a w K Q)
    (g : ∀ K : Act → World → Prop, (∀ a' w', ((listed.setIfInBounds j true).getD n true = false → S w') ∧ wpAnyN P md ops Q S n fuel (listed.setIfInBounds j true) a' w' → K a' w') → Oper.wp P p a w K Q) : wpAnyN P md ops Q S n (fuel + 1) listed a w := by
  refine ⟨fun h0 => (by rw [hr] at h0; cases h0), fun k hk => ?_⟩
  rw [hr] at hk
  have : k = i ∨ k = j := by simpa using hk
  rcases this with rfl | rfl
  · unfold wpOp
    simp only [ho, hw, if_true]
    exact .inl (h _ (fun _ _ x => x))
  · unfold wpOp
    simp only [hp, hv, if_true]
    exact .inl (g _ (fun _ _ x => x))
end
end Go.Proofs.YtgmfecncfekjfaaDoor
