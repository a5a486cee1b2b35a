/- A hash by the bytes alone; Hash.Len. -/
import Derived.Test.YtienklnigigepaaGreatDoorDSumW
namespace Go.Proofs.YtienklnigigepaaGreatDoor
open Go.RowKit

theorem word4_congr {b b' : Nat → Nat} (h : ∀ j, j < 64 → b j = b' j) (t : Nat) (ht : t < 16) : word4 b t = word4 b' t := by
  unfold word4
  rw [h (4 * t) (by omega), h (4 * t + 1) (by omega), h (4 * t + 2) (by omega), h (4 * t + 3) (by omega)]
theorem wl_congr {b b' : Nat → Nat} (h : ∀ j, j < 64 → b j = b' j) (t : Nat) : wl b t = wl b' t := by
  induction t with
  | zero => rfl
  | succ t ih =>
    unfold wl
    rw [ih]
    by_cases c : t < 16
    · simp only [if_pos c, word4_congr h t c]
    · simp only [if_neg c]
theorem wAt_congr {b b' : Nat → Nat} (h : ∀ j, j < 64 → b j = b' j) (t : Nat) : wAt b t = wAt b' t := by unfold wAt; rw [wl_congr h]
theorem rounds_congr {b b' : Nat → Nat} (h : ∀ j, j < 64 → b j = b' j) (x : E8) (t : Nat) : rounds b x t = rounds b' x t := by
  induction t with
  | zero => rfl
  | succ t ih => unfold rounds; rw [ih, wAt_congr h]
theorem hashAt_congr {T T' : Nat → Nat} (n : Nat) (h : ∀ j, j < 64 * n → T j = T' j) : hashAt T n = hashAt T' n := by
  induction n with
  | zero => rfl
  | succ n ih =>
    unfold hashAt
    rw [ih (fun j hj => h j (by omega))]
    unfold mixN
    rw [rounds_congr (b := fun j => T (64 * n + j)) (b' := fun j => T' (64 * n + j)) (fun j hj => h _ (by omega))]
theorem HashT.text {w : World} {g len : Nat} {T T' : Nat → Nat} (h : HashT w g T len) (e : ∀ j, j < len → T j = T' j) : HashT w g T' len := by
  obtain ⟨b, h1, h2⟩ := h
  refine ⟨b, fun j hj => (h1 j hj).trans (e _ (by omega)), ?_⟩
  rw [← hashAt_congr (T := T) (T' := T') (len / 64) (fun j hj => e j (by omega))]
  exact h2
end Go.Proofs.YtienklnigigepaaGreatDoor
