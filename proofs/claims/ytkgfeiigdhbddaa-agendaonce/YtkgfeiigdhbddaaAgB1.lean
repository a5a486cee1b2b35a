/- Package agenda: Less. -/
import Derived.Test.YtkgfeiigdhbddaaAgA
namespace Go.Proofs.Ytkgfeiigdhbddaa
open Go Go.RowKit Go.Lib
theorem en_cases (x y : En) : (x.m < y.m ∧ decide (eLt x y) = true) ∨ (y.m < x.m ∧ decide (eLt x y) = false) ∨ (x.m = y.m ∧ x.t < y.t ∧ decide (eLt x y) = true) ∨ (x.m = y.m ∧ y.t ≤ x.t ∧ decide (eLt x y) = false) := by
  have : x.m < y.m ∨ y.m < x.m ∨ (x.m = y.m ∧ x.t < y.t) ∨ (x.m = y.m ∧ y.t ≤ x.t) := by omega
  rcases this with h | h | ⟨h, h2⟩ | ⟨h, h2⟩
  · exact .inl ⟨h, decide_eq_true (.inl h)⟩
  · exact .inr (.inl ⟨h, decide_eq_false (by unfold eLt; omega)⟩)
  · exact .inr (.inr (.inl ⟨h, h2, decide_eq_true (.inr ⟨h, h2⟩)⟩))
  · exact .inr (.inr (.inr ⟨h, h2, decide_eq_false (by unfold eLt; omega)⟩))
set_option maxHeartbeats 1000000 in
theorem pless_in (g l q cap B n i j : Nat) (Z : Nat → Prop) (f : Nat → En) (p : Nat → Option Nat) (w : World) (hP : PileI w Z g l q cap B n f p) (hi : i < n) (hj : j < n) : Calls Try.prog 53 #[.pointer (some ⟨g, 0, none⟩), .int .i64 (i : Nat), .int .i64 (j : Nat)] w fun e w' => e = .returned (.bool (decide (eLt (f i) (f j)))) ∧ Below w.heap.size w w' := by
  have c0 := hP.c0
  have a0 := hP.rw.c0 i hi
  have a1 := hP.rw.c1 i hi
  have a2 := hP.rw.c2 i hi
  have b0 := hP.rw.c0 j hj
  have b1 := hP.rw.c1 j hj
  have b2 := hP.rw.c2 j hj
  have hl := hP.gl
  have hq := hP.rw.lt
  have i1 : ((i : Nat) : Int) < (n : Nat) := by omega
  have i2 : ((j : Nat) : Int) < (n : Nat) := by omega
  have HD : Hid _ := en_cases (f i) (f j)
  generalize hx : f i = x at *
  generalize hy : f j = y at *
  clear hP hx hy
  go_enter Try.func53, Try.ntmps53
  go_wp2_with fail
  go_region
  all_goals
    clear a0 a1 a2 b0 b1 b2 c0
    rcases HD.out with ⟨h, hd⟩ | ⟨h, hd⟩ | ⟨h, h2, hd⟩ | ⟨h, h2, hd⟩
    all_goals
      have HE : Hid _ := hd
      clear hd HD
    · have q1 : (x.m : Int) < (y.m : Int) := by omega
      go_wp2
      go_ret
      exact ⟨by rw [HE.out]; rfl, (below_alloc0 (below_alloc0 (Below.refl _ _) _) _).drew⟩
    · have q1 : ¬ ((x.m : Int) < (y.m : Int)) := by omega
      have q2 : ¬ ((x.m : Int) = (y.m : Int)) := by omega
      go_wp2
      go_ret
      exact ⟨by rw [HE.out]; rfl, (below_alloc0 (below_alloc0 (Below.refl _ _) _) _).drew⟩
    · have q2 : ((x.m : Int) = (y.m : Int)) := by omega
      have q1 : (x.t : Int) < (y.t : Int) := by omega
      go_wp2
      go_ret
      exact ⟨by rw [HE.out]; rfl, (below_alloc0 (below_alloc0 (Below.refl _ _) _) _).drew⟩
    · have q2 : ((x.m : Int) = (y.m : Int)) := by omega
      have q1 : ¬ ((x.t : Int) < (y.t : Int)) := by omega
      go_wp2
      go_ret
      exact ⟨by rw [HE.out]; rfl, (below_alloc0 (below_alloc0 (Below.refl _ _) _) _).drew⟩
end Go.Proofs.Ytkgfeiigdhbddaa
