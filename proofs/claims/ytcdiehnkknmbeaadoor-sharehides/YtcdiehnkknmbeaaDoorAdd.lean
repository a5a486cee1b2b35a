/- limb.Add and limb.Sub: the sum and its carry, the difference and its borrow, of the numbers that the limbs are. -/
import Derived.Test.YtcdiehnkknmbeaaDoorAl
namespace Go.Proofs.YtcdiehnkknmbeaaDoor
open Go.RowKit

theorem bcell {W w1 : World} (hb : Below W.heap.size W w1) : (∀ b o, b < W.heap.size → w1.cell? ⟨b, o, none⟩ = W.cell? ⟨b, o, none⟩) ∧ (∀ b o, b < W.heap.size → w1.frozen? ⟨b, o, none⟩ = W.frozen? ⟨b, o, none⟩) :=
  ⟨fun b o h => hb.cell (p := ⟨b, o, none⟩) h, fun b o h => hb.frozen (p := ⟨b, o, none⟩) h⟩

theorem limbs4 (P : Nat → Prop) (h0 : P 0) (h1 : P 1) (h2 : P 2) (h3 : P 3) : ∀ j, j < 4 → P j := by
  intro j hj
  match j, hj with
  | 0, _ => exact h0
  | 1, _ => exact h1
  | 2, _ => exact h2
  | 3, _ => exact h3

theorem add_limbs (a b : Nat) (ha : a < R256) (hb : b < R256) : digs addS addC (limb a) (limb b) 0 = limb (addN a b) 0 ∧ digs addS addC (limb a) (limb b) 1 = limb (addN a b) 1 ∧ digs addS addC (limb a) (limb b) 2 = limb (addN a b) 2 ∧ digs addS addC (limb a) (limb b) 3 = limb (addN a b) 3 := by
  have h := (add_join a b ha hb).1
  rw [← h, digs_eq, digs_eq, digs_eq, digs_eq]
  exact ⟨(limb_join0 _ _ _ _ (addS_lt _ _ _)).symm, (limb_join1 _ _ _ _ (addS_lt _ _ _) (addS_lt _ _ _)).symm, (limb_join2 _ _ _ _ (addS_lt _ _ _) (addS_lt _ _ _) (addS_lt _ _ _)).symm, (limb_join3 _ _ _ _ (addS_lt _ _ _) (addS_lt _ _ _) (addS_lt _ _ _) (addS_lt _ _ _)).symm⟩
theorem sub_limbs (a b : Nat) (ha : a < R256) (hb : b < R256) : digs subS subB (limb a) (limb b) 0 = limb (subN a b) 0 ∧ digs subS subB (limb a) (limb b) 1 = limb (subN a b) 1 ∧ digs subS subB (limb a) (limb b) 2 = limb (subN a b) 2 ∧ digs subS subB (limb a) (limb b) 3 = limb (subN a b) 3 := by
  have h := (sub_join a b ha hb).1
  rw [← h, digs_eq, digs_eq, digs_eq, digs_eq]
  exact ⟨(limb_join0 _ _ _ _ (subS_lt _ _ _)).symm, (limb_join1 _ _ _ _ (subS_lt _ _ _) (subS_lt _ _ _)).symm, (limb_join2 _ _ _ _ (subS_lt _ _ _) (subS_lt _ _ _) (subS_lt _ _ _)).symm, (limb_join3 _ _ _ _ (subS_lt _ _ _) (subS_lt _ _ _) (subS_lt _ _ _) (subS_lt _ _ _)).symm⟩

theorem chain_c (a b : Nat) : ∀ k, chain addC (limb a) (limb b) k ≤ 1 := chain_add_le a b
theorem chain_d (a b : Nat) : ∀ k, chain subB (limb a) (limb b) k ≤ 1 := chain_sub_le _ _
theorem below_call0 {a W w1 : World} (h : Below a.heap.size a W) (h1 : Below W.heap.size W w1) : Below a.heap.size a w1 := h.trans (h1.mono h.size)
theorem below_alloc0 {a W : World} (h : Below a.heap.size a W) (o : Obj) : Below a.heap.size a (W.alloc o) := h.alloc h.size o
theorem below_call {B : Nat} {a W w1 : World} (h : Below B a W) (h1 : Below W.heap.size W w1) (hB : B ≤ W.heap.size) : Below B a w1 := h.trans (h1.mono hB)

set_option maxHeartbeats 1000000 in
theorem add_any (a b : Nat) (ha : a < R256) (hb : b < R256) (w : World) :
    Calls Tryd.prog 57 #[.agg #[.int .u64 (limb (a) 0 : Nat), .int .u64 (limb (a) 1 : Nat), .int .u64 (limb (a) 2 : Nat), .int .u64 (limb (a) 3 : Nat)], .agg #[.int .u64 (limb (b) 0 : Nat), .int .u64 (limb (b) 1 : Nat), .int .u64 (limb (b) 2 : Nat), .int .u64 (limb (b) 3 : Nat)]] w fun e w' => e = .returned (.tuple #[.agg #[.int .u64 (limb (addN a b) 0 : Nat), .int .u64 (limb (addN a b) 1 : Nat), .int .u64 (limb (addN a b) 2 : Nat), .int .u64 (limb (addN a b) 3 : Nat)], .int .u64 (addK a b)]) ∧ Below w.heap.size w w' := by
  obtain ⟨l0, l1, l2, l3⟩ := add_limbs a b ha hb
  have lk := (add_join a b ha hb).2
  have Hl := And.intro l0 (And.intro l1 (And.intro l2 (And.intro l3 lk)))
  have HL : Hid _ := Hl
  clear l0 l1 l2 l3 lk Hl
  go_enter Tryd.func57, Tryd.ntmps57
  go_wp2_with fail
  refine (along_plus _ _ (limb a) (limb b) _ ?_ ?_ ?_ ?_ (chain_c a b)).mono ?_
  · refine limbs4 _ ?_ ?_ ?_ ?_ <;> simp [go_sem]
  · refine limbs4 _ ?_ ?_ ?_ ?_ <;> simp [go_sem]
  · simp only [World.size_alloc]; omega
  · simp only [World.size_alloc]; omega
  · rintro e w1 ⟨rfl, hb1⟩
    obtain ⟨l0, l1, l2, l3, lk⟩ := HL.out
    rw [l0, l1, l2, l3, lk]
    clear l0 l1 l2 l3 lk HL
    obtain ⟨hc1, hf1⟩ := bcell hb1
    have hz := hb1.size
    simp only [World.size_alloc] at hc1 hf1 hz
    go_wp2
    refine bodyPost_ret (v := .tuple #[.agg #[.int .u64 (limb (addN a b) 0 : Nat), .int .u64 (limb (addN a b) 1 : Nat), .int .u64 (limb (addN a b) 2 : Nat), .int .u64 (limb (addN a b) 3 : Nat)], .int .u64 (addK a b)]) ?_ rfl ⟨rfl, ?_⟩
    · simp [results, Tryd.results57, go_sem, hc1]
    · ((repeat' (first | with_reducible exact Below.refl _ _ | with_reducible refine Below.setCell ?_ ?_ _ | with_reducible refine below_alloc0 ?_ _ | with_reducible refine below_drewN ?_ _ | with_reducible refine Below.drew ?_ | refine below_call0 ?_ (by assumption))) <;> (first | omega | (simp; done) | (simp; omega)))

set_option maxHeartbeats 1000000 in
theorem sub_any (a b : Nat) (ha : a < R256) (hb : b < R256) (w : World) :
    Calls Tryd.prog 56 #[.agg #[.int .u64 (limb (a) 0 : Nat), .int .u64 (limb (a) 1 : Nat), .int .u64 (limb (a) 2 : Nat), .int .u64 (limb (a) 3 : Nat)], .agg #[.int .u64 (limb (b) 0 : Nat), .int .u64 (limb (b) 1 : Nat), .int .u64 (limb (b) 2 : Nat), .int .u64 (limb (b) 3 : Nat)]] w fun e w' => e = .returned (.tuple #[.agg #[.int .u64 (limb (subN a b) 0 : Nat), .int .u64 (limb (subN a b) 1 : Nat), .int .u64 (limb (subN a b) 2 : Nat), .int .u64 (limb (subN a b) 3 : Nat)], .int .u64 (subK a b)]) ∧ Below w.heap.size w w' := by
  obtain ⟨l0, l1, l2, l3⟩ := sub_limbs a b ha hb
  have lk := (sub_join a b ha hb).2
  have Hl := And.intro l0 (And.intro l1 (And.intro l2 (And.intro l3 lk)))
  have HL : Hid _ := Hl
  clear l0 l1 l2 l3 lk Hl
  go_enter Tryd.func56, Tryd.ntmps56
  go_wp2_with fail
  refine (along_minus _ _ (limb a) (limb b) _ ?_ ?_ ?_ ?_ (chain_d a b)).mono ?_
  · refine limbs4 _ ?_ ?_ ?_ ?_ <;> simp [go_sem]
  · refine limbs4 _ ?_ ?_ ?_ ?_ <;> simp [go_sem]
  · simp only [World.size_alloc]; omega
  · simp only [World.size_alloc]; omega
  · rintro e w1 ⟨rfl, hb1⟩
    obtain ⟨l0, l1, l2, l3, lk⟩ := HL.out
    rw [l0, l1, l2, l3, lk]
    clear l0 l1 l2 l3 lk HL
    obtain ⟨hc1, hf1⟩ := bcell hb1
    have hz := hb1.size
    simp only [World.size_alloc] at hc1 hf1 hz
    go_wp2
    refine bodyPost_ret (v := .tuple #[.agg #[.int .u64 (limb (subN a b) 0 : Nat), .int .u64 (limb (subN a b) 1 : Nat), .int .u64 (limb (subN a b) 2 : Nat), .int .u64 (limb (subN a b) 3 : Nat)], .int .u64 (subK a b)]) ?_ rfl ⟨rfl, ?_⟩
    · simp [results, Tryd.results56, go_sem, hc1]
    · ((repeat' (first | with_reducible exact Below.refl _ _ | with_reducible refine Below.setCell ?_ ?_ _ | with_reducible refine below_alloc0 ?_ _ | with_reducible refine below_drewN ?_ _ | with_reducible refine Below.drew ?_ | refine below_call0 ?_ (by assumption))) <;> (first | omega | (simp; done) | (simp; omega)))

end Go.Proofs.YtcdiehnkknmbeaaDoor
