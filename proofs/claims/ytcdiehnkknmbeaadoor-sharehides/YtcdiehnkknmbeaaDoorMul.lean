/- limb.Mul: the product of two numbers, as eight limbs. -/
import Derived.Test.YtcdiehnkknmbeaaDoorMulA
import Derived.Test.YtcdiehnkknmbeaaDoorHold
namespace Go.Proofs.YtcdiehnkknmbeaaDoor
open Go.RowKit

/-- The eight limbs of a product by rows are those of the product. -/
theorem mul_limbs (a b : Nat) (ha : a < R256) (hb : b < R256) (x p q r : Nat → Nat)
    (hx : x = rowL (limb a 0) (limb b 0) (limb b 1) (limb b 2) (limb b 3) 0 0 0 0)
    (hp : p = rowL (limb a 1) (limb b 0) (limb b 1) (limb b 2) (limb b 3) (x 1) (x 2) (x 3) (x 4))
    (hq : q = rowL (limb a 2) (limb b 0) (limb b 1) (limb b 2) (limb b 3) (p 1) (p 2) (p 3) (p 4))
    (hr : r = rowL (limb a 3) (limb b 0) (limb b 1) (limb b 2) (limb b 3) (q 1) (q 2) (q 3) (q 4)) :
    ((x 1 < M64 ∧ x 2 < M64 ∧ x 3 < M64 ∧ x 4 < M64) ∧ (p 1 < M64 ∧ p 2 < M64 ∧ p 3 < M64 ∧ p 4 < M64) ∧ (q 1 < M64 ∧ q 2 < M64 ∧ q 3 < M64 ∧ q 4 < M64)) ∧
    limb (a * b) 0 = x 0 ∧ limb (a * b) 1 = p 0 ∧ limb (a * b) 2 = q 0 ∧ limb (a * b) 3 = r 0 ∧ limb (a * b) 4 = r 1 ∧ limb (a * b) 5 = r 2 ∧ limb (a * b) 6 = r 3 ∧ limb (a * b) 7 = r 4 := by
  have vx := row_val (limb a 0) (limb b 0) (limb b 1) (limb b 2) (limb b 3) 0 0 0 0
  have vp := row_val (limb a 1) (limb b 0) (limb b 1) (limb b 2) (limb b 3) (x 1) (x 2) (x 3) (x 4)
  have vq := row_val (limb a 2) (limb b 0) (limb b 1) (limb b 2) (limb b 3) (p 1) (p 2) (p 3) (p 4)
  have vr := row_val (limb a 3) (limb b 0) (limb b 1) (limb b 2) (limb b 3) (q 1) (q 2) (q 3) (q 4)
  have L := limb_lt
  obtain ⟨x0, x1, x2, x3, x4⟩ := row_lt (limb a 0) (limb b 0) (limb b 1) (limb b 2) (limb b 3) 0 0 0 0 (L _ _) (L _ _) (L _ _) (L _ _) (L _ _) M64_pos M64_pos M64_pos M64_pos
  rw [← hx] at vx x0 x1 x2 x3 x4
  obtain ⟨p0, p1, p2, p3, p4⟩ := row_lt (limb a 1) (limb b 0) (limb b 1) (limb b 2) (limb b 3) _ _ _ _ (L _ _) (L _ _) (L _ _) (L _ _) (L _ _) x1 x2 x3 x4
  rw [← hp] at vp p0 p1 p2 p3 p4
  obtain ⟨q0, q1, q2, q3, q4⟩ := row_lt (limb a 2) (limb b 0) (limb b 1) (limb b 2) (limb b 3) _ _ _ _ (L _ _) (L _ _) (L _ _) (L _ _) (L _ _) p1 p2 p3 p4
  rw [← hq] at vq q0 q1 q2 q3 q4
  obtain ⟨r0, r1, r2, r3, r4⟩ := row_lt (limb a 3) (limb b 0) (limb b 1) (limb b 2) (limb b 3) _ _ _ _ (L _ _) (L _ _) (L _ _) (L _ _) (L _ _) q1 q2 q3 q4
  rw [← hr] at vr r0 r1 r2 r3 r4
  rw [join_limb b hb] at vx vp vq vr
  have key := mul_key _ _ _ _ b _ _ _ _ _ _ _ _ _ _ _ _ _ _ _ _ _ _ _ _ vx vp vq vr
  rw [join_limb a ha] at key
  obtain ⟨l0, l1, l2, l3, l4, l5, l6, l7⟩ := limb_join8 _ _ _ _ _ _ _ _ x0 p0 q0 r0 r1 r2 r3 r4
  rw [key] at l0 l1 l2 l3 l4 l5 l6 l7
  exact ⟨⟨⟨x1, x2, x3, x4⟩, ⟨p1, p2, p3, p4⟩, q1, q2, q3, q4⟩, l0, l1, l2, l3, l4, l5, l6, l7⟩

set_option maxHeartbeats 2000000 in
theorem mul_any (a b : Nat) (ha : a < R256) (hb : b < R256) (w : World) :
    Calls Tryd.prog 70 #[.agg #[.int .u64 (limb (a) 0 : Nat), .int .u64 (limb (a) 1 : Nat), .int .u64 (limb (a) 2 : Nat), .int .u64 (limb (a) 3 : Nat)], .agg #[.int .u64 (limb (b) 0 : Nat), .int .u64 (limb (b) 1 : Nat), .int .u64 (limb (b) 2 : Nat), .int .u64 (limb (b) 3 : Nat)]] w fun e w' => e = .returned (.agg #[.int .u64 (limb (a * b) 0 : Nat), .int .u64 (limb (a * b) 1 : Nat), .int .u64 (limb (a * b) 2 : Nat), .int .u64 (limb (a * b) 3 : Nat), .int .u64 (limb (a * b) 4 : Nat), .int .u64 (limb (a * b) 5 : Nat), .int .u64 (limb (a * b) 6 : Nat), .int .u64 (limb (a * b) 7 : Nat)]) ∧ Below w.heap.size w w' := by
  obtain ⟨x, hx⟩ : ∃ x, x = rowL (limb a 0) (limb b 0) (limb b 1) (limb b 2) (limb b 3) 0 0 0 0 := ⟨_, rfl⟩
  obtain ⟨p, hp⟩ : ∃ p, p = rowL (limb a 1) (limb b 0) (limb b 1) (limb b 2) (limb b 3) (x 1) (x 2) (x 3) (x 4) := ⟨_, rfl⟩
  obtain ⟨q, hq⟩ : ∃ q, q = rowL (limb a 2) (limb b 0) (limb b 1) (limb b 2) (limb b 3) (p 1) (p 2) (p 3) (p 4) := ⟨_, rfl⟩
  obtain ⟨r, hr⟩ : ∃ r, r = rowL (limb a 3) (limb b 0) (limb b 1) (limb b 2) (limb b 3) (q 1) (q 2) (q 3) (q 4) := ⟨_, rfl⟩
  obtain ⟨⟨⟨x1, x2, x3, x4⟩, ⟨p1, p2, p3, p4⟩, q1, q2, q3, q4⟩, l0, l1, l2, l3, l4, l5, l6, l7⟩ := mul_limbs a b ha hb x p q r hx hp hq hr
  rw [l0, l1, l2, l3, l4, l5, l6, l7]
  clear l0 l1 l2 l3 l4 l5 l6 l7
  have L := limb_lt
  have Kx := fun (w : World) (B : Nat) => addRow_any B (limb a 0) (limb b 0) (limb b 1) (limb b 2) (limb b 3) 0 0 0 0 (L _ _) (L _ _) (L _ _) (L _ _) (L _ _) M64_pos M64_pos M64_pos M64_pos w
  have Kp := fun (w : World) (B : Nat) => addRow_any B (limb a 1) (limb b 0) (limb b 1) (limb b 2) (limb b 3) _ _ _ _ (L _ _) (L _ _) (L _ _) (L _ _) (L _ _) x1 x2 x3 x4 w
  have Kq := fun (w : World) (B : Nat) => addRow_any B (limb a 2) (limb b 0) (limb b 1) (limb b 2) (limb b 3) _ _ _ _ (L _ _) (L _ _) (L _ _) (L _ _) (L _ _) p1 p2 p3 p4 w
  have Kr := fun (w : World) (B : Nat) => addRow_any B (limb a 3) (limb b 0) (limb b 1) (limb b 2) (limb b 3) _ _ _ _ (L _ _) (L _ _) (L _ _) (L _ _) (L _ _) q1 q2 q3 q4 w
  rw [← hx] at Kx
  rw [← hp] at Kp
  rw [← hq] at Kq
  rw [← hr] at Kr
  clear hx hp hq hr L x1 x2 x3 x4 p1 p2 p3 p4 q1 q2 q3 q4
  have Hx : Hid _ := Kx
  have Hp : Hid _ := Kp
  have Hq : Hid _ := Kq
  have Hr : Hid _ := Kr
  clear Kx Kp Kq Kr
  go_enter Tryd.func70, Tryd.ntmps70
  go_wp2_with fail
  refine (Hx.out _ _ (by simp [go_sem]) (by simp [go_sem]) (by simp [go_sem]) (by simp [go_sem])).mono ?_
  rintro e w' ⟨rfl, rfl⟩
  go_wp2_with fail
  refine (Hp.out _ _ (by simp [go_sem]) (by simp [go_sem]) (by simp [go_sem]) (by simp [go_sem])).mono ?_
  rintro e w' ⟨rfl, rfl⟩
  go_wp2_with fail
  refine (Hq.out _ _ (by simp [go_sem]) (by simp [go_sem]) (by simp [go_sem]) (by simp [go_sem])).mono ?_
  rintro e w' ⟨rfl, rfl⟩
  go_wp2_with fail
  refine (Hr.out _ _ (by simp [go_sem]) (by simp [go_sem]) (by simp [go_sem]) (by simp [go_sem])).mono ?_
  rintro e w' ⟨rfl, rfl⟩
  go_wp2
  refine bodyPost_ret (v := .agg #[.int .u64 (x 0 : Nat), .int .u64 (p 0 : Nat), .int .u64 (q 0 : Nat), .int .u64 (r 0 : Nat), .int .u64 (r 1 : Nat), .int .u64 (r 2 : Nat), .int .u64 (r 3 : Nat), .int .u64 (r 4 : Nat)]) ?_ rfl ⟨rfl, ?_⟩
  · simp [results, Tryd.results70, go_sem]
  · ((repeat' (first | with_reducible exact Below.refl _ _ | with_reducible refine Below.setCell ?_ ?_ _ | with_reducible refine below_alloc0 ?_ _ | with_reducible refine below_drewN ?_ _ | with_reducible refine Below.drew ?_ | refine below_call0 ?_ (by assumption))) <;> (first | omega | (simp; done) | (simp; omega)))
end Go.Proofs.YtcdiehnkknmbeaaDoor
