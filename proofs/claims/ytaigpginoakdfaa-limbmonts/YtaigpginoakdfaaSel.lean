/- limb.Select and limb.lessOnce: one of two numbers; and a number less the modulus once. -/
import Derived.Test.YtaigpginoakdfaaHold
namespace Go.Proofs.Ytaigpginoakdfaa
open Go.RowKit

theorem and_one (s : Nat) (h : s < 18446744073709551616) : bits .and .u64 (s : Int) 1 = ((s % 2 : Nat) : Int) := by
  have h := bits_and_u64_nat s 1 h (by omega)
  have e : s &&& 1 = s % 2 := Nat.and_two_pow_sub_one_eq_mod s 1
  rw [e] at h
  exact h

theorem select_odd (s a b : Nat) (hs : s < 18446744073709551616) (h : s % 2 = 1) (w : World) :
    Calls Try.prog 22 #[.int .u64 s, .agg #[.int .u64 (limb (a) 0 : Nat), .int .u64 (limb (a) 1 : Nat), .int .u64 (limb (a) 2 : Nat), .int .u64 (limb (a) 3 : Nat)], .agg #[.int .u64 (limb (b) 0 : Nat), .int .u64 (limb (b) 1 : Nat), .int .u64 (limb (b) 2 : Nat), .int .u64 (limb (b) 3 : Nat)]] w fun e w' => e = .returned (.agg #[.int .u64 (limb (a) 0 : Nat), .int .u64 (limb (a) 1 : Nat), .int .u64 (limb (a) 2 : Nat), .int .u64 (limb (a) 3 : Nat)]) ∧ Below w.heap.size w w' := by
  have e1 := and_one s hs
  rw [h] at e1
  clear h
  go_enter Try.func22, Try.ntmps22
  go_wp2
  refine bodyPost_ret (v := .agg #[.int .u64 (limb (a) 0 : Nat), .int .u64 (limb (a) 1 : Nat), .int .u64 (limb (a) 2 : Nat), .int .u64 (limb (a) 3 : Nat)]) ?_ rfl ⟨rfl, ?_⟩
  · simp [results, Try.results22, go_sem]
  · ((repeat' (first | with_reducible exact Below.refl _ _ | with_reducible refine Below.setCell ?_ ?_ _ | with_reducible refine below_alloc0 ?_ _ | with_reducible refine below_drewN ?_ _ | with_reducible refine Below.drew ?_ | refine below_call0 ?_ (by assumption))) <;> (first | omega | (simp; done) | (simp; omega)))

theorem select_even (s a b : Nat) (hs : s < 18446744073709551616) (h : s % 2 = 0) (w : World) :
    Calls Try.prog 22 #[.int .u64 s, .agg #[.int .u64 (limb (a) 0 : Nat), .int .u64 (limb (a) 1 : Nat), .int .u64 (limb (a) 2 : Nat), .int .u64 (limb (a) 3 : Nat)], .agg #[.int .u64 (limb (b) 0 : Nat), .int .u64 (limb (b) 1 : Nat), .int .u64 (limb (b) 2 : Nat), .int .u64 (limb (b) 3 : Nat)]] w fun e w' => e = .returned (.agg #[.int .u64 (limb (b) 0 : Nat), .int .u64 (limb (b) 1 : Nat), .int .u64 (limb (b) 2 : Nat), .int .u64 (limb (b) 3 : Nat)]) ∧ Below w.heap.size w w' := by
  have e1 := and_one s hs
  rw [h] at e1
  clear h
  go_enter Try.func22, Try.ntmps22
  go_wp2
  refine bodyPost_ret (v := .agg #[.int .u64 (limb (b) 0 : Nat), .int .u64 (limb (b) 1 : Nat), .int .u64 (limb (b) 2 : Nat), .int .u64 (limb (b) 3 : Nat)]) ?_ rfl ⟨rfl, ?_⟩
  · simp [results, Try.results22, go_sem]
  · ((repeat' (first | with_reducible exact Below.refl _ _ | with_reducible refine Below.setCell ?_ ?_ _ | with_reducible refine below_alloc0 ?_ _ | with_reducible refine below_drewN ?_ _ | with_reducible refine Below.drew ?_ | refine below_call0 ?_ (by assumption))) <;> (first | omega | (simp; done) | (simp; omega)))

def lessN (c a m : Nat) : Nat := if c = 1 ∨ m ≤ a then subN a m else a
theorem lessN_mod (c a m : Nat) (hc : c ≤ 1) (hm : m < R256) (h : c * R256 + a < 2 * m) : lessN c a m = (c * R256 + a) % m := by
  have c2 : c = 0 ∨ c = 1 := by omega
  unfold lessN
  rcases c2 with rfl | rfl
  · by_cases g : m ≤ a
    · rw [if_pos (Or.inr g)]
      unfold subN
      rw [show a + R256 - m = (a - m) + R256 from by omega, Nat.add_mod_right, Nat.mod_eq_of_lt (a := a - m) (by omega), Nat.zero_mul, Nat.zero_add, Nat.mod_eq_sub_mod g, Nat.mod_eq_of_lt (a := a - m) (by omega)]
    · rw [if_neg (by omega), Nat.zero_mul, Nat.zero_add, Nat.mod_eq_of_lt (by omega)]
  · rw [if_pos (Or.inl rfl)]
    unfold subN
    have g : m ≤ 1 * R256 + a := by omega
    rw [Nat.mod_eq_sub_mod g, Nat.mod_eq_of_lt (a := 1 * R256 + a - m) (by omega), show a + R256 - m = 1 * R256 + a - m from by omega, Nat.mod_eq_of_lt (by omega)]

set_option maxHeartbeats 1000000 in
theorem less_00 (a m : Nat) (ha : a < R256) (hm : m < R256) (h : m ≤ a) (w : World) :
    Calls Try.prog 43 #[.int .u64 0, .agg #[.int .u64 (limb (a) 0 : Nat), .int .u64 (limb (a) 1 : Nat), .int .u64 (limb (a) 2 : Nat), .int .u64 (limb (a) 3 : Nat)], .agg #[.int .u64 (limb (m) 0 : Nat), .int .u64 (limb (m) 1 : Nat), .int .u64 (limb (m) 2 : Nat), .int .u64 (limb (m) 3 : Nat)]] w fun e w' => e = .returned (.agg #[.int .u64 (limb (subN a m) 0 : Nat), .int .u64 (limb (subN a m) 1 : Nat), .int .u64 (limb (subN a m) 2 : Nat), .int .u64 (limb (subN a m) 3 : Nat)]) ∧ Below w.heap.size w w' := by
  have k1 : ∀ w, Calls Try.prog 10 #[.agg #[.int .u64 (limb (a) 0 : Nat), .int .u64 (limb (a) 1 : Nat), .int .u64 (limb (a) 2 : Nat), .int .u64 (limb (a) 3 : Nat)], .agg #[.int .u64 (limb (m) 0 : Nat), .int .u64 (limb (m) 1 : Nat), .int .u64 (limb (m) 2 : Nat), .int .u64 (limb (m) 3 : Nat)]] w fun e w' => e = .returned (.tuple #[.agg #[.int .u64 (limb (subN a m) 0 : Nat), .int .u64 (limb (subN a m) 1 : Nat), .int .u64 (limb (subN a m) 2 : Nat), .int .u64 (limb (subN a m) 3 : Nat)], .int .u64 0]) ∧ Below w.heap.size w w' := fun w => by
    have g := sub_any a m ha hm w
    rw [show subK a m = 0 from if_neg (by omega)] at g
    exact g
  have k2 := fun w => select_odd 18446744073709551615 (subN a m) a (by omega) (by decide) w
  have K1 : Hid _ := k1
  have K2 : Hid _ := k2
  clear k1 k2 h
  go_enter Try.func43, Try.ntmps43
  go_wp2_with fail
  refine (K1.out _).mono ?_
  rintro e w1 ⟨rfl, hb1⟩
  have hz1 := hb1.size
  try simp only [World.size_alloc] at hz1
  have A1 : Num4 w1 w.heap.size a := by ((repeat' (first | assumption | (refine Num4.new' ?_; first | omega | (simp; done)) | refine Num4.set ?_ ?_ | refine Num4.alloc ?_ ?_ | refine Num4.drewN ?_ | refine Num4.call ?_ (by assumption) ?_)) <;> (first | omega | (simp; done) | (simp; omega)))
  obtain ⟨a10, a11, a12, a13⟩ := A1.facts
  have z1 : w.heap.size < w1.heap.size := by omega
  have z2 : w.heap.size + 1 < w1.heap.size := by omega
  have z3 : w.heap.size + 1 + 1 < w1.heap.size := by omega
  obtain ⟨hc1, hf1⟩ := bcell hb1
  simp only [World.size_alloc] at hc1 hf1
  have P1 := Pend.call_new hb1
  simp only [World.size_alloc] at P1
  clear hc1 hf1
  go_wp2_with fail
  rw [show bits BinOp.or IntKind.u64 0 (bits BinOp.xor IntKind.u64 IntKind.u64.max 0) = ((18446744073709551615 : Nat) : Int) from by decide +kernel]
  refine (K2.out _).mono ?_
  rintro e w2 ⟨rfl, hb2⟩
  have P2 := Pend.call (Pend.call P1 ((Below.refl _ _).alloc (Nat.le_refl _) _)) hb2
  obtain ⟨⟨p0, p1, p2, p3⟩, ⟨q0, q1, q2, q3⟩, pz⟩ := P2.facts
  go_wp2
  refine bodyPost_ret (v := .agg #[.int .u64 (limb (subN a m) 0 : Nat), .int .u64 (limb (subN a m) 1 : Nat), .int .u64 (limb (subN a m) 2 : Nat), .int .u64 (limb (subN a m) 3 : Nat)]) ?_ rfl ⟨rfl, ?_⟩
  · simp [results, Try.results43, go_sem, p0, p1, p2, p3]
  · ((repeat' (first | with_reducible exact Below.refl _ _ | with_reducible refine Below.setCell ?_ ?_ _ | with_reducible refine below_alloc0 ?_ _ | with_reducible refine below_drewN ?_ _ | with_reducible refine Below.drew ?_ | refine below_call0 ?_ (by assumption))) <;> (first | omega | (simp; done) | (simp; omega)))

set_option maxHeartbeats 1000000 in
theorem less_01 (a m : Nat) (ha : a < R256) (hm : m < R256) (h : a < m) (w : World) :
    Calls Try.prog 43 #[.int .u64 0, .agg #[.int .u64 (limb (a) 0 : Nat), .int .u64 (limb (a) 1 : Nat), .int .u64 (limb (a) 2 : Nat), .int .u64 (limb (a) 3 : Nat)], .agg #[.int .u64 (limb (m) 0 : Nat), .int .u64 (limb (m) 1 : Nat), .int .u64 (limb (m) 2 : Nat), .int .u64 (limb (m) 3 : Nat)]] w fun e w' => e = .returned (.agg #[.int .u64 (limb (a) 0 : Nat), .int .u64 (limb (a) 1 : Nat), .int .u64 (limb (a) 2 : Nat), .int .u64 (limb (a) 3 : Nat)]) ∧ Below w.heap.size w w' := by
  have k1 : ∀ w, Calls Try.prog 10 #[.agg #[.int .u64 (limb (a) 0 : Nat), .int .u64 (limb (a) 1 : Nat), .int .u64 (limb (a) 2 : Nat), .int .u64 (limb (a) 3 : Nat)], .agg #[.int .u64 (limb (m) 0 : Nat), .int .u64 (limb (m) 1 : Nat), .int .u64 (limb (m) 2 : Nat), .int .u64 (limb (m) 3 : Nat)]] w fun e w' => e = .returned (.tuple #[.agg #[.int .u64 (limb (subN a m) 0 : Nat), .int .u64 (limb (subN a m) 1 : Nat), .int .u64 (limb (subN a m) 2 : Nat), .int .u64 (limb (subN a m) 3 : Nat)], .int .u64 1]) ∧ Below w.heap.size w w' := fun w => by
    have g := sub_any a m ha hm w
    rw [show subK a m = 1 from if_pos h] at g
    exact g
  have k2 := fun w => select_even 18446744073709551614 (subN a m) a (by omega) (by decide) w
  have K1 : Hid _ := k1
  have K2 : Hid _ := k2
  clear k1 k2 h
  go_enter Try.func43, Try.ntmps43
  go_wp2_with fail
  refine (K1.out _).mono ?_
  rintro e w1 ⟨rfl, hb1⟩
  have hz1 := hb1.size
  try simp only [World.size_alloc] at hz1
  have A1 : Num4 w1 w.heap.size a := by ((repeat' (first | assumption | (refine Num4.new' ?_; first | omega | (simp; done)) | refine Num4.set ?_ ?_ | refine Num4.alloc ?_ ?_ | refine Num4.drewN ?_ | refine Num4.call ?_ (by assumption) ?_)) <;> (first | omega | (simp; done) | (simp; omega)))
  obtain ⟨a10, a11, a12, a13⟩ := A1.facts
  have z1 : w.heap.size < w1.heap.size := by omega
  have z2 : w.heap.size + 1 < w1.heap.size := by omega
  have z3 : w.heap.size + 1 + 1 < w1.heap.size := by omega
  obtain ⟨hc1, hf1⟩ := bcell hb1
  simp only [World.size_alloc] at hc1 hf1
  have P1 := Pend.call_new hb1
  simp only [World.size_alloc] at P1
  clear hc1 hf1
  go_wp2_with fail
  rw [show bits BinOp.or IntKind.u64 0 (bits BinOp.xor IntKind.u64 IntKind.u64.max 1) = ((18446744073709551614 : Nat) : Int) from by decide +kernel]
  refine (K2.out _).mono ?_
  rintro e w2 ⟨rfl, hb2⟩
  have P2 := Pend.call (Pend.call P1 ((Below.refl _ _).alloc (Nat.le_refl _) _)) hb2
  obtain ⟨⟨p0, p1, p2, p3⟩, ⟨q0, q1, q2, q3⟩, pz⟩ := P2.facts
  go_wp2
  refine bodyPost_ret (v := .agg #[.int .u64 (limb (a) 0 : Nat), .int .u64 (limb (a) 1 : Nat), .int .u64 (limb (a) 2 : Nat), .int .u64 (limb (a) 3 : Nat)]) ?_ rfl ⟨rfl, ?_⟩
  · simp [results, Try.results43, go_sem, p0, p1, p2, p3]
  · ((repeat' (first | with_reducible exact Below.refl _ _ | with_reducible refine Below.setCell ?_ ?_ _ | with_reducible refine below_alloc0 ?_ _ | with_reducible refine below_drewN ?_ _ | with_reducible refine Below.drew ?_ | refine below_call0 ?_ (by assumption))) <;> (first | omega | (simp; done) | (simp; omega)))

set_option maxHeartbeats 1000000 in
theorem less_10 (a m : Nat) (ha : a < R256) (hm : m < R256) (h : m ≤ a) (w : World) :
    Calls Try.prog 43 #[.int .u64 1, .agg #[.int .u64 (limb (a) 0 : Nat), .int .u64 (limb (a) 1 : Nat), .int .u64 (limb (a) 2 : Nat), .int .u64 (limb (a) 3 : Nat)], .agg #[.int .u64 (limb (m) 0 : Nat), .int .u64 (limb (m) 1 : Nat), .int .u64 (limb (m) 2 : Nat), .int .u64 (limb (m) 3 : Nat)]] w fun e w' => e = .returned (.agg #[.int .u64 (limb (subN a m) 0 : Nat), .int .u64 (limb (subN a m) 1 : Nat), .int .u64 (limb (subN a m) 2 : Nat), .int .u64 (limb (subN a m) 3 : Nat)]) ∧ Below w.heap.size w w' := by
  have k1 : ∀ w, Calls Try.prog 10 #[.agg #[.int .u64 (limb (a) 0 : Nat), .int .u64 (limb (a) 1 : Nat), .int .u64 (limb (a) 2 : Nat), .int .u64 (limb (a) 3 : Nat)], .agg #[.int .u64 (limb (m) 0 : Nat), .int .u64 (limb (m) 1 : Nat), .int .u64 (limb (m) 2 : Nat), .int .u64 (limb (m) 3 : Nat)]] w fun e w' => e = .returned (.tuple #[.agg #[.int .u64 (limb (subN a m) 0 : Nat), .int .u64 (limb (subN a m) 1 : Nat), .int .u64 (limb (subN a m) 2 : Nat), .int .u64 (limb (subN a m) 3 : Nat)], .int .u64 0]) ∧ Below w.heap.size w w' := fun w => by
    have g := sub_any a m ha hm w
    rw [show subK a m = 0 from if_neg (by omega)] at g
    exact g
  have k2 := fun w => select_odd 18446744073709551615 (subN a m) a (by omega) (by decide) w
  have K1 : Hid _ := k1
  have K2 : Hid _ := k2
  clear k1 k2 h
  go_enter Try.func43, Try.ntmps43
  go_wp2_with fail
  refine (K1.out _).mono ?_
  rintro e w1 ⟨rfl, hb1⟩
  have hz1 := hb1.size
  try simp only [World.size_alloc] at hz1
  have A1 : Num4 w1 w.heap.size a := by ((repeat' (first | assumption | (refine Num4.new' ?_; first | omega | (simp; done)) | refine Num4.set ?_ ?_ | refine Num4.alloc ?_ ?_ | refine Num4.drewN ?_ | refine Num4.call ?_ (by assumption) ?_)) <;> (first | omega | (simp; done) | (simp; omega)))
  obtain ⟨a10, a11, a12, a13⟩ := A1.facts
  have z1 : w.heap.size < w1.heap.size := by omega
  have z2 : w.heap.size + 1 < w1.heap.size := by omega
  have z3 : w.heap.size + 1 + 1 < w1.heap.size := by omega
  obtain ⟨hc1, hf1⟩ := bcell hb1
  simp only [World.size_alloc] at hc1 hf1
  have P1 := Pend.call_new hb1
  simp only [World.size_alloc] at P1
  clear hc1 hf1
  go_wp2_with fail
  rw [show bits BinOp.or IntKind.u64 1 (bits BinOp.xor IntKind.u64 IntKind.u64.max 0) = ((18446744073709551615 : Nat) : Int) from by decide +kernel]
  refine (K2.out _).mono ?_
  rintro e w2 ⟨rfl, hb2⟩
  have P2 := Pend.call (Pend.call P1 ((Below.refl _ _).alloc (Nat.le_refl _) _)) hb2
  obtain ⟨⟨p0, p1, p2, p3⟩, ⟨q0, q1, q2, q3⟩, pz⟩ := P2.facts
  go_wp2
  refine bodyPost_ret (v := .agg #[.int .u64 (limb (subN a m) 0 : Nat), .int .u64 (limb (subN a m) 1 : Nat), .int .u64 (limb (subN a m) 2 : Nat), .int .u64 (limb (subN a m) 3 : Nat)]) ?_ rfl ⟨rfl, ?_⟩
  · simp [results, Try.results43, go_sem, p0, p1, p2, p3]
  · ((repeat' (first | with_reducible exact Below.refl _ _ | with_reducible refine Below.setCell ?_ ?_ _ | with_reducible refine below_alloc0 ?_ _ | with_reducible refine below_drewN ?_ _ | with_reducible refine Below.drew ?_ | refine below_call0 ?_ (by assumption))) <;> (first | omega | (simp; done) | (simp; omega)))

set_option maxHeartbeats 1000000 in
theorem less_11 (a m : Nat) (ha : a < R256) (hm : m < R256) (h : a < m) (w : World) :
    Calls Try.prog 43 #[.int .u64 1, .agg #[.int .u64 (limb (a) 0 : Nat), .int .u64 (limb (a) 1 : Nat), .int .u64 (limb (a) 2 : Nat), .int .u64 (limb (a) 3 : Nat)], .agg #[.int .u64 (limb (m) 0 : Nat), .int .u64 (limb (m) 1 : Nat), .int .u64 (limb (m) 2 : Nat), .int .u64 (limb (m) 3 : Nat)]] w fun e w' => e = .returned (.agg #[.int .u64 (limb (subN a m) 0 : Nat), .int .u64 (limb (subN a m) 1 : Nat), .int .u64 (limb (subN a m) 2 : Nat), .int .u64 (limb (subN a m) 3 : Nat)]) ∧ Below w.heap.size w w' := by
  have k1 : ∀ w, Calls Try.prog 10 #[.agg #[.int .u64 (limb (a) 0 : Nat), .int .u64 (limb (a) 1 : Nat), .int .u64 (limb (a) 2 : Nat), .int .u64 (limb (a) 3 : Nat)], .agg #[.int .u64 (limb (m) 0 : Nat), .int .u64 (limb (m) 1 : Nat), .int .u64 (limb (m) 2 : Nat), .int .u64 (limb (m) 3 : Nat)]] w fun e w' => e = .returned (.tuple #[.agg #[.int .u64 (limb (subN a m) 0 : Nat), .int .u64 (limb (subN a m) 1 : Nat), .int .u64 (limb (subN a m) 2 : Nat), .int .u64 (limb (subN a m) 3 : Nat)], .int .u64 1]) ∧ Below w.heap.size w w' := fun w => by
    have g := sub_any a m ha hm w
    rw [show subK a m = 1 from if_pos h] at g
    exact g
  have k2 := fun w => select_odd 18446744073709551615 (subN a m) a (by omega) (by decide) w
  have K1 : Hid _ := k1
  have K2 : Hid _ := k2
  clear k1 k2 h
  go_enter Try.func43, Try.ntmps43
  go_wp2_with fail
  refine (K1.out _).mono ?_
  rintro e w1 ⟨rfl, hb1⟩
  have hz1 := hb1.size
  try simp only [World.size_alloc] at hz1
  have A1 : Num4 w1 w.heap.size a := by ((repeat' (first | assumption | (refine Num4.new' ?_; first | omega | (simp; done)) | refine Num4.set ?_ ?_ | refine Num4.alloc ?_ ?_ | refine Num4.drewN ?_ | refine Num4.call ?_ (by assumption) ?_)) <;> (first | omega | (simp; done) | (simp; omega)))
  obtain ⟨a10, a11, a12, a13⟩ := A1.facts
  have z1 : w.heap.size < w1.heap.size := by omega
  have z2 : w.heap.size + 1 < w1.heap.size := by omega
  have z3 : w.heap.size + 1 + 1 < w1.heap.size := by omega
  obtain ⟨hc1, hf1⟩ := bcell hb1
  simp only [World.size_alloc] at hc1 hf1
  have P1 := Pend.call_new hb1
  simp only [World.size_alloc] at P1
  clear hc1 hf1
  go_wp2_with fail
  rw [show bits BinOp.or IntKind.u64 1 (bits BinOp.xor IntKind.u64 IntKind.u64.max 1) = ((18446744073709551615 : Nat) : Int) from by decide +kernel]
  refine (K2.out _).mono ?_
  rintro e w2 ⟨rfl, hb2⟩
  have P2 := Pend.call (Pend.call P1 ((Below.refl _ _).alloc (Nat.le_refl _) _)) hb2
  obtain ⟨⟨p0, p1, p2, p3⟩, ⟨q0, q1, q2, q3⟩, pz⟩ := P2.facts
  go_wp2
  refine bodyPost_ret (v := .agg #[.int .u64 (limb (subN a m) 0 : Nat), .int .u64 (limb (subN a m) 1 : Nat), .int .u64 (limb (subN a m) 2 : Nat), .int .u64 (limb (subN a m) 3 : Nat)]) ?_ rfl ⟨rfl, ?_⟩
  · simp [results, Try.results43, go_sem, p0, p1, p2, p3]
  · ((repeat' (first | with_reducible exact Below.refl _ _ | with_reducible refine Below.setCell ?_ ?_ _ | with_reducible refine below_alloc0 ?_ _ | with_reducible refine below_drewN ?_ _ | with_reducible refine Below.drew ?_ | refine below_call0 ?_ (by assumption))) <;> (first | omega | (simp; done) | (simp; omega)))

theorem lessOnce_any (c a m : Nat) (hc : c ≤ 1) (ha : a < R256) (hm : m < R256) (h : c * R256 + a < 2 * m) (w : World) :
    Calls Try.prog 43 #[.int .u64 c, .agg #[.int .u64 (limb (a) 0 : Nat), .int .u64 (limb (a) 1 : Nat), .int .u64 (limb (a) 2 : Nat), .int .u64 (limb (a) 3 : Nat)], .agg #[.int .u64 (limb (m) 0 : Nat), .int .u64 (limb (m) 1 : Nat), .int .u64 (limb (m) 2 : Nat), .int .u64 (limb (m) 3 : Nat)]] w fun e w' => e = .returned (.agg #[.int .u64 (limb ((c * R256 + a) % m) 0 : Nat), .int .u64 (limb ((c * R256 + a) % m) 1 : Nat), .int .u64 (limb ((c * R256 + a) % m) 2 : Nat), .int .u64 (limb ((c * R256 + a) % m) 3 : Nat)]) ∧ Below w.heap.size w w' := by
  rw [← lessN_mod c a m hc hm h]
  have c2 : c = 0 ∨ c = 1 := by omega
  rcases c2 with rfl | rfl
  · by_cases g : m ≤ a
    · rw [show lessN 0 a m = subN a m from if_pos (Or.inr g)]
      exact less_00 a m ha hm g w
    · rw [show lessN 0 a m = a from if_neg (by omega)]
      exact less_01 a m ha hm (by omega) w
  · rw [show lessN 1 a m = subN a m from if_pos (Or.inl rfl)]
    by_cases g : m ≤ a
    · exact less_10 a m ha hm g w
    · exact less_11 a m ha hm (by omega) w
end Go.Proofs.Ytaigpginoakdfaa
