/- The walk of the statement LimbOrder. -/
import Derived.Test.YtpedidldhlldfabTurns
import Derived.Test.YtpedidldhlldfabCmp
import Derived.Test.YtpedidldhlldfabHold
namespace Go.Proofs.Ytpedidldhlldfab
open Go.RowKit
attribute [local go_sem] run_eq4

set_option maxHeartbeats 1000000 in
theorem order_lt (a b : Nat) (ha : a < R256) (hb : b < R256) (h : a < b) (w : World) : Calls Try.prog 6 #[.agg #[.int .u64 (limb (a) 0 : Nat), .int .u64 (limb (a) 1 : Nat), .int .u64 (limb (a) 2 : Nat), .int .u64 (limb (a) 3 : Nat)], .agg #[.int .u64 (limb (b) 0 : Nat), .int .u64 (limb (b) 1 : Nat), .int .u64 (limb (b) 2 : Nat), .int .u64 (limb (b) 3 : Nat)]] w fun e w' => e = .returned (.bool true) ∧ Below w.heap.size w w' := by
  have k1 : ∀ w, Calls Try.prog 8 #[.agg #[.int .u64 (limb (a) 0 : Nat), .int .u64 (limb (a) 1 : Nat), .int .u64 (limb (a) 2 : Nat), .int .u64 (limb (a) 3 : Nat)], .agg #[.int .u64 (limb (b) 0 : Nat), .int .u64 (limb (b) 1 : Nat), .int .u64 (limb (b) 2 : Nat), .int .u64 (limb (b) 3 : Nat)]] w fun e w' => e = .returned (.tuple #[.agg #[.int .u64 (limb (subN a b) 0 : Nat), .int .u64 (limb (subN a b) 1 : Nat), .int .u64 (limb (subN a b) 2 : Nat), .int .u64 (limb (subN a b) 3 : Nat)], .int .u64 1]) ∧ Below w.heap.size w w' := fun w => by
    have g := sub_any a b ha hb w
    rw [show subK a b = 1 from if_pos h] at g
    exact g
  have k2 : ∀ w, Calls Try.prog 8 #[.agg #[.int .u64 (limb (b) 0 : Nat), .int .u64 (limb (b) 1 : Nat), .int .u64 (limb (b) 2 : Nat), .int .u64 (limb (b) 3 : Nat)], .agg #[.int .u64 (limb (a) 0 : Nat), .int .u64 (limb (a) 1 : Nat), .int .u64 (limb (a) 2 : Nat), .int .u64 (limb (a) 3 : Nat)]] w fun e w' => e = .returned (.tuple #[.agg #[.int .u64 (limb (subN b a) 0 : Nat), .int .u64 (limb (subN b a) 1 : Nat), .int .u64 (limb (subN b a) 2 : Nat), .int .u64 (limb (subN b a) 3 : Nat)], .int .u64 0]) ∧ Below w.heap.size w w' := fun w => by
    have g := sub_any b a hb ha w
    rw [show subK b a = 0 from if_neg (by omega)] at g
    exact g
  have k3 : ∀ w, Calls Try.prog 17 #[.agg #[.int .u64 (limb (a) 0 : Nat), .int .u64 (limb (a) 1 : Nat), .int .u64 (limb (a) 2 : Nat), .int .u64 (limb (a) 3 : Nat)], .agg #[.int .u64 (limb (b) 0 : Nat), .int .u64 (limb (b) 1 : Nat), .int .u64 (limb (b) 2 : Nat), .int .u64 (limb (b) 3 : Nat)]] w fun e w' => e = .returned (.int .i64 (-1)) ∧ Below w.heap.size w w' := fun w => by
    have g := cmp_any a b ha hb w
    rw [show cmpN a b = (-1) from cmpN_lt h] at g
    exact g
  have k4 : ∀ w, Calls Try.prog 17 #[.agg #[.int .u64 (limb (b) 0 : Nat), .int .u64 (limb (b) 1 : Nat), .int .u64 (limb (b) 2 : Nat), .int .u64 (limb (b) 3 : Nat)], .agg #[.int .u64 (limb (a) 0 : Nat), .int .u64 (limb (a) 1 : Nat), .int .u64 (limb (a) 2 : Nat), .int .u64 (limb (a) 3 : Nat)]] w fun e w' => e = .returned (.int .i64 1) ∧ Below w.heap.size w w' := fun w => by
    have g := cmp_any b a hb ha w
    rw [show cmpN b a = 1 from cmpN_gt h] at g
    exact g
  have K1 : Hid _ := k1
  have K2 : Hid _ := k2
  have K3 : Hid _ := k3
  have K4 : Hid _ := k4
  have q : eq4 (limb a 0 : Nat) (limb a 1 : Nat) (limb a 2 : Nat) (limb a 3 : Nat) (limb b 0 : Nat) (limb b 1 : Nat) (limb b 2 : Nat) (limb b 3 : Nat) = false := (eq4_num a b ha hb).trans (decide_eq_false (by omega))
  clear k1 k2 k3 k4 h
  go_enter Try.func6, Try.ntmps6
  go_wp2_with fail
  refine (K1.out _).mono ?_
  rintro e w1 ⟨rfl, hb1⟩
  have hz1 := hb1.size
  try simp only [World.size_alloc] at hz1
  have A1 : Num4 w1 w.heap.size a := by ((repeat' (first | assumption | (refine Num4.new' ?_; first | omega | (simp; done)) | refine Num4.set ?_ ?_ | refine Num4.alloc ?_ ?_ | refine Num4.drewN ?_ | refine Num4.call ?_ (by assumption) ?_)) <;> (first | omega | (simp; done) | (simp; omega)))
  have B1 : Num4 w1 (w.heap.size + 1) b := by ((repeat' (first | assumption | (refine Num4.new' ?_; first | omega | (simp; done)) | refine Num4.set ?_ ?_ | refine Num4.alloc ?_ ?_ | refine Num4.drewN ?_ | refine Num4.call ?_ (by assumption) ?_)) <;> (first | omega | (simp; done) | (simp; omega)))
  obtain ⟨a10, a11, a12, a13⟩ := A1.facts
  obtain ⟨b10, b11, b12, b13⟩ := B1.facts
  have z1 : w.heap.size < w1.heap.size := by omega
  have y1 : w.heap.size + 1 < w1.heap.size := by omega
  go_wp2_with fail
  refine (K2.out _).mono ?_
  rintro e w2 ⟨rfl, hb2⟩
  have hz2 := hb2.size
  try simp only [World.size_alloc] at hz2
  have A2 : Num4 w2 w.heap.size a := by ((repeat' (first | assumption | (refine Num4.new' ?_; first | omega | (simp; done)) | refine Num4.set ?_ ?_ | refine Num4.alloc ?_ ?_ | refine Num4.drewN ?_ | refine Num4.call ?_ (by assumption) ?_)) <;> (first | omega | (simp; done) | (simp; omega)))
  have B2 : Num4 w2 (w.heap.size + 1) b := by ((repeat' (first | assumption | (refine Num4.new' ?_; first | omega | (simp; done)) | refine Num4.set ?_ ?_ | refine Num4.alloc ?_ ?_ | refine Num4.drewN ?_ | refine Num4.call ?_ (by assumption) ?_)) <;> (first | omega | (simp; done) | (simp; omega)))
  obtain ⟨a20, a21, a22, a23⟩ := A2.facts
  obtain ⟨b20, b21, b22, b23⟩ := B2.facts
  have z2 : w.heap.size < w2.heap.size := by omega
  have y2 : w.heap.size + 1 < w2.heap.size := by omega
  go_wp2_with fail
  refine (K3.out _).mono ?_
  rintro e w3 ⟨rfl, hb3⟩
  have hz3 := hb3.size
  try simp only [World.size_alloc] at hz3
  have A3 : Num4 w3 w.heap.size a := by ((repeat' (first | assumption | (refine Num4.new' ?_; first | omega | (simp; done)) | refine Num4.set ?_ ?_ | refine Num4.alloc ?_ ?_ | refine Num4.drewN ?_ | refine Num4.call ?_ (by assumption) ?_)) <;> (first | omega | (simp; done) | (simp; omega)))
  have B3 : Num4 w3 (w.heap.size + 1) b := by ((repeat' (first | assumption | (refine Num4.new' ?_; first | omega | (simp; done)) | refine Num4.set ?_ ?_ | refine Num4.alloc ?_ ?_ | refine Num4.drewN ?_ | refine Num4.call ?_ (by assumption) ?_)) <;> (first | omega | (simp; done) | (simp; omega)))
  obtain ⟨a30, a31, a32, a33⟩ := A3.facts
  obtain ⟨b30, b31, b32, b33⟩ := B3.facts
  have z3 : w.heap.size < w3.heap.size := by omega
  have y3 : w.heap.size + 1 < w3.heap.size := by omega
  go_wp2_with fail
  refine (K4.out _).mono ?_
  rintro e w4 ⟨rfl, hb4⟩
  have hz4 := hb4.size
  try simp only [World.size_alloc] at hz4
  go_wp2_with fail
  refine (turns_any _).mono ?_
  rintro e w5 ⟨rfl, hb5⟩
  have hz5 := hb5.size
  try simp only [World.size_alloc] at hz5
  go_wp2
  go_ret
  exact ⟨rfl, by ((repeat' (first | with_reducible exact Below.refl _ _ | with_reducible refine Below.setCell ?_ ?_ _ | with_reducible refine below_alloc0 ?_ _ | with_reducible refine below_drewN ?_ _ | with_reducible refine Below.drew ?_ | refine below_call0 ?_ (by assumption))) <;> (first | omega | (simp; done) | (simp; omega)))⟩

set_option maxHeartbeats 1000000 in
theorem order_gt (a b : Nat) (ha : a < R256) (hb : b < R256) (h : b < a) (w : World) : Calls Try.prog 6 #[.agg #[.int .u64 (limb (a) 0 : Nat), .int .u64 (limb (a) 1 : Nat), .int .u64 (limb (a) 2 : Nat), .int .u64 (limb (a) 3 : Nat)], .agg #[.int .u64 (limb (b) 0 : Nat), .int .u64 (limb (b) 1 : Nat), .int .u64 (limb (b) 2 : Nat), .int .u64 (limb (b) 3 : Nat)]] w fun e w' => e = .returned (.bool true) ∧ Below w.heap.size w w' := by
  have k1 : ∀ w, Calls Try.prog 8 #[.agg #[.int .u64 (limb (a) 0 : Nat), .int .u64 (limb (a) 1 : Nat), .int .u64 (limb (a) 2 : Nat), .int .u64 (limb (a) 3 : Nat)], .agg #[.int .u64 (limb (b) 0 : Nat), .int .u64 (limb (b) 1 : Nat), .int .u64 (limb (b) 2 : Nat), .int .u64 (limb (b) 3 : Nat)]] w fun e w' => e = .returned (.tuple #[.agg #[.int .u64 (limb (subN a b) 0 : Nat), .int .u64 (limb (subN a b) 1 : Nat), .int .u64 (limb (subN a b) 2 : Nat), .int .u64 (limb (subN a b) 3 : Nat)], .int .u64 0]) ∧ Below w.heap.size w w' := fun w => by
    have g := sub_any a b ha hb w
    rw [show subK a b = 0 from if_neg (by omega)] at g
    exact g
  have k2 : ∀ w, Calls Try.prog 8 #[.agg #[.int .u64 (limb (b) 0 : Nat), .int .u64 (limb (b) 1 : Nat), .int .u64 (limb (b) 2 : Nat), .int .u64 (limb (b) 3 : Nat)], .agg #[.int .u64 (limb (a) 0 : Nat), .int .u64 (limb (a) 1 : Nat), .int .u64 (limb (a) 2 : Nat), .int .u64 (limb (a) 3 : Nat)]] w fun e w' => e = .returned (.tuple #[.agg #[.int .u64 (limb (subN b a) 0 : Nat), .int .u64 (limb (subN b a) 1 : Nat), .int .u64 (limb (subN b a) 2 : Nat), .int .u64 (limb (subN b a) 3 : Nat)], .int .u64 1]) ∧ Below w.heap.size w w' := fun w => by
    have g := sub_any b a hb ha w
    rw [show subK b a = 1 from if_pos h] at g
    exact g
  have k3 : ∀ w, Calls Try.prog 17 #[.agg #[.int .u64 (limb (a) 0 : Nat), .int .u64 (limb (a) 1 : Nat), .int .u64 (limb (a) 2 : Nat), .int .u64 (limb (a) 3 : Nat)], .agg #[.int .u64 (limb (b) 0 : Nat), .int .u64 (limb (b) 1 : Nat), .int .u64 (limb (b) 2 : Nat), .int .u64 (limb (b) 3 : Nat)]] w fun e w' => e = .returned (.int .i64 1) ∧ Below w.heap.size w w' := fun w => by
    have g := cmp_any a b ha hb w
    rw [show cmpN a b = 1 from cmpN_gt h] at g
    exact g
  have k4 : ∀ w, Calls Try.prog 17 #[.agg #[.int .u64 (limb (b) 0 : Nat), .int .u64 (limb (b) 1 : Nat), .int .u64 (limb (b) 2 : Nat), .int .u64 (limb (b) 3 : Nat)], .agg #[.int .u64 (limb (a) 0 : Nat), .int .u64 (limb (a) 1 : Nat), .int .u64 (limb (a) 2 : Nat), .int .u64 (limb (a) 3 : Nat)]] w fun e w' => e = .returned (.int .i64 (-1)) ∧ Below w.heap.size w w' := fun w => by
    have g := cmp_any b a hb ha w
    rw [show cmpN b a = (-1) from cmpN_lt h] at g
    exact g
  have K1 : Hid _ := k1
  have K2 : Hid _ := k2
  have K3 : Hid _ := k3
  have K4 : Hid _ := k4
  have q : eq4 (limb a 0 : Nat) (limb a 1 : Nat) (limb a 2 : Nat) (limb a 3 : Nat) (limb b 0 : Nat) (limb b 1 : Nat) (limb b 2 : Nat) (limb b 3 : Nat) = false := (eq4_num a b ha hb).trans (decide_eq_false (by omega))
  clear k1 k2 k3 k4 h
  go_enter Try.func6, Try.ntmps6
  go_wp2_with fail
  refine (K1.out _).mono ?_
  rintro e w1 ⟨rfl, hb1⟩
  have hz1 := hb1.size
  try simp only [World.size_alloc] at hz1
  have A1 : Num4 w1 w.heap.size a := by ((repeat' (first | assumption | (refine Num4.new' ?_; first | omega | (simp; done)) | refine Num4.set ?_ ?_ | refine Num4.alloc ?_ ?_ | refine Num4.drewN ?_ | refine Num4.call ?_ (by assumption) ?_)) <;> (first | omega | (simp; done) | (simp; omega)))
  have B1 : Num4 w1 (w.heap.size + 1) b := by ((repeat' (first | assumption | (refine Num4.new' ?_; first | omega | (simp; done)) | refine Num4.set ?_ ?_ | refine Num4.alloc ?_ ?_ | refine Num4.drewN ?_ | refine Num4.call ?_ (by assumption) ?_)) <;> (first | omega | (simp; done) | (simp; omega)))
  obtain ⟨a10, a11, a12, a13⟩ := A1.facts
  obtain ⟨b10, b11, b12, b13⟩ := B1.facts
  have z1 : w.heap.size < w1.heap.size := by omega
  have y1 : w.heap.size + 1 < w1.heap.size := by omega
  go_wp2_with fail
  refine (K2.out _).mono ?_
  rintro e w2 ⟨rfl, hb2⟩
  have hz2 := hb2.size
  try simp only [World.size_alloc] at hz2
  have A2 : Num4 w2 w.heap.size a := by ((repeat' (first | assumption | (refine Num4.new' ?_; first | omega | (simp; done)) | refine Num4.set ?_ ?_ | refine Num4.alloc ?_ ?_ | refine Num4.drewN ?_ | refine Num4.call ?_ (by assumption) ?_)) <;> (first | omega | (simp; done) | (simp; omega)))
  have B2 : Num4 w2 (w.heap.size + 1) b := by ((repeat' (first | assumption | (refine Num4.new' ?_; first | omega | (simp; done)) | refine Num4.set ?_ ?_ | refine Num4.alloc ?_ ?_ | refine Num4.drewN ?_ | refine Num4.call ?_ (by assumption) ?_)) <;> (first | omega | (simp; done) | (simp; omega)))
  obtain ⟨a20, a21, a22, a23⟩ := A2.facts
  obtain ⟨b20, b21, b22, b23⟩ := B2.facts
  have z2 : w.heap.size < w2.heap.size := by omega
  have y2 : w.heap.size + 1 < w2.heap.size := by omega
  go_wp2_with fail
  refine (K3.out _).mono ?_
  rintro e w3 ⟨rfl, hb3⟩
  have hz3 := hb3.size
  try simp only [World.size_alloc] at hz3
  have A3 : Num4 w3 w.heap.size a := by ((repeat' (first | assumption | (refine Num4.new' ?_; first | omega | (simp; done)) | refine Num4.set ?_ ?_ | refine Num4.alloc ?_ ?_ | refine Num4.drewN ?_ | refine Num4.call ?_ (by assumption) ?_)) <;> (first | omega | (simp; done) | (simp; omega)))
  have B3 : Num4 w3 (w.heap.size + 1) b := by ((repeat' (first | assumption | (refine Num4.new' ?_; first | omega | (simp; done)) | refine Num4.set ?_ ?_ | refine Num4.alloc ?_ ?_ | refine Num4.drewN ?_ | refine Num4.call ?_ (by assumption) ?_)) <;> (first | omega | (simp; done) | (simp; omega)))
  obtain ⟨a30, a31, a32, a33⟩ := A3.facts
  obtain ⟨b30, b31, b32, b33⟩ := B3.facts
  have z3 : w.heap.size < w3.heap.size := by omega
  have y3 : w.heap.size + 1 < w3.heap.size := by omega
  go_wp2_with fail
  refine (K4.out _).mono ?_
  rintro e w4 ⟨rfl, hb4⟩
  have hz4 := hb4.size
  try simp only [World.size_alloc] at hz4
  go_wp2_with fail
  refine (turns_any _).mono ?_
  rintro e w5 ⟨rfl, hb5⟩
  have hz5 := hb5.size
  try simp only [World.size_alloc] at hz5
  go_wp2
  go_ret
  exact ⟨rfl, by ((repeat' (first | with_reducible exact Below.refl _ _ | with_reducible refine Below.setCell ?_ ?_ _ | with_reducible refine below_alloc0 ?_ _ | with_reducible refine below_drewN ?_ _ | with_reducible refine Below.drew ?_ | refine below_call0 ?_ (by assumption))) <;> (first | omega | (simp; done) | (simp; omega)))⟩

set_option maxHeartbeats 1000000 in
theorem order_eq (a b : Nat) (ha : a < R256) (hb : b < R256) (h : a = b) (w : World) : Calls Try.prog 6 #[.agg #[.int .u64 (limb (a) 0 : Nat), .int .u64 (limb (a) 1 : Nat), .int .u64 (limb (a) 2 : Nat), .int .u64 (limb (a) 3 : Nat)], .agg #[.int .u64 (limb (b) 0 : Nat), .int .u64 (limb (b) 1 : Nat), .int .u64 (limb (b) 2 : Nat), .int .u64 (limb (b) 3 : Nat)]] w fun e w' => e = .returned (.bool true) ∧ Below w.heap.size w w' := by
  have k1 : ∀ w, Calls Try.prog 8 #[.agg #[.int .u64 (limb (a) 0 : Nat), .int .u64 (limb (a) 1 : Nat), .int .u64 (limb (a) 2 : Nat), .int .u64 (limb (a) 3 : Nat)], .agg #[.int .u64 (limb (b) 0 : Nat), .int .u64 (limb (b) 1 : Nat), .int .u64 (limb (b) 2 : Nat), .int .u64 (limb (b) 3 : Nat)]] w fun e w' => e = .returned (.tuple #[.agg #[.int .u64 (limb (subN a b) 0 : Nat), .int .u64 (limb (subN a b) 1 : Nat), .int .u64 (limb (subN a b) 2 : Nat), .int .u64 (limb (subN a b) 3 : Nat)], .int .u64 0]) ∧ Below w.heap.size w w' := fun w => by
    have g := sub_any a b ha hb w
    rw [show subK a b = 0 from if_neg (by omega)] at g
    exact g
  have k2 : ∀ w, Calls Try.prog 8 #[.agg #[.int .u64 (limb (b) 0 : Nat), .int .u64 (limb (b) 1 : Nat), .int .u64 (limb (b) 2 : Nat), .int .u64 (limb (b) 3 : Nat)], .agg #[.int .u64 (limb (a) 0 : Nat), .int .u64 (limb (a) 1 : Nat), .int .u64 (limb (a) 2 : Nat), .int .u64 (limb (a) 3 : Nat)]] w fun e w' => e = .returned (.tuple #[.agg #[.int .u64 (limb (subN b a) 0 : Nat), .int .u64 (limb (subN b a) 1 : Nat), .int .u64 (limb (subN b a) 2 : Nat), .int .u64 (limb (subN b a) 3 : Nat)], .int .u64 0]) ∧ Below w.heap.size w w' := fun w => by
    have g := sub_any b a hb ha w
    rw [show subK b a = 0 from if_neg (by omega)] at g
    exact g
  have k3 : ∀ w, Calls Try.prog 17 #[.agg #[.int .u64 (limb (a) 0 : Nat), .int .u64 (limb (a) 1 : Nat), .int .u64 (limb (a) 2 : Nat), .int .u64 (limb (a) 3 : Nat)], .agg #[.int .u64 (limb (b) 0 : Nat), .int .u64 (limb (b) 1 : Nat), .int .u64 (limb (b) 2 : Nat), .int .u64 (limb (b) 3 : Nat)]] w fun e w' => e = .returned (.int .i64 0) ∧ Below w.heap.size w w' := fun w => by
    have g := cmp_any a b ha hb w
    rw [show cmpN a b = 0 from (by rw [h]; exact cmpN_self b)] at g
    exact g
  have k4 : ∀ w, Calls Try.prog 17 #[.agg #[.int .u64 (limb (b) 0 : Nat), .int .u64 (limb (b) 1 : Nat), .int .u64 (limb (b) 2 : Nat), .int .u64 (limb (b) 3 : Nat)], .agg #[.int .u64 (limb (a) 0 : Nat), .int .u64 (limb (a) 1 : Nat), .int .u64 (limb (a) 2 : Nat), .int .u64 (limb (a) 3 : Nat)]] w fun e w' => e = .returned (.int .i64 0) ∧ Below w.heap.size w w' := fun w => by
    have g := cmp_any b a hb ha w
    rw [show cmpN b a = 0 from (by rw [h]; exact cmpN_self b)] at g
    exact g
  have K1 : Hid _ := k1
  have K2 : Hid _ := k2
  have K3 : Hid _ := k3
  have K4 : Hid _ := k4
  have q : eq4 (limb a 0 : Nat) (limb a 1 : Nat) (limb a 2 : Nat) (limb a 3 : Nat) (limb b 0 : Nat) (limb b 1 : Nat) (limb b 2 : Nat) (limb b 3 : Nat) = true := (eq4_num a b ha hb).trans (decide_eq_true h)
  clear k1 k2 k3 k4 h
  go_enter Try.func6, Try.ntmps6
  go_wp2_with fail
  refine (K1.out _).mono ?_
  rintro e w1 ⟨rfl, hb1⟩
  have hz1 := hb1.size
  try simp only [World.size_alloc] at hz1
  have A1 : Num4 w1 w.heap.size a := by ((repeat' (first | assumption | (refine Num4.new' ?_; first | omega | (simp; done)) | refine Num4.set ?_ ?_ | refine Num4.alloc ?_ ?_ | refine Num4.drewN ?_ | refine Num4.call ?_ (by assumption) ?_)) <;> (first | omega | (simp; done) | (simp; omega)))
  have B1 : Num4 w1 (w.heap.size + 1) b := by ((repeat' (first | assumption | (refine Num4.new' ?_; first | omega | (simp; done)) | refine Num4.set ?_ ?_ | refine Num4.alloc ?_ ?_ | refine Num4.drewN ?_ | refine Num4.call ?_ (by assumption) ?_)) <;> (first | omega | (simp; done) | (simp; omega)))
  obtain ⟨a10, a11, a12, a13⟩ := A1.facts
  obtain ⟨b10, b11, b12, b13⟩ := B1.facts
  have z1 : w.heap.size < w1.heap.size := by omega
  have y1 : w.heap.size + 1 < w1.heap.size := by omega
  go_wp2_with fail
  refine (K2.out _).mono ?_
  rintro e w2 ⟨rfl, hb2⟩
  have hz2 := hb2.size
  try simp only [World.size_alloc] at hz2
  have A2 : Num4 w2 w.heap.size a := by ((repeat' (first | assumption | (refine Num4.new' ?_; first | omega | (simp; done)) | refine Num4.set ?_ ?_ | refine Num4.alloc ?_ ?_ | refine Num4.drewN ?_ | refine Num4.call ?_ (by assumption) ?_)) <;> (first | omega | (simp; done) | (simp; omega)))
  have B2 : Num4 w2 (w.heap.size + 1) b := by ((repeat' (first | assumption | (refine Num4.new' ?_; first | omega | (simp; done)) | refine Num4.set ?_ ?_ | refine Num4.alloc ?_ ?_ | refine Num4.drewN ?_ | refine Num4.call ?_ (by assumption) ?_)) <;> (first | omega | (simp; done) | (simp; omega)))
  obtain ⟨a20, a21, a22, a23⟩ := A2.facts
  obtain ⟨b20, b21, b22, b23⟩ := B2.facts
  have z2 : w.heap.size < w2.heap.size := by omega
  have y2 : w.heap.size + 1 < w2.heap.size := by omega
  go_wp2_with fail
  refine (K3.out _).mono ?_
  rintro e w3 ⟨rfl, hb3⟩
  have hz3 := hb3.size
  try simp only [World.size_alloc] at hz3
  have A3 : Num4 w3 w.heap.size a := by ((repeat' (first | assumption | (refine Num4.new' ?_; first | omega | (simp; done)) | refine Num4.set ?_ ?_ | refine Num4.alloc ?_ ?_ | refine Num4.drewN ?_ | refine Num4.call ?_ (by assumption) ?_)) <;> (first | omega | (simp; done) | (simp; omega)))
  have B3 : Num4 w3 (w.heap.size + 1) b := by ((repeat' (first | assumption | (refine Num4.new' ?_; first | omega | (simp; done)) | refine Num4.set ?_ ?_ | refine Num4.alloc ?_ ?_ | refine Num4.drewN ?_ | refine Num4.call ?_ (by assumption) ?_)) <;> (first | omega | (simp; done) | (simp; omega)))
  obtain ⟨a30, a31, a32, a33⟩ := A3.facts
  obtain ⟨b30, b31, b32, b33⟩ := B3.facts
  have z3 : w.heap.size < w3.heap.size := by omega
  have y3 : w.heap.size + 1 < w3.heap.size := by omega
  go_wp2_with fail
  refine (K4.out _).mono ?_
  rintro e w4 ⟨rfl, hb4⟩
  have hz4 := hb4.size
  try simp only [World.size_alloc] at hz4
  go_wp2_with fail
  refine (turns_any _).mono ?_
  rintro e w5 ⟨rfl, hb5⟩
  have hz5 := hb5.size
  try simp only [World.size_alloc] at hz5
  go_wp2
  go_ret
  exact ⟨rfl, by ((repeat' (first | with_reducible exact Below.refl _ _ | with_reducible refine Below.setCell ?_ ?_ _ | with_reducible refine below_alloc0 ?_ _ | with_reducible refine below_drewN ?_ _ | with_reducible refine Below.drew ?_ | refine below_call0 ?_ (by assumption))) <;> (first | omega | (simp; done) | (simp; omega)))⟩

theorem limbOrder_any (a b : Nat) (ha : a < R256) (hb : b < R256) (w : World) : Calls Try.prog 6 #[.agg #[.int .u64 (limb (a) 0 : Nat), .int .u64 (limb (a) 1 : Nat), .int .u64 (limb (a) 2 : Nat), .int .u64 (limb (a) 3 : Nat)], .agg #[.int .u64 (limb (b) 0 : Nat), .int .u64 (limb (b) 1 : Nat), .int .u64 (limb (b) 2 : Nat), .int .u64 (limb (b) 3 : Nat)]] w fun e w' => e = .returned (.bool true) ∧ Below w.heap.size w w' := by
  rcases Nat.lt_trichotomy a b with h | h | h
  · exact order_lt a b ha hb h w
  · exact order_eq a b ha hb h w
  · exact order_gt a b ha hb h w
end Go.Proofs.Ytpedidldhlldfab
