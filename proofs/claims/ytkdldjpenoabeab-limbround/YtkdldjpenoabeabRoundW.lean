/- The walk of the statement LimbRound. -/
import Derived.Test.YtkdldjpenoabeabMontW
namespace Go.Proofs.Ytkdldjpenoabeab
open Go.RowKit
attribute [local go_sem] run_eq4

theorem limb_high (a k : Nat) (ha : a < R256) (hk : 4 ≤ k) : limb a k = 0 := by
  unfold limb
  rw [Nat.div_eq_of_lt, Nat.zero_mod]
  refine Nat.lt_of_lt_of_le ha ?_
  rw [R256_M]
  exact Nat.pow_le_pow_right M64_pos hk

set_option maxHeartbeats 1000000 in
theorem newmont_even (m : Nat) (h : m % 2 = 0) (w : World) :
    Calls Try.prog 12 #[.agg #[.int .u64 (limb (m) 0 : Nat), .int .u64 (limb (m) 1 : Nat), .int .u64 (limb (m) 2 : Nat), .int .u64 (limb (m) 3 : Nat)]] w fun e w' => e = .returned (.tuple #[.pointer none, .int .i64 1]) ∧ Below w.heap.size w w' := by
  have tb : bits .and .u64 (limb m 0 : Int) 1 = 0 := (by have h0 : limb m 0 % 2 = 0 := (by rw [limb_zero]; unfold M64; omega); have h := and_one (limb m 0) (limb_lt m 0); rw [h0] at h; exact h)
  skip
  clear h
  go_enter Try.func12, Try.ntmps12
  go_wp2
  go_ret2
  exact ⟨rfl, by ((repeat' (first | with_reducible exact Below.refl _ _ | with_reducible refine Below.setCell ?_ ?_ _ | with_reducible refine below_alloc0 ?_ _ | with_reducible refine below_drewN ?_ _ | with_reducible refine Below.drew ?_ | refine below_call0 ?_ (by assumption))) <;> (first | omega | (simp; done) | (simp; omega)))⟩

set_option maxHeartbeats 1000000 in
theorem newmont_one (m : Nat) (h : m = 1) (w : World) :
    Calls Try.prog 12 #[.agg #[.int .u64 (limb (m) 0 : Nat), .int .u64 (limb (m) 1 : Nat), .int .u64 (limb (m) 2 : Nat), .int .u64 (limb (m) 3 : Nat)]] w fun e w' => e = .returned (.tuple #[.pointer none, .int .i64 1]) ∧ Below w.heap.size w w' := by
  have tb : bits .and .u64 (limb m 0 : Int) 1 = 1 := (by rw [h]; decide)
  have t1 : eq4 (limb m 0 : Nat) (limb m 1 : Nat) (limb m 2 : Nat) (limb m 3 : Nat) 1 0 0 0 = true := (by rw [h]; decide)
  clear h
  go_enter Try.func12, Try.ntmps12
  go_wp2
  go_ret2
  exact ⟨rfl, by ((repeat' (first | with_reducible exact Below.refl _ _ | with_reducible refine Below.setCell ?_ ?_ _ | with_reducible refine below_alloc0 ?_ _ | with_reducible refine below_drewN ?_ _ | with_reducible refine Below.drew ?_ | refine below_call0 ?_ (by assumption))) <;> (first | omega | (simp; done) | (simp; omega)))⟩

set_option maxHeartbeats 1000000 in
theorem round_bad (m a b : Nat) (k : ∀ w, Calls Try.prog 12 #[.agg #[.int .u64 (limb (m) 0 : Nat), .int .u64 (limb (m) 1 : Nat), .int .u64 (limb (m) 2 : Nat), .int .u64 (limb (m) 3 : Nat)]] w fun e w' => e = .returned (.tuple #[.pointer none, .int .i64 1]) ∧ Below w.heap.size w w') (w : World) :
    Calls Try.prog 4 #[.agg #[.int .u64 (limb (m) 0 : Nat), .int .u64 (limb (m) 1 : Nat), .int .u64 (limb (m) 2 : Nat), .int .u64 (limb (m) 3 : Nat)], .agg #[.int .u64 (limb (a) 0 : Nat), .int .u64 (limb (a) 1 : Nat), .int .u64 (limb (a) 2 : Nat), .int .u64 (limb (a) 3 : Nat)], .agg #[.int .u64 (limb (b) 0 : Nat), .int .u64 (limb (b) 1 : Nat), .int .u64 (limb (b) 2 : Nat), .int .u64 (limb (b) 3 : Nat)]] w fun e w' => e = .returned (.bool true) ∧ Below w.heap.size w w' := by
  have K : Hid _ := k
  clear k
  go_enter Try.func4, Try.ntmps4
  go_wp2_with fail
  refine (K.out _).mono ?_
  rintro e w1 ⟨rfl, hb1⟩
  have hz1 := hb1.size
  try simp only [World.size_alloc] at hz1
  have W1 : Below w.heap.size w w1 := by ((repeat' (first | with_reducible exact Below.refl _ _ | with_reducible refine Below.setCell ?_ ?_ _ | with_reducible refine below_alloc0 ?_ _ | with_reducible refine below_drewN ?_ _ | with_reducible refine Below.drew ?_ | refine below_call0 ?_ (by assumption))) <;> (first | omega | (simp; done) | (simp; omega)))
  clear hb1 hz1
  go_wp2_with fail
  refine (turns_any _).mono ?_
  rintro e w2 ⟨rfl, hb2⟩
  have W2 : Below w.heap.size w w2 := below_call0 W1 hb2
  go_wp2_with fail
  go_ret
  exact ⟨rfl, W2⟩
set_option maxRecDepth 100000 in
set_option maxHeartbeats 8000000 in
theorem round_ok (m a b p q s t u v sq : Nat)
    (k0 : ∀ w, Calls Try.prog 12 #[.agg #[.int .u64 (limb (m) 0 : Nat), .int .u64 (limb (m) 1 : Nat), .int .u64 (limb (m) 2 : Nat), .int .u64 (limb (m) 3 : Nat)]] w fun e w' => ∃ g c, e = .returned (.tuple #[.pointer (some ⟨g, 0, none⟩), .int .i64 0]) ∧ MontB w' g m sq c ∧ (c * limb m 0 + 1) % M64 = 0 ∧ Below w.heap.size w w')
    (k1 : ∀ w, Calls Try.prog 13 #[.agg #[.int .u64 (limb a 0 : Nat), .int .u64 (limb a 1 : Nat), .int .u64 (limb a 2 : Nat), .int .u64 (limb a 3 : Nat), .int .u64 0, .int .u64 0, .int .u64 0, .int .u64 0], .agg #[.int .u64 (limb (m) 0 : Nat), .int .u64 (limb (m) 1 : Nat), .int .u64 (limb (m) 2 : Nat), .int .u64 (limb (m) 3 : Nat)]] w fun e w' => e = .returned (.tuple #[.agg #[.int .u64 (limb (p) 0 : Nat), .int .u64 (limb (p) 1 : Nat), .int .u64 (limb (p) 2 : Nat), .int .u64 (limb (p) 3 : Nat)], .int .i64 0]) ∧ Below w.heap.size w w')
    (k2 : ∀ w, Calls Try.prog 13 #[.agg #[.int .u64 (limb b 0 : Nat), .int .u64 (limb b 1 : Nat), .int .u64 (limb b 2 : Nat), .int .u64 (limb b 3 : Nat), .int .u64 0, .int .u64 0, .int .u64 0, .int .u64 0], .agg #[.int .u64 (limb (m) 0 : Nat), .int .u64 (limb (m) 1 : Nat), .int .u64 (limb (m) 2 : Nat), .int .u64 (limb (m) 3 : Nat)]] w fun e w' => e = .returned (.tuple #[.agg #[.int .u64 (limb (q) 0 : Nat), .int .u64 (limb (q) 1 : Nat), .int .u64 (limb (q) 2 : Nat), .int .u64 (limb (q) 3 : Nat)], .int .i64 0]) ∧ Below w.heap.size w w')
    (k3 : ∀ g c, (c * limb m 0 + 1) % M64 = 0 → ∀ w, MontB w g m sq c → Calls Try.prog 14 #[.pointer (some ⟨g, 0, none⟩), .agg #[.int .u64 (limb (p) 0 : Nat), .int .u64 (limb (p) 1 : Nat), .int .u64 (limb (p) 2 : Nat), .int .u64 (limb (p) 3 : Nat)]] w fun e w' => e = .returned (.tuple #[.agg #[.int .u64 (limb (s) 0 : Nat), .int .u64 (limb (s) 1 : Nat), .int .u64 (limb (s) 2 : Nat), .int .u64 (limb (s) 3 : Nat)], .int .i64 0]) ∧ Below w.heap.size w w')
    (k4 : ∀ g c, (c * limb m 0 + 1) % M64 = 0 → ∀ w, MontB w g m sq c → Calls Try.prog 14 #[.pointer (some ⟨g, 0, none⟩), .agg #[.int .u64 (limb (q) 0 : Nat), .int .u64 (limb (q) 1 : Nat), .int .u64 (limb (q) 2 : Nat), .int .u64 (limb (q) 3 : Nat)]] w fun e w' => e = .returned (.tuple #[.agg #[.int .u64 (limb (t) 0 : Nat), .int .u64 (limb (t) 1 : Nat), .int .u64 (limb (t) 2 : Nat), .int .u64 (limb (t) 3 : Nat)], .int .i64 0]) ∧ Below w.heap.size w w')
    (k5 : ∀ g c, (c * limb m 0 + 1) % M64 = 0 → ∀ w, MontB w g m sq c → Calls Try.prog 15 #[.pointer (some ⟨g, 0, none⟩), .agg #[.int .u64 (limb (s) 0 : Nat), .int .u64 (limb (s) 1 : Nat), .int .u64 (limb (s) 2 : Nat), .int .u64 (limb (s) 3 : Nat)], .agg #[.int .u64 (limb (t) 0 : Nat), .int .u64 (limb (t) 1 : Nat), .int .u64 (limb (t) 2 : Nat), .int .u64 (limb (t) 3 : Nat)]] w fun e w' => e = .returned (.tuple #[.agg #[.int .u64 (limb (u) 0 : Nat), .int .u64 (limb (u) 1 : Nat), .int .u64 (limb (u) 2 : Nat), .int .u64 (limb (u) 3 : Nat)], .int .i64 0]) ∧ Below w.heap.size w w')
    (k6 : ∀ g c, (c * limb m 0 + 1) % M64 = 0 → ∀ w, MontB w g m sq c → Calls Try.prog 16 #[.pointer (some ⟨g, 0, none⟩), .agg #[.int .u64 (limb (u) 0 : Nat), .int .u64 (limb (u) 1 : Nat), .int .u64 (limb (u) 2 : Nat), .int .u64 (limb (u) 3 : Nat)]] w fun e w' => e = .returned (.tuple #[.agg #[.int .u64 (limb (v) 0 : Nat), .int .u64 (limb (v) 1 : Nat), .int .u64 (limb (v) 2 : Nat), .int .u64 (limb (v) 3 : Nat)], .int .i64 0]) ∧ Below w.heap.size w w')
    (k7 : ∀ g c, (c * limb m 0 + 1) % M64 = 0 → ∀ w, MontB w g m sq c → Calls Try.prog 16 #[.pointer (some ⟨g, 0, none⟩), .agg #[.int .u64 (limb (s) 0 : Nat), .int .u64 (limb (s) 1 : Nat), .int .u64 (limb (s) 2 : Nat), .int .u64 (limb (s) 3 : Nat)]] w fun e w' => e = .returned (.tuple #[.agg #[.int .u64 (limb (p) 0 : Nat), .int .u64 (limb (p) 1 : Nat), .int .u64 (limb (p) 2 : Nat), .int .u64 (limb (p) 3 : Nat)], .int .i64 0]) ∧ Below w.heap.size w w')
    (k8 : ∀ w, Calls Try.prog 10 #[.agg #[.int .u64 (limb (p) 0 : Nat), .int .u64 (limb (p) 1 : Nat), .int .u64 (limb (p) 2 : Nat), .int .u64 (limb (p) 3 : Nat)], .agg #[.int .u64 (limb (q) 0 : Nat), .int .u64 (limb (q) 1 : Nat), .int .u64 (limb (q) 2 : Nat), .int .u64 (limb (q) 3 : Nat)]] w fun e w' => e = .returned (.agg #[.int .u64 (limb (p * q) 0 : Nat), .int .u64 (limb (p * q) 1 : Nat), .int .u64 (limb (p * q) 2 : Nat), .int .u64 (limb (p * q) 3 : Nat), .int .u64 (limb (p * q) 4 : Nat), .int .u64 (limb (p * q) 5 : Nat), .int .u64 (limb (p * q) 6 : Nat), .int .u64 (limb (p * q) 7 : Nat)]) ∧ Below w.heap.size w w')
    (k9 : ∀ w, Calls Try.prog 13 #[.agg #[.int .u64 (limb (p * q) 0 : Nat), .int .u64 (limb (p * q) 1 : Nat), .int .u64 (limb (p * q) 2 : Nat), .int .u64 (limb (p * q) 3 : Nat), .int .u64 (limb (p * q) 4 : Nat), .int .u64 (limb (p * q) 5 : Nat), .int .u64 (limb (p * q) 6 : Nat), .int .u64 (limb (p * q) 7 : Nat)], .agg #[.int .u64 (limb (m) 0 : Nat), .int .u64 (limb (m) 1 : Nat), .int .u64 (limb (m) 2 : Nat), .int .u64 (limb (m) 3 : Nat)]] w fun e w' => e = .returned (.tuple #[.agg #[.int .u64 (limb (v) 0 : Nat), .int .u64 (limb (v) 1 : Nat), .int .u64 (limb (v) 2 : Nat), .int .u64 (limb (v) 3 : Nat)], .int .i64 0]) ∧ Below w.heap.size w w')
    (w : World) :
    Calls Try.prog 4 #[.agg #[.int .u64 (limb (m) 0 : Nat), .int .u64 (limb (m) 1 : Nat), .int .u64 (limb (m) 2 : Nat), .int .u64 (limb (m) 3 : Nat)], .agg #[.int .u64 (limb (a) 0 : Nat), .int .u64 (limb (a) 1 : Nat), .int .u64 (limb (a) 2 : Nat), .int .u64 (limb (a) 3 : Nat)], .agg #[.int .u64 (limb (b) 0 : Nat), .int .u64 (limb (b) 1 : Nat), .int .u64 (limb (b) 2 : Nat), .int .u64 (limb (b) 3 : Nat)]] w fun e w' => e = .returned (.bool true) ∧ Below w.heap.size w w' := by
  obtain ⟨pq, hpq⟩ : ∃ pq, pq = p * q := ⟨_, rfl⟩
  rw [← hpq] at k8 k9
  have K0 : Hid _ := k0
  have K1 : Hid _ := k1
  have K2 : Hid _ := k2
  have K3 : Hid _ := k3
  have K4 : Hid _ := k4
  have K5 : Hid _ := k5
  have K6 : Hid _ := k6
  have K7 : Hid _ := k7
  have K8 : Hid _ := k8
  have K9 : Hid _ := k9
  have ep : eq4 (limb p 0 : Nat) (limb p 1 : Nat) (limb p 2 : Nat) (limb p 3 : Nat) (limb p 0 : Nat) (limb p 1 : Nat) (limb p 2 : Nat) (limb p 3 : Nat) = true := by simp [eq4]
  have ev : eq4 (limb v 0 : Nat) (limb v 1 : Nat) (limb v 2 : Nat) (limb v 3 : Nat) (limb v 0 : Nat) (limb v 1 : Nat) (limb v 2 : Nat) (limb v 3 : Nat) = true := by simp [eq4]
  clear hpq k0 k1 k2 k3 k4 k5 k6 k7 k8 k9
  go_enter Try.func4, Try.ntmps4
  go_wp2_with fail
  refine (K0.out _).mono ?_
  rintro e w1 ⟨g, c, rfl, G1, hc, hb1⟩
  have HC : Hid _ := hc
  have hz1 := hb1.size
  simp only [World.size_alloc] at hz1
  have M1 : Num4 w1 w.heap.size m := by ((repeat' (first | assumption | (refine Num4.new' ?_; first | omega | (simp; done)) | refine Num4.set ?_ ?_ | refine Num4.alloc ?_ ?_ | refine Num4.drewN ?_ | refine Num4.call ?_ (by assumption) ?_)) <;> (first | omega | (simp; done) | (simp; omega)))
  have A1 : Num4 w1 (w.heap.size + 1) a := by ((repeat' (first | assumption | (refine Num4.new' ?_; first | omega | (simp; done)) | refine Num4.set ?_ ?_ | refine Num4.alloc ?_ ?_ | refine Num4.drewN ?_ | refine Num4.call ?_ (by assumption) ?_)) <;> (first | omega | (simp; done) | (simp; omega)))
  have B1 : Num4 w1 (w.heap.size + 1 + 1) b := by ((repeat' (first | assumption | (refine Num4.new' ?_; first | omega | (simp; done)) | refine Num4.set ?_ ?_ | refine Num4.alloc ?_ ?_ | refine Num4.drewN ?_ | refine Num4.call ?_ (by assumption) ?_)) <;> (first | omega | (simp; done) | (simp; omega)))
  have W1 : Below w.heap.size w w1 := by ((repeat' (first | with_reducible exact Below.refl _ _ | with_reducible refine Below.setCell ?_ ?_ _ | with_reducible refine below_alloc0 ?_ _ | with_reducible refine below_drewN ?_ _ | with_reducible refine Below.drew ?_ | refine below_call0 ?_ (by assumption))) <;> (first | omega | (simp; done) | (simp; omega)))
  have z1 : w.heap.size + 1 + 1 < w1.heap.size := by omega
  clear hb1 hz1 hc
  obtain ⟨mm0, mm1, mm2, mm3⟩ := M1.facts
  have lM1 : w.heap.size < w1.heap.size := by omega
  obtain ⟨aa0, aa1, aa2, aa3⟩ := A1.facts
  have lA1 : w.heap.size + 1 < w1.heap.size := by omega
  go_wp2_with fail
  refine (K1.out _).mono ?_
  rintro e w2 ⟨rfl, hb2⟩
  have hz2 := hb2.size
  try simp only [World.size_alloc] at hz2
  have M2 : Num4 w2 (w.heap.size) m := by ((repeat' (first | assumption | (refine Num4.new' ?_; first | omega | (simp; done)) | refine Num4.set ?_ ?_ | refine Num4.alloc ?_ ?_ | refine Num4.drewN ?_ | refine Num4.call ?_ (by assumption) ?_)) <;> (first | omega | (simp; done) | (simp; omega)))
  have A2 : Num4 w2 (w.heap.size + 1) a := by ((repeat' (first | assumption | (refine Num4.new' ?_; first | omega | (simp; done)) | refine Num4.set ?_ ?_ | refine Num4.alloc ?_ ?_ | refine Num4.drewN ?_ | refine Num4.call ?_ (by assumption) ?_)) <;> (first | omega | (simp; done) | (simp; omega)))
  have B2 : Num4 w2 (w.heap.size + 1 + 1) b := by ((repeat' (first | assumption | (refine Num4.new' ?_; first | omega | (simp; done)) | refine Num4.set ?_ ?_ | refine Num4.alloc ?_ ?_ | refine Num4.drewN ?_ | refine Num4.call ?_ (by assumption) ?_)) <;> (first | omega | (simp; done) | (simp; omega)))
  have G2 : MontB w2 g m sq c := G1.call hb2
  have W2 : Below w.heap.size w w2 := by ((repeat' (first | with_reducible exact Below.refl _ _ | with_reducible refine Below.setCell ?_ ?_ _ | with_reducible refine below_alloc0 ?_ _ | with_reducible refine below_drewN ?_ _ | with_reducible refine Below.drew ?_ | refine below_call0 ?_ (by assumption))) <;> (first | omega | (simp; done) | (simp; omega)))
  have z2 : w.heap.size + 1 + 1 < w2.heap.size := by omega
  have x2 : w1.heap.size ≤ w2.heap.size := by omega
  clear hb2 hz2 M1 A1 B1 W1 G1
  clear mm0 mm1 mm2 mm3 aa0 aa1 aa2 aa3
  obtain ⟨mm0, mm1, mm2, mm3⟩ := M2.facts
  have lM2 : w.heap.size < w2.heap.size := by omega
  obtain ⟨bb0, bb1, bb2, bb3⟩ := B2.facts
  have lB2 : w.heap.size + 1 + 1 < w2.heap.size := by omega
  go_wp2_with fail
  refine (K2.out _).mono ?_
  rintro e w3 ⟨rfl, hb3⟩
  have hz3 := hb3.size
  try simp only [World.size_alloc] at hz3
  have M3 : Num4 w3 (w.heap.size) m := by ((repeat' (first | assumption | (refine Num4.new' ?_; first | omega | (simp; done)) | refine Num4.set ?_ ?_ | refine Num4.alloc ?_ ?_ | refine Num4.drewN ?_ | refine Num4.call ?_ (by assumption) ?_)) <;> (first | omega | (simp; done) | (simp; omega)))
  have B3 : Num4 w3 (w.heap.size + 1 + 1) b := by ((repeat' (first | assumption | (refine Num4.new' ?_; first | omega | (simp; done)) | refine Num4.set ?_ ?_ | refine Num4.alloc ?_ ?_ | refine Num4.drewN ?_ | refine Num4.call ?_ (by assumption) ?_)) <;> (first | omega | (simp; done) | (simp; omega)))
  have P3 : Num4 w3 (w2.heap.size) p := by ((repeat' (first | assumption | (refine Num4.new' ?_; first | omega | (simp; done)) | refine Num4.set ?_ ?_ | refine Num4.alloc ?_ ?_ | refine Num4.drewN ?_ | refine Num4.call ?_ (by assumption) ?_)) <;> (first | omega | (simp; done) | (simp; omega)))
  have G3 : MontB w3 g m sq c := (MontB.alloc G2).call hb3
  have W3 : Below w.heap.size w w3 := by ((repeat' (first | with_reducible exact Below.refl _ _ | with_reducible refine Below.setCell ?_ ?_ _ | with_reducible refine below_alloc0 ?_ _ | with_reducible refine below_drewN ?_ _ | with_reducible refine Below.drew ?_ | refine below_call0 ?_ (by assumption))) <;> (first | omega | (simp; done) | (simp; omega)))
  have z3 : w.heap.size + 1 + 1 < w3.heap.size := by omega
  have x3 : w2.heap.size < w3.heap.size := by omega
  clear hb3 hz3 M2 A2 B2 W2 G2
  clear mm0 mm1 mm2 mm3 bb0 bb1 bb2 bb3
  obtain ⟨pp0, pp1, pp2, pp3⟩ := P3.facts
  have lP3 : w2.heap.size < w3.heap.size := by omega
  go_wp2_with fail
  refine (K3.out g c HC.out _ (MontB.alloc G3)).mono ?_
  rintro e w4 ⟨rfl, hb4⟩
  have hz4 := hb4.size
  try simp only [World.size_alloc] at hz4
  have M4 : Num4 w4 (w.heap.size) m := by ((repeat' (first | assumption | (refine Num4.new' ?_; first | omega | (simp; done)) | refine Num4.set ?_ ?_ | refine Num4.alloc ?_ ?_ | refine Num4.drewN ?_ | refine Num4.call ?_ (by assumption) ?_)) <;> (first | omega | (simp; done) | (simp; omega)))
  have P4 : Num4 w4 (w2.heap.size) p := by ((repeat' (first | assumption | (refine Num4.new' ?_; first | omega | (simp; done)) | refine Num4.set ?_ ?_ | refine Num4.alloc ?_ ?_ | refine Num4.drewN ?_ | refine Num4.call ?_ (by assumption) ?_)) <;> (first | omega | (simp; done) | (simp; omega)))
  have Q4 : Num4 w4 (w3.heap.size) q := by ((repeat' (first | assumption | (refine Num4.new' ?_; first | omega | (simp; done)) | refine Num4.set ?_ ?_ | refine Num4.alloc ?_ ?_ | refine Num4.drewN ?_ | refine Num4.call ?_ (by assumption) ?_)) <;> (first | omega | (simp; done) | (simp; omega)))
  have G4 : MontB w4 g m sq c := (MontB.alloc G3).call hb4
  have W4 : Below w.heap.size w w4 := by ((repeat' (first | with_reducible exact Below.refl _ _ | with_reducible refine Below.setCell ?_ ?_ _ | with_reducible refine below_alloc0 ?_ _ | with_reducible refine below_drewN ?_ _ | with_reducible refine Below.drew ?_ | refine below_call0 ?_ (by assumption))) <;> (first | omega | (simp; done) | (simp; omega)))
  have z4 : w.heap.size + 1 + 1 < w4.heap.size := by omega
  have x4 : w3.heap.size < w4.heap.size := by omega
  clear hb4 hz4 M3 B3 P3 W3 G3
  clear pp0 pp1 pp2 pp3
  obtain ⟨qq0, qq1, qq2, qq3⟩ := Q4.facts
  have lQ4 : w3.heap.size < w4.heap.size := by omega
  go_wp2_with fail
  refine (K4.out g c HC.out _ (MontB.alloc G4)).mono ?_
  rintro e w5 ⟨rfl, hb5⟩
  have hz5 := hb5.size
  try simp only [World.size_alloc] at hz5
  have M5 : Num4 w5 (w.heap.size) m := by ((repeat' (first | assumption | (refine Num4.new' ?_; first | omega | (simp; done)) | refine Num4.set ?_ ?_ | refine Num4.alloc ?_ ?_ | refine Num4.drewN ?_ | refine Num4.call ?_ (by assumption) ?_)) <;> (first | omega | (simp; done) | (simp; omega)))
  have P5 : Num4 w5 (w2.heap.size) p := by ((repeat' (first | assumption | (refine Num4.new' ?_; first | omega | (simp; done)) | refine Num4.set ?_ ?_ | refine Num4.alloc ?_ ?_ | refine Num4.drewN ?_ | refine Num4.call ?_ (by assumption) ?_)) <;> (first | omega | (simp; done) | (simp; omega)))
  have Q5 : Num4 w5 (w3.heap.size) q := by ((repeat' (first | assumption | (refine Num4.new' ?_; first | omega | (simp; done)) | refine Num4.set ?_ ?_ | refine Num4.alloc ?_ ?_ | refine Num4.drewN ?_ | refine Num4.call ?_ (by assumption) ?_)) <;> (first | omega | (simp; done) | (simp; omega)))
  have S5 : Num4 w5 (w4.heap.size) s := by ((repeat' (first | assumption | (refine Num4.new' ?_; first | omega | (simp; done)) | refine Num4.set ?_ ?_ | refine Num4.alloc ?_ ?_ | refine Num4.drewN ?_ | refine Num4.call ?_ (by assumption) ?_)) <;> (first | omega | (simp; done) | (simp; omega)))
  have G5 : MontB w5 g m sq c := (MontB.alloc G4).call hb5
  have W5 : Below w.heap.size w w5 := by ((repeat' (first | with_reducible exact Below.refl _ _ | with_reducible refine Below.setCell ?_ ?_ _ | with_reducible refine below_alloc0 ?_ _ | with_reducible refine below_drewN ?_ _ | with_reducible refine Below.drew ?_ | refine below_call0 ?_ (by assumption))) <;> (first | omega | (simp; done) | (simp; omega)))
  have z5 : w.heap.size + 1 + 1 < w5.heap.size := by omega
  have x5 : w4.heap.size < w5.heap.size := by omega
  clear hb5 hz5 M4 P4 Q4 W4 G4
  clear qq0 qq1 qq2 qq3
  obtain ⟨ss0, ss1, ss2, ss3⟩ := S5.facts
  have lS5 : w4.heap.size < w5.heap.size := by omega
  go_wp2_with fail
  refine (K5.out g c HC.out _ (MontB.alloc G5)).mono ?_
  rintro e w6 ⟨rfl, hb6⟩
  have hz6 := hb6.size
  try simp only [World.size_alloc] at hz6
  have M6 : Num4 w6 (w.heap.size) m := by ((repeat' (first | assumption | (refine Num4.new' ?_; first | omega | (simp; done)) | refine Num4.set ?_ ?_ | refine Num4.alloc ?_ ?_ | refine Num4.drewN ?_ | refine Num4.call ?_ (by assumption) ?_)) <;> (first | omega | (simp; done) | (simp; omega)))
  have P6 : Num4 w6 (w2.heap.size) p := by ((repeat' (first | assumption | (refine Num4.new' ?_; first | omega | (simp; done)) | refine Num4.set ?_ ?_ | refine Num4.alloc ?_ ?_ | refine Num4.drewN ?_ | refine Num4.call ?_ (by assumption) ?_)) <;> (first | omega | (simp; done) | (simp; omega)))
  have Q6 : Num4 w6 (w3.heap.size) q := by ((repeat' (first | assumption | (refine Num4.new' ?_; first | omega | (simp; done)) | refine Num4.set ?_ ?_ | refine Num4.alloc ?_ ?_ | refine Num4.drewN ?_ | refine Num4.call ?_ (by assumption) ?_)) <;> (first | omega | (simp; done) | (simp; omega)))
  have S6 : Num4 w6 (w4.heap.size) s := by ((repeat' (first | assumption | (refine Num4.new' ?_; first | omega | (simp; done)) | refine Num4.set ?_ ?_ | refine Num4.alloc ?_ ?_ | refine Num4.drewN ?_ | refine Num4.call ?_ (by assumption) ?_)) <;> (first | omega | (simp; done) | (simp; omega)))
  have T6 : Num4 w6 (w5.heap.size) t := by ((repeat' (first | assumption | (refine Num4.new' ?_; first | omega | (simp; done)) | refine Num4.set ?_ ?_ | refine Num4.alloc ?_ ?_ | refine Num4.drewN ?_ | refine Num4.call ?_ (by assumption) ?_)) <;> (first | omega | (simp; done) | (simp; omega)))
  have G6 : MontB w6 g m sq c := (MontB.alloc G5).call hb6
  have W6 : Below w.heap.size w w6 := by ((repeat' (first | with_reducible exact Below.refl _ _ | with_reducible refine Below.setCell ?_ ?_ _ | with_reducible refine below_alloc0 ?_ _ | with_reducible refine below_drewN ?_ _ | with_reducible refine Below.drew ?_ | refine below_call0 ?_ (by assumption))) <;> (first | omega | (simp; done) | (simp; omega)))
  have z6 : w.heap.size + 1 + 1 < w6.heap.size := by omega
  have x6 : w5.heap.size < w6.heap.size := by omega
  clear hb6 hz6 M5 P5 Q5 S5 W5 G5
  clear ss0 ss1 ss2 ss3
  go_wp2_with fail
  refine (K6.out g c HC.out _ (MontB.alloc G6)).mono ?_
  rintro e w7 ⟨rfl, hb7⟩
  have hz7 := hb7.size
  try simp only [World.size_alloc] at hz7
  have M7 : Num4 w7 (w.heap.size) m := by ((repeat' (first | assumption | (refine Num4.new' ?_; first | omega | (simp; done)) | refine Num4.set ?_ ?_ | refine Num4.alloc ?_ ?_ | refine Num4.drewN ?_ | refine Num4.call ?_ (by assumption) ?_)) <;> (first | omega | (simp; done) | (simp; omega)))
  have P7 : Num4 w7 (w2.heap.size) p := by ((repeat' (first | assumption | (refine Num4.new' ?_; first | omega | (simp; done)) | refine Num4.set ?_ ?_ | refine Num4.alloc ?_ ?_ | refine Num4.drewN ?_ | refine Num4.call ?_ (by assumption) ?_)) <;> (first | omega | (simp; done) | (simp; omega)))
  have Q7 : Num4 w7 (w3.heap.size) q := by ((repeat' (first | assumption | (refine Num4.new' ?_; first | omega | (simp; done)) | refine Num4.set ?_ ?_ | refine Num4.alloc ?_ ?_ | refine Num4.drewN ?_ | refine Num4.call ?_ (by assumption) ?_)) <;> (first | omega | (simp; done) | (simp; omega)))
  have S7 : Num4 w7 (w4.heap.size) s := by ((repeat' (first | assumption | (refine Num4.new' ?_; first | omega | (simp; done)) | refine Num4.set ?_ ?_ | refine Num4.alloc ?_ ?_ | refine Num4.drewN ?_ | refine Num4.call ?_ (by assumption) ?_)) <;> (first | omega | (simp; done) | (simp; omega)))
  have U7 : Num4 w7 (w6.heap.size) u := by ((repeat' (first | assumption | (refine Num4.new' ?_; first | omega | (simp; done)) | refine Num4.set ?_ ?_ | refine Num4.alloc ?_ ?_ | refine Num4.drewN ?_ | refine Num4.call ?_ (by assumption) ?_)) <;> (first | omega | (simp; done) | (simp; omega)))
  have G7 : MontB w7 g m sq c := (MontB.alloc G6).call hb7
  have W7 : Below w.heap.size w w7 := by ((repeat' (first | with_reducible exact Below.refl _ _ | with_reducible refine Below.setCell ?_ ?_ _ | with_reducible refine below_alloc0 ?_ _ | with_reducible refine below_drewN ?_ _ | with_reducible refine Below.drew ?_ | refine below_call0 ?_ (by assumption))) <;> (first | omega | (simp; done) | (simp; omega)))
  have z7 : w.heap.size + 1 + 1 < w7.heap.size := by omega
  have x7 : w6.heap.size < w7.heap.size := by omega
  clear hb7 hz7 M6 P6 Q6 S6 T6 W6 G6
  obtain ⟨ss0, ss1, ss2, ss3⟩ := S7.facts
  have lS7 : w4.heap.size < w7.heap.size := by omega
  go_wp2_with fail
  refine (K7.out g c HC.out _ (MontB.alloc G7)).mono ?_
  rintro e w8 ⟨rfl, hb8⟩
  have hz8 := hb8.size
  try simp only [World.size_alloc] at hz8
  have M8 : Num4 w8 (w.heap.size) m := by ((repeat' (first | assumption | (refine Num4.new' ?_; first | omega | (simp; done)) | refine Num4.set ?_ ?_ | refine Num4.alloc ?_ ?_ | refine Num4.drewN ?_ | refine Num4.call ?_ (by assumption) ?_)) <;> (first | omega | (simp; done) | (simp; omega)))
  have P8 : Num4 w8 (w2.heap.size) p := by ((repeat' (first | assumption | (refine Num4.new' ?_; first | omega | (simp; done)) | refine Num4.set ?_ ?_ | refine Num4.alloc ?_ ?_ | refine Num4.drewN ?_ | refine Num4.call ?_ (by assumption) ?_)) <;> (first | omega | (simp; done) | (simp; omega)))
  have Q8 : Num4 w8 (w3.heap.size) q := by ((repeat' (first | assumption | (refine Num4.new' ?_; first | omega | (simp; done)) | refine Num4.set ?_ ?_ | refine Num4.alloc ?_ ?_ | refine Num4.drewN ?_ | refine Num4.call ?_ (by assumption) ?_)) <;> (first | omega | (simp; done) | (simp; omega)))
  have S8 : Num4 w8 (w4.heap.size) s := by ((repeat' (first | assumption | (refine Num4.new' ?_; first | omega | (simp; done)) | refine Num4.set ?_ ?_ | refine Num4.alloc ?_ ?_ | refine Num4.drewN ?_ | refine Num4.call ?_ (by assumption) ?_)) <;> (first | omega | (simp; done) | (simp; omega)))
  have V8 : Num4 w8 (w7.heap.size) v := by ((repeat' (first | assumption | (refine Num4.new' ?_; first | omega | (simp; done)) | refine Num4.set ?_ ?_ | refine Num4.alloc ?_ ?_ | refine Num4.drewN ?_ | refine Num4.call ?_ (by assumption) ?_)) <;> (first | omega | (simp; done) | (simp; omega)))
  have G8 : MontB w8 g m sq c := (MontB.alloc G7).call hb8
  have W8 : Below w.heap.size w w8 := by ((repeat' (first | with_reducible exact Below.refl _ _ | with_reducible refine Below.setCell ?_ ?_ _ | with_reducible refine below_alloc0 ?_ _ | with_reducible refine below_drewN ?_ _ | with_reducible refine Below.drew ?_ | refine below_call0 ?_ (by assumption))) <;> (first | omega | (simp; done) | (simp; omega)))
  have z8 : w.heap.size + 1 + 1 < w8.heap.size := by omega
  have x8 : w7.heap.size < w8.heap.size := by omega
  clear hb8 hz8 M7 P7 Q7 S7 U7 W7 G7
  clear ss0 ss1 ss2 ss3
  go_wp2_with fail
  obtain ⟨X, hX⟩ : ∃ X, X = w8.alloc (.cells #[.int .u64 (limb p 0 : Nat), .int .u64 (limb p 1 : Nat), .int .u64 (limb p 2 : Nat), .int .u64 (limb p 3 : Nat)] 24) := ⟨_, rfl⟩
  rw [← hX]
  have MX : Num4 X w.heap.size m := by rw [hX]; exact M8.alloc (by omega)
  have PX : Num4 X w2.heap.size p := by rw [hX]; exact P8.alloc (by omega)
  have QX : Num4 X w3.heap.size q := by rw [hX]; exact Q8.alloc (by omega)
  have VX : Num4 X w7.heap.size v := by rw [hX]; exact V8.alloc (by omega)
  have ZX : Num4 X w8.heap.size p := by rw [hX]; exact Num4.new _ _ _
  have WX : Below w.heap.size w X := by rw [hX]; exact below_alloc0 W8 _
  have zx : w8.heap.size < X.heap.size := by rw [hX]; simp
  clear hX M8 P8 Q8 V8 S8 W8 G8 K0 K1 K2 K3 K4 K5 K6 K7
  have HK : Hid (∀ w', Below X.heap.size X w' → (Below X.heap.size X w' ∧ (w'.cell? ⟨w.heap.size, 0, none⟩ = some (.int .u64 (limb (m) 0 : Nat)) ∧ w'.cell? ⟨w.heap.size, 1, none⟩ = some (.int .u64 (limb (m) 1 : Nat)) ∧ w'.cell? ⟨w.heap.size, 2, none⟩ = some (.int .u64 (limb (m) 2 : Nat)) ∧ w'.cell? ⟨w.heap.size, 3, none⟩ = some (.int .u64 (limb (m) 3 : Nat))) ∧ (w'.cell? ⟨w2.heap.size, 0, none⟩ = some (.int .u64 (limb (p) 0 : Nat)) ∧ w'.cell? ⟨w2.heap.size, 1, none⟩ = some (.int .u64 (limb (p) 1 : Nat)) ∧ w'.cell? ⟨w2.heap.size, 2, none⟩ = some (.int .u64 (limb (p) 2 : Nat)) ∧ w'.cell? ⟨w2.heap.size, 3, none⟩ = some (.int .u64 (limb (p) 3 : Nat))) ∧ (w'.cell? ⟨w3.heap.size, 0, none⟩ = some (.int .u64 (limb (q) 0 : Nat)) ∧ w'.cell? ⟨w3.heap.size, 1, none⟩ = some (.int .u64 (limb (q) 1 : Nat)) ∧ w'.cell? ⟨w3.heap.size, 2, none⟩ = some (.int .u64 (limb (q) 2 : Nat)) ∧ w'.cell? ⟨w3.heap.size, 3, none⟩ = some (.int .u64 (limb (q) 3 : Nat))))) := fun w' h =>
    ⟨h, (MX.call h (by omega)).facts, (PX.call h (by omega)).facts, (QX.call h (by omega)).facts⟩
  have AA : Hid _ := And.intro PX (And.intro VX (And.intro ZX WX))
  clear MX PX QX VX ZX WX
  go_cut [23, 24] (fun v6 v7 wx => ∃ bl, v6 = .pointer (some ⟨bl, 0, none⟩) ∧ v7 = .int .i64 0 ∧ Num4 wx bl v ∧ bl < wx.heap.size ∧ Below X.heap.size X wx)
  case first =>
    go_region_held3 (fun w' => Below X.heap.size X w' ∧ (w'.cell? ⟨w.heap.size, 0, none⟩ = some (.int .u64 (limb (m) 0 : Nat)) ∧ w'.cell? ⟨w.heap.size, 1, none⟩ = some (.int .u64 (limb (m) 1 : Nat)) ∧ w'.cell? ⟨w.heap.size, 2, none⟩ = some (.int .u64 (limb (m) 2 : Nat)) ∧ w'.cell? ⟨w.heap.size, 3, none⟩ = some (.int .u64 (limb (m) 3 : Nat))) ∧ (w'.cell? ⟨w2.heap.size, 0, none⟩ = some (.int .u64 (limb (p) 0 : Nat)) ∧ w'.cell? ⟨w2.heap.size, 1, none⟩ = some (.int .u64 (limb (p) 1 : Nat)) ∧ w'.cell? ⟨w2.heap.size, 2, none⟩ = some (.int .u64 (limb (p) 2 : Nat)) ∧ w'.cell? ⟨w2.heap.size, 3, none⟩ = some (.int .u64 (limb (p) 3 : Nat))) ∧ (w'.cell? ⟨w3.heap.size, 0, none⟩ = some (.int .u64 (limb (q) 0 : Nat)) ∧ w'.cell? ⟨w3.heap.size, 1, none⟩ = some (.int .u64 (limb (q) 1 : Nat)) ∧ w'.cell? ⟨w3.heap.size, 2, none⟩ = some (.int .u64 (limb (q) 2 : Nat)) ∧ w'.cell? ⟨w3.heap.size, 3, none⟩ = some (.int .u64 (limb (q) 3 : Nat))))
      ((refine HK.out _ ?_; ((repeat' (first | with_reducible exact Below.refl _ _ | exact (And.left (by assumption)) | with_reducible refine Below.setCell ?_ ?_ _ | with_reducible refine below_alloc0 ?_ _ | with_reducible refine below_drewN ?_ _ | with_reducible refine Below.drew ?_ | refine below_call0 ?_ (by assumption))) <;> (first | omega | (simp; done) | (simp; omega)))))
      (first
      | (go_at_call 10; refine (K8.out _).mono ?_; rintro e w' ⟨rfl, hq⟩; have hzx := Nat.le_trans (Below.size (And.left ‹Below X.heap.size X _ ∧ _›)) hq.size; first | (have pd := Pend.call_new hq; have pf := pd.facts) | (have pd := Pend.call_drew hq; have pf := pd.facts) | (have pd := Pend.call ‹Pend _ _› hq; have pf := pd.facts) | skip)
      | (go_at_call 13; refine (K9.out _).mono ?_; rintro e w' ⟨rfl, hq⟩; have hzx := Nat.le_trans (Below.size (And.left ‹Below X.heap.size X _ ∧ _›)) hq.size; first | (have pd := Pend.call_new hq; have pf := pd.facts) | (have pd := Pend.call_drew hq; have pf := pd.facts) | (have pd := Pend.call ‹Pend _ _› hq; have pf := pd.facts) | skip))
    all_goals (go_wp2_with fail; go_meet)
    all_goals refine ⟨_, rfl, rfl, ?_, ?_, And.left (by assumption)⟩
    all_goals first | with_reducible exact Num4.new' rfl | with_reducible exact Num4.drew (Num4.new' rfl) | with_reducible exact Num4.put ‹Pend _ _› | with_reducible exact Num4.drew (Num4.put ‹Pend _ _›) | (simp; done) | (simp; omega)
  case rest =>
    obtain ⟨bl, rfl, rfl, PW, pz, hbx⟩ := hcut
    have zz := hbx.size
    obtain ⟨pp0, pp1, pp2, pp3⟩ := (AA.out.1.call hbx (by omega)).facts
    obtain ⟨vv0, vv1, vv2, vv3⟩ := (AA.out.2.1.call hbx (by omega)).facts
    obtain ⟨tt0, tt1, tt2, tt3⟩ := (AA.out.2.2.1.call hbx (by omega)).facts
    obtain ⟨bb0, bb1, bb2, bb3⟩ := PW.facts
    have WC : Below w.heap.size w wc := below_call0 AA.out.2.2.2 hbx
    have y2 : w2.heap.size < wc.heap.size := by omega
    have y7 : w7.heap.size < wc.heap.size := by omega
    have y8 : w8.heap.size < wc.heap.size := by omega
    clear hbx HK K8 K9 PW AA
    go_wp2_with fail
    refine (turns_any _).mono ?_
    rintro e w9 ⟨rfl, hb9⟩
    have W9 : Below w.heap.size w w9 := below_call0 WC hb9
    go_wp2_with fail
    go_ret
    exact ⟨rfl, W9⟩

theorem limbRound_any (m a b : Nat) (hm : m < R256) (ha : a < R256) (hb : b < R256) (w : World) : Calls Try.prog 4 #[.agg #[.int .u64 (limb (m) 0 : Nat), .int .u64 (limb (m) 1 : Nat), .int .u64 (limb (m) 2 : Nat), .int .u64 (limb (m) 3 : Nat)], .agg #[.int .u64 (limb (a) 0 : Nat), .int .u64 (limb (a) 1 : Nat), .int .u64 (limb (a) 2 : Nat), .int .u64 (limb (a) 3 : Nat)], .agg #[.int .u64 (limb (b) 0 : Nat), .int .u64 (limb (b) 1 : Nat), .int .u64 (limb (b) 2 : Nat), .int .u64 (limb (b) 3 : Nat)]] w fun e w' => e = .returned (.bool true) ∧ Below w.heap.size w w' := by
  by_cases he : m % 2 = 0
  · exact round_bad m a b (newmont_even m he) w
  by_cases h1 : m = 1
  · exact round_bad m a b (newmont_one m h1) w
  have hodd : m % 2 = 1 := by omega
  have m0 : 0 < m := by omega
  have sql : R256 * R256 % m < m := Nat.mod_lt _ m0
  have wide : ∀ x, x < R256 → x / 2 ^ 512 = 0 := fun x hx => Nat.div_eq_of_lt (by rw [pow512 512 (by decide)]; exact Nat.lt_of_lt_of_le hx (by decide))
  have small : ∀ x y, x < R256 → y < R256 → x * y / 2 ^ 512 = 0 := fun x y hx hy => Nat.div_eq_of_lt (by rw [pow512 512 (by decide)]; exact Nat.mul_lt_mul_of_lt_of_le hx (Nat.le_of_lt hy) (by decide))
  have pl : a % m < m := Nat.mod_lt _ m0
  have ql : b % m < m := Nat.mod_lt _ m0
  have sl : ∀ x, x * R256 % m < m := fun x => Nat.mod_lt _ m0
  have kmod : ∀ x, x < R256 → ∀ w, Calls Try.prog 13 #[.agg #[.int .u64 (limb x 0 : Nat), .int .u64 (limb x 1 : Nat), .int .u64 (limb x 2 : Nat), .int .u64 (limb x 3 : Nat), .int .u64 0, .int .u64 0, .int .u64 0, .int .u64 0], .agg #[.int .u64 (limb (m) 0 : Nat), .int .u64 (limb (m) 1 : Nat), .int .u64 (limb (m) 2 : Nat), .int .u64 (limb (m) 3 : Nat)]] w fun e w' => e = .returned (.tuple #[.agg #[.int .u64 (limb (x % m) 0 : Nat), .int .u64 (limb (x % m) 1 : Nat), .int .u64 (limb (x % m) 2 : Nat), .int .u64 (limb (x % m) 3 : Nat)], .int .i64 0]) ∧ Below w.heap.size w w' := fun x hx w => by
    have g := mod_any x m (wide x hx) m0 hm w
    rw [limb_high x 4 hx (by omega), limb_high x 5 hx (by omega), limb_high x 6 hx (by omega), limb_high x 7 hx (by omega)] at g
    exact g
  have kto : ∀ x, x < m → ∀ g c, (c * limb m 0 + 1) % M64 = 0 → ∀ w, MontB w g m (R256 * R256 % m) c → Calls Try.prog 14 #[.pointer (some ⟨g, 0, none⟩), .agg #[.int .u64 (limb (x) 0 : Nat), .int .u64 (limb (x) 1 : Nat), .int .u64 (limb (x) 2 : Nat), .int .u64 (limb (x) 3 : Nat)]] w fun e w' => e = .returned (.tuple #[.agg #[.int .u64 (limb (x * R256 % m) 0 : Nat), .int .u64 (limb (x * R256 % m) 1 : Nat), .int .u64 (limb (x * R256 % m) 2 : Nat), .int .u64 (limb (x * R256 % m) 3 : Nat)], .int .i64 0]) ∧ Below w.heap.size w w' := fun x hx g c hc w hM =>
    mto_go g m _ c x _ 0 (fun w h => by
      have k := mmul_ok g m _ c x (R256 * R256 % m) hx sql hm hodd hc w h
      rw [red_R m x hodd] at k
      exact k) w hM
  have kfrom : ∀ x y, x < m → redN m (x * 1) = y → ∀ g c, (c * limb m 0 + 1) % M64 = 0 → ∀ w, MontB w g m (R256 * R256 % m) c → Calls Try.prog 16 #[.pointer (some ⟨g, 0, none⟩), .agg #[.int .u64 (limb (x) 0 : Nat), .int .u64 (limb (x) 1 : Nat), .int .u64 (limb (x) 2 : Nat), .int .u64 (limb (x) 3 : Nat)]] w fun e w' => e = .returned (.tuple #[.agg #[.int .u64 (limb (y) 0 : Nat), .int .u64 (limb (y) 1 : Nat), .int .u64 (limb (y) 2 : Nat), .int .u64 (limb (y) 3 : Nat)], .int .i64 0]) ∧ Below w.heap.size w w' := fun x y hx hy g c hc w hM =>
    mfrom_go g m _ c x _ 0 (fun w h => by
      have k := mmul_ok g m _ c x 1 hx (by omega) hm hodd hc w h
      rw [hy, limb_one.1, limb_one.2.1, limb_one.2.2.1, limb_one.2.2.2] at k
      exact k) w hM
  exact round_ok m a b (a % m) (b % m) (a % m * R256 % m) (b % m * R256 % m) _ (a % m * (b % m) % m) (R256 * R256 % m) (newmont_ok m hm hodd h1) (kmod a ha) (kmod b hb) (kto _ pl) (kto _ ql)
    (fun g c hc w hM => mmul_ok g m _ c _ _ (sl _) (sl _) hm hodd hc w hM) (kfrom _ _ (red_lt m _ m0) (red_round m _ _ hodd)) (kfrom _ _ (sl _) (by rw [red_back m _ hodd, Nat.mod_mod]))
    (mul_any _ _ (Nat.lt_trans pl hm) (Nat.lt_trans ql hm)) (mod_any _ m (small _ _ (Nat.lt_trans pl hm) (Nat.lt_trans ql hm)) m0 hm) w
end Go.Proofs.Ytkdldjpenoabeab
