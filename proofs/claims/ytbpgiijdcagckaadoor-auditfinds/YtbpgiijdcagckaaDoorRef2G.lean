/- The reference's Has, Ask, Add, Sub and Mul of a field. -/
import Derived.Test.YtbpgiijdcagckaaDoorRef2F
import Derived.Test.YtbpgiijdcagckaaDoorLbA
import Derived.Test.YtbpgiijdcagckaaDoorFieldL
import Derived.Deep.RegionHeld3
namespace Go.Proofs.YtbpgiijdcagckaaDoor
open Go.RowKit

set_option maxHeartbeats 1000000 in
theorem has2_any (m a : Nat) (hm : m < R256) (ha : a < R256) (w : World) : Calls Tryd.prog 27 #[.agg #[.int .u64 (limb (m) 0 : Nat), .int .u64 (limb (m) 1 : Nat), .int .u64 (limb (m) 2 : Nat), .int .u64 (limb (m) 3 : Nat), .int .u64 (limb (R256 - (m)) 0 : Nat), .int .u64 (limb (R256 - (m)) 1 : Nat), .int .u64 (limb (R256 - (m)) 2 : Nat), .int .u64 (limb (R256 - (m)) 3 : Nat)], .agg #[.int .u64 (limb (a) 0 : Nat), .int .u64 (limb (a) 1 : Nat), .int .u64 (limb (a) 2 : Nat), .int .u64 (limb (a) 3 : Nat)]] w fun e w' => e = .returned (.bool (decide (a < m))) ∧ Below w.heap.size w w' := by
  obtain ⟨G, hG⟩ : ∃ G, G = R256 - m := ⟨_, rfl⟩
  rw [← hG]
  have K : Hid _ := less_ref a m ha hm
  clear hG ha hm
  go_enter Tryd.func27, Tryd.ntmps27
  go_wp2_with fail
  refine (K.out _).mono ?_
  rintro e w1 ⟨rfl, hb1⟩
  have hz1 := hb1.size
  try simp only [World.size_alloc] at hz1
  have W1 : Below w.heap.size w w1 := by ((repeat' (first | with_reducible exact Below.refl _ _ | with_reducible refine Below.setCell ?_ ?_ _ | with_reducible refine below_alloc0 ?_ _ | with_reducible refine below_drewN ?_ _ | with_reducible refine Below.drew ?_ | refine below_call0 ?_ (by assumption))) <;> (first | omega | (simp; done) | (simp; omega)))
  clear hb1 K
  go_wp2
  go_ret
  exact ⟨rfl, W1⟩
theorem has2_b (m a : Nat) (b : Bool) (hm : m < R256) (ha : a < R256) (h : decide (a < m) = b) (w : World) : Calls Tryd.prog 27 #[.agg #[.int .u64 (limb (m) 0 : Nat), .int .u64 (limb (m) 1 : Nat), .int .u64 (limb (m) 2 : Nat), .int .u64 (limb (m) 3 : Nat), .int .u64 (limb (R256 - (m)) 0 : Nat), .int .u64 (limb (R256 - (m)) 1 : Nat), .int .u64 (limb (R256 - (m)) 2 : Nat), .int .u64 (limb (R256 - (m)) 3 : Nat)], .agg #[.int .u64 (limb (a) 0 : Nat), .int .u64 (limb (a) 1 : Nat), .int .u64 (limb (a) 2 : Nat), .int .u64 (limb (a) 3 : Nat)]] w fun e w' => e = .returned (.bool b) ∧ Below w.heap.size w w' := by
  rw [← h]
  exact has2_any m a hm ha w


set_option maxHeartbeats 2000000 in
theorem sub2_ge (m a b r : Nat) (ha : a < R256) (hb : b < R256) (hl : decide (a < b) = false) (hr : r = subN a b) (w : World) : Calls Tryd.prog 19 #[.agg #[.int .u64 (limb (m) 0 : Nat), .int .u64 (limb (m) 1 : Nat), .int .u64 (limb (m) 2 : Nat), .int .u64 (limb (m) 3 : Nat), .int .u64 (limb (R256 - (m)) 0 : Nat), .int .u64 (limb (R256 - (m)) 1 : Nat), .int .u64 (limb (R256 - (m)) 2 : Nat), .int .u64 (limb (R256 - (m)) 3 : Nat)], .agg #[.int .u64 (limb (a) 0 : Nat), .int .u64 (limb (a) 1 : Nat), .int .u64 (limb (a) 2 : Nat), .int .u64 (limb (a) 3 : Nat)], .agg #[.int .u64 (limb (b) 0 : Nat), .int .u64 (limb (b) 1 : Nat), .int .u64 (limb (b) 2 : Nat), .int .u64 (limb (b) 3 : Nat)]] w fun e w' => e = .returned (.agg #[.int .u64 (limb (r) 0 : Nat), .int .u64 (limb (r) 1 : Nat), .int .u64 (limb (r) 2 : Nat), .int .u64 (limb (r) 3 : Nat)]) ∧ Below w.heap.size w w' := by
  have kl : ∀ w : World, Calls Tryd.prog 28 #[.agg #[.int .u64 (limb (a) 0 : Nat), .int .u64 (limb (a) 1 : Nat), .int .u64 (limb (a) 2 : Nat), .int .u64 (limb (a) 3 : Nat)], .agg #[.int .u64 (limb (b) 0 : Nat), .int .u64 (limb (b) 1 : Nat), .int .u64 (limb (b) 2 : Nat), .int .u64 (limb (b) 3 : Nat)]] w fun e w' => e = .returned (.bool false) ∧ Below w.heap.size w w' := fun w => by rw [← hl]; exact less_ref a b (by assumption) (by assumption) w
  have KL : Hid _ := kl
  clear kl
  have k3 := minus2_any a b ha hb
  rw [← hr] at k3
  have K3 : Hid _ := k3
  clear k3 hr hl ha hb
  obtain ⟨G, hG⟩ : ∃ G, G = R256 - m := ⟨_, rfl⟩
  rw [← hG]
  have HF : Hid (∀ W t, FieldB ((W : World).alloc (.cells #[.int .u64 (limb m 0 : Nat), .int .u64 (limb m 1 : Nat), .int .u64 (limb m 2 : Nat), .int .u64 (limb m 3 : Nat), .int .u64 (limb (R256 - m) 0 : Nat), .int .u64 (limb (R256 - m) 1 : Nat), .int .u64 (limb (R256 - m) 2 : Nat), .int .u64 (limb (R256 - m) 3 : Nat)] t)) W.heap.size m) := fun W t => FieldB.new W m t
  rw [← hG] at HF
  clear hG
  go_enter Tryd.func19, Tryd.ntmps19
  go_wp2_with fail
  refine (KL.out _).mono ?_
  rintro e w1 ⟨rfl, hb1⟩
  have P1 := Pend.call_new hb1
  simp only [World.size_alloc] at P1
  have F1 : FieldB w1 w.heap.size m := FieldB.call (FieldB.alloc (FieldB.alloc (FieldB.alloc (HF.out w _)))) hb1
  have A1 : NS w1 (w.heap.size + 1) a := by
    have t := NS.call (NS.alloc (NS.alloc (NS.new _ _ _))) hb1
    simp only [World.size_alloc] at t
    exact t
  have B1 : NS w1 (w.heap.size + 1 + 1) b := by
    have t := NS.call (NS.alloc (NS.new _ _ _)) hb1
    simp only [World.size_alloc] at t
    exact t
  have W1 : Below w.heap.size w w1 := below_call0 (below_alloc0 (below_alloc0 (below_alloc0 (below_alloc0 (Below.refl _ _) _) _) _) _) hb1
  clear hb1 KL HF
  obtain ⟨⟨a0, a1, a2, a3⟩, az⟩ := A1.facts
  obtain ⟨⟨b0, b1, b2, b3⟩, bz⟩ := B1.facts
  go_wp2_with fail
  refine (K3.out _).mono ?_
  rintro e w3 ⟨rfl, hb3⟩
  have P3 := P1.call hb3
  have W3 : Below w.heap.size w w3 := below_call0 W1 hb3
  clear hb3 K3 F1
  obtain ⟨⟨p0, p1, p2, p3⟩, ⟨f0, f1, f2, f3⟩, pz⟩ := P3.facts
  go_wp2
  refine bodyPost_ret (v := .agg #[.int .u64 (limb (r) 0 : Nat), .int .u64 (limb (r) 1 : Nat), .int .u64 (limb (r) 2 : Nat), .int .u64 (limb (r) 3 : Nat)]) ?_ rfl ⟨rfl, ?_⟩
  · simp [results, Tryd.results19, go_sem, p0, p1, p2, p3]
  · ((repeat' (first | with_reducible exact Below.refl _ _ | with_reducible refine Below.setCell ?_ ?_ _ | with_reducible refine below_alloc0 ?_ _ | with_reducible refine below_drewN ?_ _ | with_reducible refine Below.drew ?_ | refine below_call0 ?_ (by assumption))) <;> (first | omega | (simp; done) | (simp; omega)))
set_option maxHeartbeats 2000000 in
theorem sub2_lt (m a b s r : Nat) (k : Bool) (hm : m < R256) (ha : a < R256) (hb : b < R256) (sR : s < R256) (hl : decide (a < b) = true) (hs : s = addN a m) (hk : k = decide (addK a m = 1)) (hr : r = subN s b) (w : World) : Calls Tryd.prog 19 #[.agg #[.int .u64 (limb (m) 0 : Nat), .int .u64 (limb (m) 1 : Nat), .int .u64 (limb (m) 2 : Nat), .int .u64 (limb (m) 3 : Nat), .int .u64 (limb (R256 - (m)) 0 : Nat), .int .u64 (limb (R256 - (m)) 1 : Nat), .int .u64 (limb (R256 - (m)) 2 : Nat), .int .u64 (limb (R256 - (m)) 3 : Nat)], .agg #[.int .u64 (limb (a) 0 : Nat), .int .u64 (limb (a) 1 : Nat), .int .u64 (limb (a) 2 : Nat), .int .u64 (limb (a) 3 : Nat)], .agg #[.int .u64 (limb (b) 0 : Nat), .int .u64 (limb (b) 1 : Nat), .int .u64 (limb (b) 2 : Nat), .int .u64 (limb (b) 3 : Nat)]] w fun e w' => e = .returned (.agg #[.int .u64 (limb (r) 0 : Nat), .int .u64 (limb (r) 1 : Nat), .int .u64 (limb (r) 2 : Nat), .int .u64 (limb (r) 3 : Nat)]) ∧ Below w.heap.size w w' := by
  have kl : ∀ w : World, Calls Tryd.prog 28 #[.agg #[.int .u64 (limb (a) 0 : Nat), .int .u64 (limb (a) 1 : Nat), .int .u64 (limb (a) 2 : Nat), .int .u64 (limb (a) 3 : Nat)], .agg #[.int .u64 (limb (b) 0 : Nat), .int .u64 (limb (b) 1 : Nat), .int .u64 (limb (b) 2 : Nat), .int .u64 (limb (b) 3 : Nat)]] w fun e w' => e = .returned (.bool true) ∧ Below w.heap.size w w' := fun w => by rw [← hl]; exact less_ref a b (by assumption) (by assumption) w
  have KL : Hid _ := kl
  clear kl
  have k2 := plus2_any a m ha hm
  rw [← hs, ← hk] at k2
  have K2 : Hid _ := k2
  have k3 := minus2_any s b sR hb
  rw [← hr] at k3
  have K3 : Hid _ := k3
  clear k2 k3 hr hl ha hb sR hs hk hm
  obtain ⟨G, hG⟩ : ∃ G, G = R256 - m := ⟨_, rfl⟩
  rw [← hG]
  have HF : Hid (∀ W t, FieldB ((W : World).alloc (.cells #[.int .u64 (limb m 0 : Nat), .int .u64 (limb m 1 : Nat), .int .u64 (limb m 2 : Nat), .int .u64 (limb m 3 : Nat), .int .u64 (limb (R256 - m) 0 : Nat), .int .u64 (limb (R256 - m) 1 : Nat), .int .u64 (limb (R256 - m) 2 : Nat), .int .u64 (limb (R256 - m) 3 : Nat)] t)) W.heap.size m) := fun W t => FieldB.new W m t
  rw [← hG] at HF
  clear hG
  go_enter Tryd.func19, Tryd.ntmps19
  go_wp2_with fail
  refine (KL.out _).mono ?_
  rintro e w1 ⟨rfl, hb1⟩
  have P1 := Pend.call_new hb1
  simp only [World.size_alloc] at P1
  have F1 : FieldB w1 w.heap.size m := FieldB.call (FieldB.alloc (FieldB.alloc (FieldB.alloc (HF.out w _)))) hb1
  have A1 : NS w1 (w.heap.size + 1) a := by
    have t := NS.call (NS.alloc (NS.alloc (NS.new _ _ _))) hb1
    simp only [World.size_alloc] at t
    exact t
  have B1 : NS w1 (w.heap.size + 1 + 1) b := by
    have t := NS.call (NS.alloc (NS.new _ _ _)) hb1
    simp only [World.size_alloc] at t
    exact t
  have W1 : Below w.heap.size w w1 := below_call0 (below_alloc0 (below_alloc0 (below_alloc0 (below_alloc0 (Below.refl _ _) _) _) _) _) hb1
  clear hb1 KL HF
  obtain ⟨⟨a0, a1, a2, a3⟩, az⟩ := A1.facts
  obtain ⟨m0, m1, m2, m3⟩ := F1.1.facts
  have fz := F1.2.2
  go_wp2_with fail
  refine (K2.out _).mono ?_
  rintro e w2 ⟨rfl, hb2⟩
  have P2 := P1.call hb2
  have B2 := B1.call hb2
  have W2 : Below w.heap.size w w2 := below_call0 W1 hb2
  obtain ⟨⟨b0, b1, b2, b3⟩, bz⟩ := B2.facts
  clear hb2 K2 F1 A1 B1 W1 P1 a0 a1 a2 a3 az m0 m1 m2 m3 fz
  go_wp2_with fail
  refine (K3.out _).mono ?_
  rintro e w3 ⟨rfl, hb3⟩
  have P3 := P2.alloc.call hb3
  have W3 : Below w.heap.size w w3 := below_acall W2 hb3
  clear hb3 K3
  obtain ⟨⟨p0, p1, p2, p3⟩, ⟨f0, f1, f2, f3⟩, pz⟩ := P3.facts
  go_wp2
  refine bodyPost_ret (v := .agg #[.int .u64 (limb (r) 0 : Nat), .int .u64 (limb (r) 1 : Nat), .int .u64 (limb (r) 2 : Nat), .int .u64 (limb (r) 3 : Nat)]) ?_ rfl ⟨rfl, ?_⟩
  · simp [results, Tryd.results19, go_sem, p0, p1, p2, p3]
  · ((repeat' (first | with_reducible exact Below.refl _ _ | with_reducible refine Below.setCell ?_ ?_ _ | with_reducible refine below_alloc0 ?_ _ | with_reducible refine below_drewN ?_ _ | with_reducible refine Below.drew ?_ | refine below_call0 ?_ (by assumption))) <;> (first | omega | (simp; done) | (simp; omega)))
theorem sub2_any (m a b : Nat) (hm : m < R256) (ha : a < m) (hb : b < m) (w : World) : Calls Tryd.prog 19 #[.agg #[.int .u64 (limb (m) 0 : Nat), .int .u64 (limb (m) 1 : Nat), .int .u64 (limb (m) 2 : Nat), .int .u64 (limb (m) 3 : Nat), .int .u64 (limb (R256 - (m)) 0 : Nat), .int .u64 (limb (R256 - (m)) 1 : Nat), .int .u64 (limb (R256 - (m)) 2 : Nat), .int .u64 (limb (R256 - (m)) 3 : Nat)], .agg #[.int .u64 (limb (a) 0 : Nat), .int .u64 (limb (a) 1 : Nat), .int .u64 (limb (a) 2 : Nat), .int .u64 (limb (a) 3 : Nat)], .agg #[.int .u64 (limb (b) 0 : Nat), .int .u64 (limb (b) 1 : Nat), .int .u64 (limb (b) 2 : Nat), .int .u64 (limb (b) 3 : Nat)]] w fun e w' => e = .returned (.agg #[.int .u64 (limb (subM m a b) 0 : Nat), .int .u64 (limb (subM m a b) 1 : Nat), .int .u64 (limb (subM m a b) 2 : Nat), .int .u64 (limb (subM m a b) 3 : Nat)]) ∧ Below w.heap.size w w' := by
  by_cases h : a < b
  · refine sub2_lt m a b (addN a m) _ _ hm (by omega) (by omega) (addN_lt a m) (decide_eq_true h) rfl rfl ?_ w
    unfold addN subN subM
    by_cases q : a + m < R256
    · rw [Nat.mod_eq_of_lt q, show a + m + R256 - b = (a + m - b) + R256 from by omega, Nat.add_mod_right, Nat.mod_eq_of_lt (by omega), Nat.mod_eq_of_lt (by omega)]
    · rw [show a + m = (a + m - R256) + R256 from by omega, Nat.add_mod_right, Nat.mod_eq_of_lt (show a + m - R256 < R256 by omega), show a + m - R256 + R256 - b = a + m - b from by omega, Nat.mod_eq_of_lt (by omega), Nat.mod_eq_of_lt (by omega)]
  · exact sub2_ge m a b _ (by omega) (by omega) (decide_eq_false h) (minus_ge m a b hm ha hb (by omega)).symm w
end Go.Proofs.YtbpgiijdcagckaaDoor
