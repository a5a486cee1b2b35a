/- Several texts laid together. -/
import Derived.Test.YtkdejflgmgljiaaDoorRfM
import Derived.Test.YtkdejflgmgljiaaDoorLbA
import Derived.Test.YtkdejflgmgljiaaDoorFieldL
import Derived.Deep.RegionHeld3
import Derived.Test.YtkdejflgmgljiaaDoorHeldN
import Derived.Test.YtkdejflgmgljiaaDoorBtM
import Derived.Test.YtkdejflgmgljiaaDoorFdB
namespace Go.Proofs.YtkdejflgmgljiaaDoor
open Go.RowKit

set_option maxHeartbeats 1000000 in
theorem has2_any (m a : Nat) (hm : m < R256) (ha : a < R256) (w : World) : Calls Tryd.prog 28 #[.agg #[.int .u64 (limb (m) 0 : Nat), .int .u64 (limb (m) 1 : Nat), .int .u64 (limb (m) 2 : Nat), .int .u64 (limb (m) 3 : Nat), .int .u64 (limb (R256 - (m)) 0 : Nat), .int .u64 (limb (R256 - (m)) 1 : Nat), .int .u64 (limb (R256 - (m)) 2 : Nat), .int .u64 (limb (R256 - (m)) 3 : Nat)], .agg #[.int .u64 (limb (a) 0 : Nat), .int .u64 (limb (a) 1 : Nat), .int .u64 (limb (a) 2 : Nat), .int .u64 (limb (a) 3 : Nat)]] w fun e w' => e = .returned (.bool (decide (a < m))) ∧ Below w.heap.size w w' := by
  obtain ⟨G, hG⟩ : ∃ G, G = R256 - m := ⟨_, rfl⟩
  rw [← hG]
  have K : Hid _ := less_ref a m ha hm
  clear hG ha hm
  go_enter Tryd.func28, Tryd.ntmps28
  go_wp2_with fail
  refine (K.out _).mono ?_
  rintro e w1 ⟨rfl, hb1⟩
  have hz1 := hb1.size
  try simp only [World.size_alloc] at hz1
  have W1 : Below w.heap.size w w1 := by ((repeat' (first | with_reducible exact Below.refl _ _ | with_reducible refine Below.setCell ?_ ?_ _ | with_reducible refine below_alloc0 ?_ _ | with_reducible refine below_drewN ?_ _ | with_reducible refine Below.drew ?_ | refine below_call0 ?_ (by assumption))) <;> (first | omega | (simp; done) | (simp; omega)))
  clear hb1 K
  go_wp2
  go_ret
  exact ⟨rfl, W1⟩
theorem has2_b (m a : Nat) (b : Bool) (hm : m < R256) (ha : a < R256) (h : decide (a < m) = b) (w : World) : Calls Tryd.prog 28 #[.agg #[.int .u64 (limb (m) 0 : Nat), .int .u64 (limb (m) 1 : Nat), .int .u64 (limb (m) 2 : Nat), .int .u64 (limb (m) 3 : Nat), .int .u64 (limb (R256 - (m)) 0 : Nat), .int .u64 (limb (R256 - (m)) 1 : Nat), .int .u64 (limb (R256 - (m)) 2 : Nat), .int .u64 (limb (R256 - (m)) 3 : Nat)], .agg #[.int .u64 (limb (a) 0 : Nat), .int .u64 (limb (a) 1 : Nat), .int .u64 (limb (a) 2 : Nat), .int .u64 (limb (a) 3 : Nat)]] w fun e w' => e = .returned (.bool b) ∧ Below w.heap.size w w' := by
  rw [← h]
  exact has2_any m a hm ha w


set_option maxHeartbeats 2000000 in
theorem add2_over (m a b s r : Nat) (hm : m < R256) (ha : a < R256) (hb : b < R256) (hs : s = addN a b) (sR : s < R256) (hk : addK a b = 1) (hr : r = subN s m) (w : World) : Calls Tryd.prog 50 #[.agg #[.int .u64 (limb (m) 0 : Nat), .int .u64 (limb (m) 1 : Nat), .int .u64 (limb (m) 2 : Nat), .int .u64 (limb (m) 3 : Nat), .int .u64 (limb (R256 - (m)) 0 : Nat), .int .u64 (limb (R256 - (m)) 1 : Nat), .int .u64 (limb (R256 - (m)) 2 : Nat), .int .u64 (limb (R256 - (m)) 3 : Nat)], .agg #[.int .u64 (limb (a) 0 : Nat), .int .u64 (limb (a) 1 : Nat), .int .u64 (limb (a) 2 : Nat), .int .u64 (limb (a) 3 : Nat)], .agg #[.int .u64 (limb (b) 0 : Nat), .int .u64 (limb (b) 1 : Nat), .int .u64 (limb (b) 2 : Nat), .int .u64 (limb (b) 3 : Nat)]] w fun e w' => e = .returned (.agg #[.int .u64 (limb (r) 0 : Nat), .int .u64 (limb (r) 1 : Nat), .int .u64 (limb (r) 2 : Nat), .int .u64 (limb (r) 3 : Nat)]) ∧ Below w.heap.size w w' := by
  have k1 := plus2_any a b ha hb
  rw [hk, ← hs] at k1
  have K1 : Hid _ := k1
  have k3 := minus2_any s m sR hm
  rw [← hr] at k3
  have K3 : Hid _ := k3
  clear k3
  obtain ⟨G, hG⟩ : ∃ G, G = R256 - m := ⟨_, rfl⟩
  rw [← hG]
  have HF : Hid (∀ W t, FieldB ((W : World).alloc (.cells #[.int .u64 (limb m 0 : Nat), .int .u64 (limb m 1 : Nat), .int .u64 (limb m 2 : Nat), .int .u64 (limb m 3 : Nat), .int .u64 (limb (R256 - m) 0 : Nat), .int .u64 (limb (R256 - m) 1 : Nat), .int .u64 (limb (R256 - m) 2 : Nat), .int .u64 (limb (R256 - m) 3 : Nat)] t)) W.heap.size m) := fun W t => FieldB.new W m t
  rw [← hG] at HF
  clear hG
  clear k1 hk hs hr
  go_enter Tryd.func50, Tryd.ntmps50
  go_wp2_with fail
  refine (K1.out _).mono ?_
  rintro e w1 ⟨rfl, hb1⟩
  have P1 := Pend.call_new hb1
  simp only [World.size_alloc] at P1
  have F1 : FieldB w1 w.heap.size m := FieldB.call (FieldB.alloc (FieldB.alloc (FieldB.alloc (HF.out w _)))) hb1
  have A1 : NS w1 (w.heap.size + 1) a := by
    have t := NS.call (NS.alloc (NS.alloc (NS.new _ _ _))) hb1
    simp only [World.size_alloc] at t
    exact t
  have B1 : NS w1 (w.heap.size + 1 + 1) b := by
    have t := NS.call (NS.alloc (NS.new _ _ _)) hb1
    simp only [World.size_alloc] at t
    exact t
  have W1 : Below w.heap.size w w1 := below_call0 (below_alloc0 (below_alloc0 (below_alloc0 (below_alloc0 (Below.refl _ _) _) _) _) _) hb1
  clear hb1 K1 HF
  obtain ⟨m0, m1, m2, m3⟩ := F1.1.facts
  have fz := F1.2.2
  clear A1 B1
  go_wp2_with fail
  refine (K3.out _).mono ?_
  rintro e w3 ⟨rfl, hb3⟩
  have P3 := P1.alloc.call hb3
  have W3 : Below w.heap.size w w3 := below_acall W1 hb3
  clear hb3 K3
  obtain ⟨⟨p0, p1, p2, p3⟩, ⟨f0, f1, f2, f3⟩, pz⟩ := P3.facts
  go_wp2
  refine bodyPost_ret (v := .agg #[.int .u64 (limb (r) 0 : Nat), .int .u64 (limb (r) 1 : Nat), .int .u64 (limb (r) 2 : Nat), .int .u64 (limb (r) 3 : Nat)]) ?_ rfl ⟨rfl, ?_⟩
  · simp [results, Tryd.results50, go_sem, p0, p1, p2, p3]
  · ((repeat' (first | with_reducible exact Below.refl _ _ | with_reducible refine Below.setCell ?_ ?_ _ | with_reducible refine below_alloc0 ?_ _ | with_reducible refine below_drewN ?_ _ | with_reducible refine Below.drew ?_ | refine below_call0 ?_ (by assumption))) <;> (first | omega | (simp; done) | (simp; omega)))
set_option maxHeartbeats 2000000 in
theorem add2_ge (m a b s r : Nat) (hm : m < R256) (ha : a < R256) (hb : b < R256) (hs : s = addN a b) (sR : s < R256) (hk : addK a b = 0) (hl : decide (s < m) = false) (hr : r = subN s m) (w : World) : Calls Tryd.prog 50 #[.agg #[.int .u64 (limb (m) 0 : Nat), .int .u64 (limb (m) 1 : Nat), .int .u64 (limb (m) 2 : Nat), .int .u64 (limb (m) 3 : Nat), .int .u64 (limb (R256 - (m)) 0 : Nat), .int .u64 (limb (R256 - (m)) 1 : Nat), .int .u64 (limb (R256 - (m)) 2 : Nat), .int .u64 (limb (R256 - (m)) 3 : Nat)], .agg #[.int .u64 (limb (a) 0 : Nat), .int .u64 (limb (a) 1 : Nat), .int .u64 (limb (a) 2 : Nat), .int .u64 (limb (a) 3 : Nat)], .agg #[.int .u64 (limb (b) 0 : Nat), .int .u64 (limb (b) 1 : Nat), .int .u64 (limb (b) 2 : Nat), .int .u64 (limb (b) 3 : Nat)]] w fun e w' => e = .returned (.agg #[.int .u64 (limb (r) 0 : Nat), .int .u64 (limb (r) 1 : Nat), .int .u64 (limb (r) 2 : Nat), .int .u64 (limb (r) 3 : Nat)]) ∧ Below w.heap.size w w' := by
  have k1 := plus2_any a b ha hb
  rw [hk, ← hs] at k1
  have K1 : Hid _ := k1
  have k3 := minus2_any s m sR hm
  rw [← hr] at k3
  have K3 : Hid _ := k3
  clear k3
  have kl : ∀ w : World, Calls Tryd.prog 52 #[.agg #[.int .u64 (limb (s) 0 : Nat), .int .u64 (limb (s) 1 : Nat), .int .u64 (limb (s) 2 : Nat), .int .u64 (limb (s) 3 : Nat)], .agg #[.int .u64 (limb (m) 0 : Nat), .int .u64 (limb (m) 1 : Nat), .int .u64 (limb (m) 2 : Nat), .int .u64 (limb (m) 3 : Nat)]] w fun e w' => e = .returned (.bool false) ∧ Below w.heap.size w w' := fun w => by rw [← hl]; exact less_ref s m (by assumption) (by assumption) w
  have KL : Hid _ := kl
  clear kl
  obtain ⟨G, hG⟩ : ∃ G, G = R256 - m := ⟨_, rfl⟩
  rw [← hG]
  have HF : Hid (∀ W t, FieldB ((W : World).alloc (.cells #[.int .u64 (limb m 0 : Nat), .int .u64 (limb m 1 : Nat), .int .u64 (limb m 2 : Nat), .int .u64 (limb m 3 : Nat), .int .u64 (limb (R256 - m) 0 : Nat), .int .u64 (limb (R256 - m) 1 : Nat), .int .u64 (limb (R256 - m) 2 : Nat), .int .u64 (limb (R256 - m) 3 : Nat)] t)) W.heap.size m) := fun W t => FieldB.new W m t
  rw [← hG] at HF
  clear hG
  clear k1 hk hs hr hl
  go_enter Tryd.func50, Tryd.ntmps50
  go_wp2_with fail
  refine (K1.out _).mono ?_
  rintro e w1 ⟨rfl, hb1⟩
  have P1 := Pend.call_new hb1
  simp only [World.size_alloc] at P1
  have F1 : FieldB w1 w.heap.size m := FieldB.call (FieldB.alloc (FieldB.alloc (FieldB.alloc (HF.out w _)))) hb1
  have A1 : NS w1 (w.heap.size + 1) a := by
    have t := NS.call (NS.alloc (NS.alloc (NS.new _ _ _))) hb1
    simp only [World.size_alloc] at t
    exact t
  have B1 : NS w1 (w.heap.size + 1 + 1) b := by
    have t := NS.call (NS.alloc (NS.new _ _ _)) hb1
    simp only [World.size_alloc] at t
    exact t
  have W1 : Below w.heap.size w w1 := below_call0 (below_alloc0 (below_alloc0 (below_alloc0 (below_alloc0 (Below.refl _ _) _) _) _) _) hb1
  clear hb1 K1 HF
  obtain ⟨m0, m1, m2, m3⟩ := F1.1.facts
  have fz := F1.2.2
  clear A1 B1
  go_wp2_with fail
  refine (KL.out _).mono ?_
  rintro e w2 ⟨rfl, hb2⟩
  have P2 := P1.alloc.call hb2
  have F2 := F1.alloc.call hb2
  have S2 : NS w2 w1.heap.size s := NS.ncall hb2
  have W2 : Below w.heap.size w w2 := below_acall W1 hb2
  obtain ⟨⟨s0, s1, s2, s3⟩, sz⟩ := S2.facts
  clear m0 m1 m2 m3 fz hb2 KL P1 F1 W1
  obtain ⟨m0, m1, m2, m3⟩ := F2.1.facts
  have fz := F2.2.2
  go_wp2_with fail
  refine (K3.out _).mono ?_
  rintro e w3 ⟨rfl, hb3⟩
  have P3 := P2.call hb3
  have W3 : Below w.heap.size w w3 := below_call0 W2 hb3
  clear hb3 K3
  obtain ⟨⟨p0, p1, p2, p3⟩, ⟨f0, f1, f2, f3⟩, pz⟩ := P3.facts
  go_wp2
  refine bodyPost_ret (v := .agg #[.int .u64 (limb (r) 0 : Nat), .int .u64 (limb (r) 1 : Nat), .int .u64 (limb (r) 2 : Nat), .int .u64 (limb (r) 3 : Nat)]) ?_ rfl ⟨rfl, ?_⟩
  · simp [results, Tryd.results50, go_sem, p0, p1, p2, p3]
  · ((repeat' (first | with_reducible exact Below.refl _ _ | with_reducible refine Below.setCell ?_ ?_ _ | with_reducible refine below_alloc0 ?_ _ | with_reducible refine below_drewN ?_ _ | with_reducible refine Below.drew ?_ | refine below_call0 ?_ (by assumption))) <;> (first | omega | (simp; done) | (simp; omega)))
set_option maxHeartbeats 2000000 in
theorem add2_lt (m a b s : Nat) (hm : m < R256) (ha : a < R256) (hb : b < R256) (hs : s = addN a b) (sR : s < R256) (hk : addK a b = 0) (hl : decide (s < m) = true) (w : World) : Calls Tryd.prog 50 #[.agg #[.int .u64 (limb (m) 0 : Nat), .int .u64 (limb (m) 1 : Nat), .int .u64 (limb (m) 2 : Nat), .int .u64 (limb (m) 3 : Nat), .int .u64 (limb (R256 - (m)) 0 : Nat), .int .u64 (limb (R256 - (m)) 1 : Nat), .int .u64 (limb (R256 - (m)) 2 : Nat), .int .u64 (limb (R256 - (m)) 3 : Nat)], .agg #[.int .u64 (limb (a) 0 : Nat), .int .u64 (limb (a) 1 : Nat), .int .u64 (limb (a) 2 : Nat), .int .u64 (limb (a) 3 : Nat)], .agg #[.int .u64 (limb (b) 0 : Nat), .int .u64 (limb (b) 1 : Nat), .int .u64 (limb (b) 2 : Nat), .int .u64 (limb (b) 3 : Nat)]] w fun e w' => e = .returned (.agg #[.int .u64 (limb (s) 0 : Nat), .int .u64 (limb (s) 1 : Nat), .int .u64 (limb (s) 2 : Nat), .int .u64 (limb (s) 3 : Nat)]) ∧ Below w.heap.size w w' := by
  have k1 := plus2_any a b ha hb
  rw [hk, ← hs] at k1
  have K1 : Hid _ := k1
  have kl : ∀ w : World, Calls Tryd.prog 52 #[.agg #[.int .u64 (limb (s) 0 : Nat), .int .u64 (limb (s) 1 : Nat), .int .u64 (limb (s) 2 : Nat), .int .u64 (limb (s) 3 : Nat)], .agg #[.int .u64 (limb (m) 0 : Nat), .int .u64 (limb (m) 1 : Nat), .int .u64 (limb (m) 2 : Nat), .int .u64 (limb (m) 3 : Nat)]] w fun e w' => e = .returned (.bool true) ∧ Below w.heap.size w w' := fun w => by rw [← hl]; exact less_ref s m (by assumption) (by assumption) w
  have KL : Hid _ := kl
  clear kl
  obtain ⟨G, hG⟩ : ∃ G, G = R256 - m := ⟨_, rfl⟩
  rw [← hG]
  have HF : Hid (∀ W t, FieldB ((W : World).alloc (.cells #[.int .u64 (limb m 0 : Nat), .int .u64 (limb m 1 : Nat), .int .u64 (limb m 2 : Nat), .int .u64 (limb m 3 : Nat), .int .u64 (limb (R256 - m) 0 : Nat), .int .u64 (limb (R256 - m) 1 : Nat), .int .u64 (limb (R256 - m) 2 : Nat), .int .u64 (limb (R256 - m) 3 : Nat)] t)) W.heap.size m) := fun W t => FieldB.new W m t
  rw [← hG] at HF
  clear hG
  clear k1 hk hs hl
  go_enter Tryd.func50, Tryd.ntmps50
  go_wp2_with fail
  refine (K1.out _).mono ?_
  rintro e w1 ⟨rfl, hb1⟩
  have P1 := Pend.call_new hb1
  simp only [World.size_alloc] at P1
  have F1 : FieldB w1 w.heap.size m := FieldB.call (FieldB.alloc (FieldB.alloc (FieldB.alloc (HF.out w _)))) hb1
  have A1 : NS w1 (w.heap.size + 1) a := by
    have t := NS.call (NS.alloc (NS.alloc (NS.new _ _ _))) hb1
    simp only [World.size_alloc] at t
    exact t
  have B1 : NS w1 (w.heap.size + 1 + 1) b := by
    have t := NS.call (NS.alloc (NS.new _ _ _)) hb1
    simp only [World.size_alloc] at t
    exact t
  have W1 : Below w.heap.size w w1 := below_call0 (below_alloc0 (below_alloc0 (below_alloc0 (below_alloc0 (Below.refl _ _) _) _) _) _) hb1
  clear hb1 K1 HF
  obtain ⟨m0, m1, m2, m3⟩ := F1.1.facts
  have fz := F1.2.2
  clear A1 B1
  go_wp2_with fail
  refine (KL.out _).mono ?_
  rintro e w2 ⟨rfl, hb2⟩
  have P2 := P1.alloc.call hb2
  have F2 := F1.alloc.call hb2
  have S2 : NS w2 w1.heap.size s := NS.ncall hb2
  have W2 : Below w.heap.size w w2 := below_acall W1 hb2
  obtain ⟨⟨s0, s1, s2, s3⟩, sz⟩ := S2.facts
  clear m0 m1 m2 m3 fz hb2 KL P1 F1 W1
  obtain ⟨m0, m1, m2, m3⟩ := F2.1.facts
  have fz := F2.2.2
  obtain ⟨⟨p0, p1, p2, p3⟩, ⟨f0, f1, f2, f3⟩, pz⟩ := P2.facts
  go_wp2
  refine bodyPost_ret (v := .agg #[.int .u64 (limb (s) 0 : Nat), .int .u64 (limb (s) 1 : Nat), .int .u64 (limb (s) 2 : Nat), .int .u64 (limb (s) 3 : Nat)]) ?_ rfl ⟨rfl, ?_⟩
  · simp [results, Tryd.results50, go_sem, p0, p1, p2, p3]
  · ((repeat' (first | with_reducible exact Below.refl _ _ | with_reducible refine Below.setCell ?_ ?_ _ | with_reducible refine below_alloc0 ?_ _ | with_reducible refine below_drewN ?_ _ | with_reducible refine Below.drew ?_ | refine below_call0 ?_ (by assumption))) <;> (first | omega | (simp; done) | (simp; omega)))
theorem add2_any (m a b : Nat) (hm : m < R256) (ha : a < m) (hb : b < m) (w : World) : Calls Tryd.prog 50 #[.agg #[.int .u64 (limb (m) 0 : Nat), .int .u64 (limb (m) 1 : Nat), .int .u64 (limb (m) 2 : Nat), .int .u64 (limb (m) 3 : Nat), .int .u64 (limb (R256 - (m)) 0 : Nat), .int .u64 (limb (R256 - (m)) 1 : Nat), .int .u64 (limb (R256 - (m)) 2 : Nat), .int .u64 (limb (R256 - (m)) 3 : Nat)], .agg #[.int .u64 (limb (a) 0 : Nat), .int .u64 (limb (a) 1 : Nat), .int .u64 (limb (a) 2 : Nat), .int .u64 (limb (a) 3 : Nat)], .agg #[.int .u64 (limb (b) 0 : Nat), .int .u64 (limb (b) 1 : Nat), .int .u64 (limb (b) 2 : Nat), .int .u64 (limb (b) 3 : Nat)]] w fun e w' => e = .returned (.agg #[.int .u64 (limb ((a + b) % m) 0 : Nat), .int .u64 (limb ((a + b) % m) 1 : Nat), .int .u64 (limb ((a + b) % m) 2 : Nat), .int .u64 (limb ((a + b) % m) 3 : Nat)]) ∧ Below w.heap.size w w' := by
  have e := plus_val m a b hm ha hb
  have k := addK_le a b (by omega) (by omega)
  have l := addN_lt a b
  rw [← e]
  unfold lessN
  by_cases h1 : addK a b = 1
  · rw [if_neg (by omega)]
    exact add2_over m a b _ _ hm (by omega) (by omega) rfl l h1 rfl w
  · have h0 : addK a b = 0 := by omega
    by_cases h2 : addN a b < m
    · rw [if_pos ⟨h0, h2⟩]
      exact add2_lt m a b _ hm (by omega) (by omega) rfl l h0 (decide_eq_true h2) w
    · rw [if_neg (fun c => h2 c.2)]
      exact add2_ge m a b _ _ hm (by omega) (by omega) rfl l h0 (decide_eq_false h2) rfl w
set_option maxHeartbeats 2000000 in
theorem sub2_ge (m a b r : Nat) (ha : a < R256) (hb : b < R256) (hl : decide (a < b) = false) (hr : r = subN a b) (w : World) : Calls Tryd.prog 47 #[.agg #[.int .u64 (limb (m) 0 : Nat), .int .u64 (limb (m) 1 : Nat), .int .u64 (limb (m) 2 : Nat), .int .u64 (limb (m) 3 : Nat), .int .u64 (limb (R256 - (m)) 0 : Nat), .int .u64 (limb (R256 - (m)) 1 : Nat), .int .u64 (limb (R256 - (m)) 2 : Nat), .int .u64 (limb (R256 - (m)) 3 : Nat)], .agg #[.int .u64 (limb (a) 0 : Nat), .int .u64 (limb (a) 1 : Nat), .int .u64 (limb (a) 2 : Nat), .int .u64 (limb (a) 3 : Nat)], .agg #[.int .u64 (limb (b) 0 : Nat), .int .u64 (limb (b) 1 : Nat), .int .u64 (limb (b) 2 : Nat), .int .u64 (limb (b) 3 : Nat)]] w fun e w' => e = .returned (.agg #[.int .u64 (limb (r) 0 : Nat), .int .u64 (limb (r) 1 : Nat), .int .u64 (limb (r) 2 : Nat), .int .u64 (limb (r) 3 : Nat)]) ∧ Below w.heap.size w w' := by
  have kl : ∀ w : World, Calls Tryd.prog 52 #[.agg #[.int .u64 (limb (a) 0 : Nat), .int .u64 (limb (a) 1 : Nat), .int .u64 (limb (a) 2 : Nat), .int .u64 (limb (a) 3 : Nat)], .agg #[.int .u64 (limb (b) 0 : Nat), .int .u64 (limb (b) 1 : Nat), .int .u64 (limb (b) 2 : Nat), .int .u64 (limb (b) 3 : Nat)]] w fun e w' => e = .returned (.bool false) ∧ Below w.heap.size w w' := fun w => by rw [← hl]; exact less_ref a b (by assumption) (by assumption) w
  have KL : Hid _ := kl
  clear kl
  have k3 := minus2_any a b ha hb
  rw [← hr] at k3
  have K3 : Hid _ := k3
  clear k3 hr hl ha hb
  obtain ⟨G, hG⟩ : ∃ G, G = R256 - m := ⟨_, rfl⟩
  rw [← hG]
  have HF : Hid (∀ W t, FieldB ((W : World).alloc (.cells #[.int .u64 (limb m 0 : Nat), .int .u64 (limb m 1 : Nat), .int .u64 (limb m 2 : Nat), .int .u64 (limb m 3 : Nat), .int .u64 (limb (R256 - m) 0 : Nat), .int .u64 (limb (R256 - m) 1 : Nat), .int .u64 (limb (R256 - m) 2 : Nat), .int .u64 (limb (R256 - m) 3 : Nat)] t)) W.heap.size m) := fun W t => FieldB.new W m t
  rw [← hG] at HF
  clear hG
  go_enter Tryd.func47, Tryd.ntmps47
  go_wp2_with fail
  refine (KL.out _).mono ?_
  rintro e w1 ⟨rfl, hb1⟩
  have P1 := Pend.call_new hb1
  simp only [World.size_alloc] at P1
  have F1 : FieldB w1 w.heap.size m := FieldB.call (FieldB.alloc (FieldB.alloc (FieldB.alloc (HF.out w _)))) hb1
  have A1 : NS w1 (w.heap.size + 1) a := by
    have t := NS.call (NS.alloc (NS.alloc (NS.new _ _ _))) hb1
    simp only [World.size_alloc] at t
    exact t
  have B1 : NS w1 (w.heap.size + 1 + 1) b := by
    have t := NS.call (NS.alloc (NS.new _ _ _)) hb1
    simp only [World.size_alloc] at t
    exact t
  have W1 : Below w.heap.size w w1 := below_call0 (below_alloc0 (below_alloc0 (below_alloc0 (below_alloc0 (Below.refl _ _) _) _) _) _) hb1
  clear hb1 KL HF
  obtain ⟨⟨a0, a1, a2, a3⟩, az⟩ := A1.facts
  obtain ⟨⟨b0, b1, b2, b3⟩, bz⟩ := B1.facts
  go_wp2_with fail
  refine (K3.out _).mono ?_
  rintro e w3 ⟨rfl, hb3⟩
  have P3 := P1.call hb3
  have W3 : Below w.heap.size w w3 := below_call0 W1 hb3
  clear hb3 K3 F1
  obtain ⟨⟨p0, p1, p2, p3⟩, ⟨f0, f1, f2, f3⟩, pz⟩ := P3.facts
  go_wp2
  refine bodyPost_ret (v := .agg #[.int .u64 (limb (r) 0 : Nat), .int .u64 (limb (r) 1 : Nat), .int .u64 (limb (r) 2 : Nat), .int .u64 (limb (r) 3 : Nat)]) ?_ rfl ⟨rfl, ?_⟩
  · simp [results, Tryd.results47, go_sem, p0, p1, p2, p3]
  · ((repeat' (first | with_reducible exact Below.refl _ _ | with_reducible refine Below.setCell ?_ ?_ _ | with_reducible refine below_alloc0 ?_ _ | with_reducible refine below_drewN ?_ _ | with_reducible refine Below.drew ?_ | refine below_call0 ?_ (by assumption))) <;> (first | omega | (simp; done) | (simp; omega)))
set_option maxHeartbeats 2000000 in
theorem sub2_lt (m a b s r : Nat) (k : Bool) (hm : m < R256) (ha : a < R256) (hb : b < R256) (sR : s < R256) (hl : decide (a < b) = true) (hs : s = addN a m) (hk : k = decide (addK a m = 1)) (hr : r = subN s b) (w : World) : Calls Tryd.prog 47 #[.agg #[.int .u64 (limb (m) 0 : Nat), .int .u64 (limb (m) 1 : Nat), .int .u64 (limb (m) 2 : Nat), .int .u64 (limb (m) 3 : Nat), .int .u64 (limb (R256 - (m)) 0 : Nat), .int .u64 (limb (R256 - (m)) 1 : Nat), .int .u64 (limb (R256 - (m)) 2 : Nat), .int .u64 (limb (R256 - (m)) 3 : Nat)], .agg #[.int .u64 (limb (a) 0 : Nat), .int .u64 (limb (a) 1 : Nat), .int .u64 (limb (a) 2 : Nat), .int .u64 (limb (a) 3 : Nat)], .agg #[.int .u64 (limb (b) 0 : Nat), .int .u64 (limb (b) 1 : Nat), .int .u64 (limb (b) 2 : Nat), .int .u64 (limb (b) 3 : Nat)]] w fun e w' => e = .returned (.agg #[.int .u64 (limb (r) 0 : Nat), .int .u64 (limb (r) 1 : Nat), .int .u64 (limb (r) 2 : Nat), .int .u64 (limb (r) 3 : Nat)]) ∧ Below w.heap.size w w' := by
  have kl : ∀ w : World, Calls Tryd.prog 52 #[.agg #[.int .u64 (limb (a) 0 : Nat), .int .u64 (limb (a) 1 : Nat), .int .u64 (limb (a) 2 : Nat), .int .u64 (limb (a) 3 : Nat)], .agg #[.int .u64 (limb (b) 0 : Nat), .int .u64 (limb (b) 1 : Nat), .int .u64 (limb (b) 2 : Nat), .int .u64 (limb (b) 3 : Nat)]] w fun e w' => e = .returned (.bool true) ∧ Below w.heap.size w w' := fun w => by rw [← hl]; exact less_ref a b (by assumption) (by assumption) w
  have KL : Hid _ := kl
  clear kl
  have k2 := plus2_any a m ha hm
  rw [← hs, ← hk] at k2
  have K2 : Hid _ := k2
  have k3 := minus2_any s b sR hb
  rw [← hr] at k3
  have K3 : Hid _ := k3
  clear k2 k3 hr hl ha hb sR hs hk hm
  obtain ⟨G, hG⟩ : ∃ G, G = R256 - m := ⟨_, rfl⟩
  rw [← hG]
  have HF : Hid (∀ W t, FieldB ((W : World).alloc (.cells #[.int .u64 (limb m 0 : Nat), .int .u64 (limb m 1 : Nat), .int .u64 (limb m 2 : Nat), .int .u64 (limb m 3 : Nat), .int .u64 (limb (R256 - m) 0 : Nat), .int .u64 (limb (R256 - m) 1 : Nat), .int .u64 (limb (R256 - m) 2 : Nat), .int .u64 (limb (R256 - m) 3 : Nat)] t)) W.heap.size m) := fun W t => FieldB.new W m t
  rw [← hG] at HF
  clear hG
  go_enter Tryd.func47, Tryd.ntmps47
  go_wp2_with fail
  refine (KL.out _).mono ?_
  rintro e w1 ⟨rfl, hb1⟩
  have P1 := Pend.call_new hb1
  simp only [World.size_alloc] at P1
  have F1 : FieldB w1 w.heap.size m := FieldB.call (FieldB.alloc (FieldB.alloc (FieldB.alloc (HF.out w _)))) hb1
  have A1 : NS w1 (w.heap.size + 1) a := by
    have t := NS.call (NS.alloc (NS.alloc (NS.new _ _ _))) hb1
    simp only [World.size_alloc] at t
    exact t
  have B1 : NS w1 (w.heap.size + 1 + 1) b := by
    have t := NS.call (NS.alloc (NS.new _ _ _)) hb1
    simp only [World.size_alloc] at t
    exact t
  have W1 : Below w.heap.size w w1 := below_call0 (below_alloc0 (below_alloc0 (below_alloc0 (below_alloc0 (Below.refl _ _) _) _) _) _) hb1
  clear hb1 KL HF
  obtain ⟨⟨a0, a1, a2, a3⟩, az⟩ := A1.facts
  obtain ⟨m0, m1, m2, m3⟩ := F1.1.facts
  have fz := F1.2.2
  go_wp2_with fail
  refine (K2.out _).mono ?_
  rintro e w2 ⟨rfl, hb2⟩
  have P2 := P1.call hb2
  have B2 := B1.call hb2
  have W2 : Below w.heap.size w w2 := below_call0 W1 hb2
  obtain ⟨⟨b0, b1, b2, b3⟩, bz⟩ := B2.facts
  clear hb2 K2 F1 A1 B1 W1 P1 a0 a1 a2 a3 az m0 m1 m2 m3 fz
  go_wp2_with fail
  refine (K3.out _).mono ?_
  rintro e w3 ⟨rfl, hb3⟩
  have P3 := P2.alloc.call hb3
  have W3 : Below w.heap.size w w3 := below_acall W2 hb3
  clear hb3 K3
  obtain ⟨⟨p0, p1, p2, p3⟩, ⟨f0, f1, f2, f3⟩, pz⟩ := P3.facts
  go_wp2
  refine bodyPost_ret (v := .agg #[.int .u64 (limb (r) 0 : Nat), .int .u64 (limb (r) 1 : Nat), .int .u64 (limb (r) 2 : Nat), .int .u64 (limb (r) 3 : Nat)]) ?_ rfl ⟨rfl, ?_⟩
  · simp [results, Tryd.results47, go_sem, p0, p1, p2, p3]
  · ((repeat' (first | with_reducible exact Below.refl _ _ | with_reducible refine Below.setCell ?_ ?_ _ | with_reducible refine below_alloc0 ?_ _ | with_reducible refine below_drewN ?_ _ | with_reducible refine Below.drew ?_ | refine below_call0 ?_ (by assumption))) <;> (first | omega | (simp; done) | (simp; omega)))
theorem sub2_any (m a b : Nat) (hm : m < R256) (ha : a < m) (hb : b < m) (w : World) : Calls Tryd.prog 47 #[.agg #[.int .u64 (limb (m) 0 : Nat), .int .u64 (limb (m) 1 : Nat), .int .u64 (limb (m) 2 : Nat), .int .u64 (limb (m) 3 : Nat), .int .u64 (limb (R256 - (m)) 0 : Nat), .int .u64 (limb (R256 - (m)) 1 : Nat), .int .u64 (limb (R256 - (m)) 2 : Nat), .int .u64 (limb (R256 - (m)) 3 : Nat)], .agg #[.int .u64 (limb (a) 0 : Nat), .int .u64 (limb (a) 1 : Nat), .int .u64 (limb (a) 2 : Nat), .int .u64 (limb (a) 3 : Nat)], .agg #[.int .u64 (limb (b) 0 : Nat), .int .u64 (limb (b) 1 : Nat), .int .u64 (limb (b) 2 : Nat), .int .u64 (limb (b) 3 : Nat)]] w fun e w' => e = .returned (.agg #[.int .u64 (limb (subM m a b) 0 : Nat), .int .u64 (limb (subM m a b) 1 : Nat), .int .u64 (limb (subM m a b) 2 : Nat), .int .u64 (limb (subM m a b) 3 : Nat)]) ∧ Below w.heap.size w w' := by
  by_cases h : a < b
  · refine sub2_lt m a b (addN a m) _ _ hm (by omega) (by omega) (addN_lt a m) (decide_eq_true h) rfl rfl ?_ w
    unfold addN subN subM
    by_cases q : a + m < R256
    · rw [Nat.mod_eq_of_lt q, show a + m + R256 - b = (a + m - b) + R256 from by omega, Nat.add_mod_right, Nat.mod_eq_of_lt (by omega), Nat.mod_eq_of_lt (by omega)]
    · rw [show a + m = (a + m - R256) + R256 from by omega, Nat.add_mod_right, Nat.mod_eq_of_lt (show a + m - R256 < R256 by omega), show a + m - R256 + R256 - b = a + m - b from by omega, Nat.mod_eq_of_lt (by omega), Nat.mod_eq_of_lt (by omega)]
  · exact sub2_ge m a b _ (by omega) (by omega) (decide_eq_false h) (minus_ge m a b hm ha hb (by omega)).symm w
end Go.Proofs.YtkdejflgmgljiaaDoor

namespace Go.Proofs.YtkdejflgmgljiaaDoor
open Go.RowKit

set_option maxRecDepth 100000 in
set_option maxHeartbeats 2000000 in
theorem mul2_go (m a b V r : Nat) (kt : ∀ w, Calls Tryd.prog 73 #[.agg #[.int .u64 (limb (a) 0 : Nat), .int .u64 (limb (a) 1 : Nat), .int .u64 (limb (a) 2 : Nat), .int .u64 (limb (a) 3 : Nat)], .agg #[.int .u64 (limb (b) 0 : Nat), .int .u64 (limb (b) 1 : Nat), .int .u64 (limb (b) 2 : Nat), .int .u64 (limb (b) 3 : Nat)]] w fun e w' => e = .returned (.agg #[.int .u64 (limb (V) 0 : Nat), .int .u64 (limb (V) 1 : Nat), .int .u64 (limb (V) 2 : Nat), .int .u64 (limb (V) 3 : Nat), .int .u64 (limb (V) 4 : Nat), .int .u64 (limb (V) 5 : Nat), .int .u64 (limb (V) 6 : Nat), .int .u64 (limb (V) 7 : Nat)]) ∧ Below w.heap.size w w') (kr : ∀ w, Calls Tryd.prog 72 #[.agg #[.int .u64 (limb (m) 0 : Nat), .int .u64 (limb (m) 1 : Nat), .int .u64 (limb (m) 2 : Nat), .int .u64 (limb (m) 3 : Nat), .int .u64 (limb (R256 - (m)) 0 : Nat), .int .u64 (limb (R256 - (m)) 1 : Nat), .int .u64 (limb (R256 - (m)) 2 : Nat), .int .u64 (limb (R256 - (m)) 3 : Nat)], .agg #[.int .u64 (limb (V) 0 : Nat), .int .u64 (limb (V) 1 : Nat), .int .u64 (limb (V) 2 : Nat), .int .u64 (limb (V) 3 : Nat), .int .u64 (limb (V) 4 : Nat), .int .u64 (limb (V) 5 : Nat), .int .u64 (limb (V) 6 : Nat), .int .u64 (limb (V) 7 : Nat)]] w fun e w' => e = .returned (.agg #[.int .u64 (limb (r) 0 : Nat), .int .u64 (limb (r) 1 : Nat), .int .u64 (limb (r) 2 : Nat), .int .u64 (limb (r) 3 : Nat)]) ∧ Below w.heap.size w w') (w : World) :
    Calls Tryd.prog 48 #[.agg #[.int .u64 (limb (m) 0 : Nat), .int .u64 (limb (m) 1 : Nat), .int .u64 (limb (m) 2 : Nat), .int .u64 (limb (m) 3 : Nat), .int .u64 (limb (R256 - (m)) 0 : Nat), .int .u64 (limb (R256 - (m)) 1 : Nat), .int .u64 (limb (R256 - (m)) 2 : Nat), .int .u64 (limb (R256 - (m)) 3 : Nat)], .agg #[.int .u64 (limb (a) 0 : Nat), .int .u64 (limb (a) 1 : Nat), .int .u64 (limb (a) 2 : Nat), .int .u64 (limb (a) 3 : Nat)], .agg #[.int .u64 (limb (b) 0 : Nat), .int .u64 (limb (b) 1 : Nat), .int .u64 (limb (b) 2 : Nat), .int .u64 (limb (b) 3 : Nat)]] w fun e w' => e = .returned (.agg #[.int .u64 (limb (r) 0 : Nat), .int .u64 (limb (r) 1 : Nat), .int .u64 (limb (r) 2 : Nat), .int .u64 (limb (r) 3 : Nat)]) ∧ Below w.heap.size w w' := by
  obtain ⟨G, hG⟩ : ∃ G, G = R256 - m := ⟨_, rfl⟩
  have HFN : Hid (∀ W t, FieldB ((W : World).alloc (.cells #[.int .u64 (limb m 0 : Nat), .int .u64 (limb m 1 : Nat), .int .u64 (limb m 2 : Nat), .int .u64 (limb m 3 : Nat), .int .u64 (limb (R256 - m) 0 : Nat), .int .u64 (limb (R256 - m) 1 : Nat), .int .u64 (limb (R256 - m) 2 : Nat), .int .u64 (limb (R256 - m) 3 : Nat)] t)) W.heap.size m) := fun W t => FieldB.new W m t
  rw [← hG] at kr HFN
  rw [← hG]
  have KT : Hid _ := kt
  have KR : Hid _ := kr
  have HG : Hid (G = R256 - m) := hG
  clear kt kr hG
  go_enter Tryd.func48, Tryd.ntmps48
  go_wp2_with fail
  obtain ⟨Y, hY⟩ : ∃ Y, Y = (((w.alloc (.cells #[.int .u64 (limb m 0 : Nat), .int .u64 (limb m 1 : Nat), .int .u64 (limb m 2 : Nat), .int .u64 (limb m 3 : Nat), .int .u64 (limb G 0 : Nat), .int .u64 (limb G 1 : Nat), .int .u64 (limb G 2 : Nat), .int .u64 (limb G 3 : Nat)] 61)).alloc (.cells #[.int .u64 (limb a 0 : Nat), .int .u64 (limb a 1 : Nat), .int .u64 (limb a 2 : Nat), .int .u64 (limb a 3 : Nat)] 34)).alloc (.cells #[.int .u64 (limb b 0 : Nat), .int .u64 (limb b 1 : Nat), .int .u64 (limb b 2 : Nat), .int .u64 (limb b 3 : Nat)] 34)).alloc (.cells #[.int .u64 0, .int .u64 0, .int .u64 0, .int .u64 0] 34) := ⟨_, rfl⟩
  rw [← hY]
  have HF : Hid (FieldB Y w.heap.size m) := by rw [hY]; exact FieldB.alloc (FieldB.alloc (FieldB.alloc (HFN.out w _)))
  have HA : Hid (NS Y (w.heap.size + 1) a) := by
    rw [hY]
    have t := NS.alloc (o := .cells #[.int .u64 0, .int .u64 0, .int .u64 0, .int .u64 0] 34) (NS.alloc (o := .cells #[.int .u64 (limb b 0 : Nat), .int .u64 (limb b 1 : Nat), .int .u64 (limb b 2 : Nat), .int .u64 (limb b 3 : Nat)] 34) (NS.new (w.alloc (.cells #[.int .u64 (limb m 0 : Nat), .int .u64 (limb m 1 : Nat), .int .u64 (limb m 2 : Nat), .int .u64 (limb m 3 : Nat), .int .u64 (limb G 0 : Nat), .int .u64 (limb G 1 : Nat), .int .u64 (limb G 2 : Nat), .int .u64 (limb G 3 : Nat)] 61)) a 34))
    simp only [World.size_alloc] at t
    exact t
  have HB : Hid (NS Y (w.heap.size + 1 + 1) b) := by
    rw [hY]
    have t := NS.alloc (o := .cells #[.int .u64 0, .int .u64 0, .int .u64 0, .int .u64 0] 34) (NS.new ((w.alloc (.cells #[.int .u64 (limb m 0 : Nat), .int .u64 (limb m 1 : Nat), .int .u64 (limb m 2 : Nat), .int .u64 (limb m 3 : Nat), .int .u64 (limb G 0 : Nat), .int .u64 (limb G 1 : Nat), .int .u64 (limb G 2 : Nat), .int .u64 (limb G 3 : Nat)] 61)).alloc (.cells #[.int .u64 (limb a 0 : Nat), .int .u64 (limb a 1 : Nat), .int .u64 (limb a 2 : Nat), .int .u64 (limb a 3 : Nat)] 34)) b 34)
    simp only [World.size_alloc] at t
    exact t
  have HP : Hid (Pend Y (w.heap.size + 1 + 1 + 1)) := by
    rw [hY]
    have t := Pend.new (((w.alloc (.cells #[.int .u64 (limb m 0 : Nat), .int .u64 (limb m 1 : Nat), .int .u64 (limb m 2 : Nat), .int .u64 (limb m 3 : Nat), .int .u64 (limb G 0 : Nat), .int .u64 (limb G 1 : Nat), .int .u64 (limb G 2 : Nat), .int .u64 (limb G 3 : Nat)] 61)).alloc (.cells #[.int .u64 (limb a 0 : Nat), .int .u64 (limb a 1 : Nat), .int .u64 (limb a 2 : Nat), .int .u64 (limb a 3 : Nat)] 34)).alloc (.cells #[.int .u64 (limb b 0 : Nat), .int .u64 (limb b 1 : Nat), .int .u64 (limb b 2 : Nat), .int .u64 (limb b 3 : Nat)] 34)) 34
    simp only [World.size_alloc] at t
    exact t
  have HW : Hid (Below w.heap.size w Y) := by rw [hY]; exact below_alloc0 (below_alloc0 (below_alloc0 (below_alloc0 (Below.refl _ _) _) _) _) _
  clear hY HFN
  refine wp_region_N (fun w' => Below Y.heap.size Y w') 5 6 rfl (by kernel_rfl) ?_
  refine wpAnyN_take (i := 0) (oi := ?o0) (v := ?v0) ?hi0 (by kernel_rfl) (by kernel_rfl) (by kernel_rfl) (by kernel_rfl) (by decide) (by kernel_rfl) ?hQ0 ?hy0 (Below.drew (Below.refl _ _)) ?more0
  case hi0 => rw [List.getElem?_toArray]; exact rfl
  case hQ0 => exact fun _ _ _ h => h
  case hy0 =>
    refine Or.inl ⟨by rfl, ?_⟩
    intro w' hSw
    have F' := FieldB.call HF.out hSw
    obtain ⟨m0, m1, m2, m3⟩ := F'.1.facts
    obtain ⟨g0, g1, g2, g3⟩ := F'.gap
    rw [← HG.out] at g0 g1 g2 g3
    obtain ⟨⟨a0, a1, a2, a3⟩, az⟩ := (NS.call HA.out hSw).facts
    obtain ⟨⟨b0, b1, b2, b3⟩, bz⟩ := (NS.call HB.out hSw).facts
    clear hSw F'
    go_simp
    try with_reducible rfl
  simp only [Act.put, List.setIfInBounds_toArray, List.set_cons_zero, List.set_cons_succ]
  refine wpAnyN_take (i := 1) (oi := ?o1) (v := ?v1) ?hi1 (by kernel_rfl) (by kernel_rfl) (by kernel_rfl) (by kernel_rfl) (by decide) (by kernel_rfl) ?hQ1 ?hy1 (Below.drew (Below.refl _ _)) ?more1
  case hi1 => rw [List.getElem?_toArray]; exact rfl
  case hQ1 => exact fun _ _ _ h => h
  case hy1 =>
    refine Or.inl ⟨by rfl, ?_⟩
    intro w' hSw
    have F' := FieldB.call HF.out hSw
    obtain ⟨m0, m1, m2, m3⟩ := F'.1.facts
    obtain ⟨g0, g1, g2, g3⟩ := F'.gap
    rw [← HG.out] at g0 g1 g2 g3
    obtain ⟨⟨a0, a1, a2, a3⟩, az⟩ := (NS.call HA.out hSw).facts
    obtain ⟨⟨b0, b1, b2, b3⟩, bz⟩ := (NS.call HB.out hSw).facts
    clear hSw F'
    go_simp
    try with_reducible rfl
  simp only [Act.put, List.setIfInBounds_toArray, List.set_cons_zero, List.set_cons_succ]
  refine wpAnyN_take (i := 2) (oi := ?o2) (v := ?v2) ?hi2 (by kernel_rfl) (by kernel_rfl) (by kernel_rfl) (by kernel_rfl) (by decide) (by kernel_rfl) ?hQ2 ?hy2 (Below.drew (Below.refl _ _)) ?more2
  case hi2 => rw [List.getElem?_toArray]; exact rfl
  case hQ2 => exact fun _ _ _ h => h
  case hy2 =>
    refine Or.inl ⟨by rfl, ?_⟩
    intro w' hSw
    have F' := FieldB.call HF.out hSw
    obtain ⟨m0, m1, m2, m3⟩ := F'.1.facts
    obtain ⟨g0, g1, g2, g3⟩ := F'.gap
    rw [← HG.out] at g0 g1 g2 g3
    obtain ⟨⟨a0, a1, a2, a3⟩, az⟩ := (NS.call HA.out hSw).facts
    obtain ⟨⟨b0, b1, b2, b3⟩, bz⟩ := (NS.call HB.out hSw).facts
    clear hSw F'
    go_simp
    try with_reducible rfl
  simp only [Act.put, List.setIfInBounds_toArray, List.set_cons_zero, List.set_cons_succ]
  refine wpAnyN_one (i := 3) (o := ?o3) (by kernel_rfl) ?hi3 ?hw3 ?st3
  case hi3 => rw [List.getElem?_toArray]; exact rfl
  case hw3 => exact rfl
  intro K hK
  have HK3 : Hid _ := hK
  clear hK
  go_simp
  refine (KT.out _).mono ?_
  rintro e w1 ⟨rfl, hq1⟩
  have HB1 : Hid (Below Y.heap.size Y w1) := below_call0 (Below.drew (Below.refl _ _)) hq1
  clear hq1
  go_wp2_with fail
  refine HK3.out _ _ ⟨fun _ => HB1.out, ?_⟩
  clear HK3 K
  try simp only [Act.put, List.setIfInBounds_toArray, List.set_cons_zero, List.set_cons_succ]
  refine wpAnyN_one (i := 4) (o := ?o4) (by kernel_rfl) ?hi4 ?hw4 ?st4
  case hi4 => rw [List.getElem?_toArray]; exact rfl
  case hw4 => exact rfl
  intro K hK
  have HK4 : Hid _ := hK
  clear hK
  go_simp
  refine (KR.out _).mono ?_
  rintro e w2 ⟨rfl, hq2⟩
  have HB2 : Hid (Below Y.heap.size Y w2) := below_call0 HB1.out hq2
  obtain ⟨⟨p0, p1, p2, p3⟩, ⟨f0, f1, f2, f3⟩, pz⟩ := (Pend.call HP.out HB2.out).facts
  clear hq2
  go_wp2_with fail
  refine HK4.out _ _ ⟨fun _ => HB2.out, ?_⟩
  clear HK4 K
  try simp only [Act.put, List.setIfInBounds_toArray, List.set_cons_zero, List.set_cons_succ]
  refine wpAnyN_one (i := 5) (o := ?o5) (by kernel_rfl) ?hi5 ?hw5 ?st5
  case hi5 => rw [List.getElem?_toArray]; exact rfl
  case hw5 => exact rfl
  intro K hK
  have HK5 : Hid _ := hK
  clear hK
  go_simp
  refine HK5.out _ _ ⟨fun h => absurd h (by decide +kernel), ?_⟩
  clear HK5 K
  try simp only [Act.put, List.setIfInBounds_toArray, List.set_cons_zero, List.set_cons_succ]
  refine wpAnyN_done (by kernel_rfl) ?_ _
  go_wp2_with fail
  have W2 : Below w.heap.size w w2 := below_call0 HW.out HB2.out
  refine bodyPost_ret (v := .agg #[.int .u64 (limb (r) 0 : Nat), .int .u64 (limb (r) 1 : Nat), .int .u64 (limb (r) 2 : Nat), .int .u64 (limb (r) 3 : Nat)]) ?_ rfl ⟨rfl, ?_⟩
  · simp [results, Tryd.results48, go_sem, p0, p1, p2, p3]
  · ((repeat' (first | with_reducible exact Below.refl _ _ | with_reducible refine Below.setCell ?_ ?_ _ | with_reducible refine below_alloc0 ?_ _ | with_reducible refine below_drewN ?_ _ | with_reducible refine Below.drew ?_ | refine below_call0 ?_ (by assumption))) <;> (first | omega | (simp; done) | (simp; omega)))
theorem mul2_any (m a b : Nat) (hF : FM m) (hS : FS m) (ha : a < R256) (hb : b < R256) (w : World) : Calls Tryd.prog 48 #[.agg #[.int .u64 (limb (m) 0 : Nat), .int .u64 (limb (m) 1 : Nat), .int .u64 (limb (m) 2 : Nat), .int .u64 (limb (m) 3 : Nat), .int .u64 (limb (R256 - (m)) 0 : Nat), .int .u64 (limb (R256 - (m)) 1 : Nat), .int .u64 (limb (R256 - (m)) 2 : Nat), .int .u64 (limb (R256 - (m)) 3 : Nat)], .agg #[.int .u64 (limb (a) 0 : Nat), .int .u64 (limb (a) 1 : Nat), .int .u64 (limb (a) 2 : Nat), .int .u64 (limb (a) 3 : Nat)], .agg #[.int .u64 (limb (b) 0 : Nat), .int .u64 (limb (b) 1 : Nat), .int .u64 (limb (b) 2 : Nat), .int .u64 (limb (b) 3 : Nat)]] w fun e w' => e = .returned (.agg #[.int .u64 (limb (a * b % m) 0 : Nat), .int .u64 (limb (a * b % m) 1 : Nat), .int .u64 (limb (a * b % m) 2 : Nat), .int .u64 (limb (a * b % m) 3 : Nat)]) ∧ Below w.heap.size w w' :=
  mul2_go m a b (a * b) _ (times2_any a b ha hb) (reduce2_any m (a * b) hF hS (Nat.mul_lt_mul_of_lt_of_le ha (Nat.le_of_lt hb) (by decide))) w
end Go.Proofs.YtkdejflgmgljiaaDoor

namespace Go.Proofs.YtkdejflgmgljiaaDoor
open Go.RowKit

def PowB (m a e n o : Nat) : Prop := o = a ^ (e / 2 ^ n) % m
theorem PowB.sq {m a e n o y : Nat} (h : PowB m a e (n + 1) o) (hy : y = o * o % m) (hb : bitN e n = 0) : PowB m a e n y := by
  unfold PowB at *
  rw [hy, h, ← Nat.mul_mod, ← Nat.pow_add, half_step e n, hb]
  congr 2
  omega
theorem PowB.sqm {m a e n o y z : Nat} (h : PowB m a e (n + 1) o) (hy : y = o * o % m) (hz : z = y * a % m) (hb : bitN e n = 1) : PowB m a e n z := by
  unfold PowB at *
  rw [hz, hy, h, ← Nat.mul_mod, ← Nat.pow_add, half_step e n, hb, Nat.mul_mod, Nat.mod_mod, ← Nat.mul_mod, ← Nat.pow_succ]
  congr 2
  omega
theorem PowB.top {m a e : Nat} (he : e < R256) (h1 : 1 < m) : PowB m a e 256 1 := by
  unfold PowB
  rw [Nat.div_eq_of_lt (show e < 2 ^ 256 from he), Nat.pow_zero, Nat.mod_eq_of_lt h1]
/-- What the loops of the reference's Pow keep. -/
def PoAt (w wx : World) (m a e o : Nat) : Prop := FieldB wx w.heap.size m ∧ Num4 wx (w.heap.size + 1) a ∧ Num4 wx (w.heap.size + 1 + 1) e ∧ Pend wx (w.heap.size + 1 + 1 + 1) ∧ Own4 wx (w.heap.size + 1 + 1 + 1 + 1) o ∧ Below w.heap.size w wx
theorem PoAt.call {w W w1 : World} {m a e o : Nat} (h : PoAt w W m a e o) (hb : Below W.heap.size W w1) : PoAt w w1 m a e o :=
  ⟨h.1.call hb, h.2.1.call hb (Nat.lt_trans (by omega) h.2.2.2.1.2.2), h.2.2.1.call hb (Nat.lt_trans (by omega) h.2.2.2.1.2.2), h.2.2.2.1.call hb, h.2.2.2.2.1.call hb, below_call0 h.2.2.2.2.2 hb⟩
theorem PoAt.put {w W : World} {m a e o : Nat} (h : PoAt w W m a e o) (k : Nat) : PoAt w ((((W.setCell ⟨w.heap.size + 1 + 1 + 1 + 1, 0, none⟩ (.int .u64 (limb k 0 : Nat))).setCell ⟨w.heap.size + 1 + 1 + 1 + 1, 1, none⟩ (.int .u64 (limb k 1 : Nat))).setCell ⟨w.heap.size + 1 + 1 + 1 + 1, 2, none⟩ (.int .u64 (limb k 2 : Nat))).setCell ⟨w.heap.size + 1 + 1 + 1 + 1, 3, none⟩ (.int .u64 (limb k 3 : Nat))) m a e k := by
  have n1 : w.heap.size + 1 + 1 + 1 + 1 ≠ w.heap.size := by omega
  have n2 : w.heap.size + 1 + 1 + 1 + 1 ≠ w.heap.size + 1 := by omega
  have n3 : w.heap.size + 1 + 1 + 1 + 1 ≠ w.heap.size + 1 + 1 := by omega
  have n4 : w.heap.size + 1 + 1 + 1 + 1 ≠ w.heap.size + 1 + 1 + 1 := by omega
  have n5 : w.heap.size ≤ w.heap.size + 1 + 1 + 1 + 1 := by omega
  exact ⟨(((h.1.setB n1).setB n1).setB n1).setB n1, (((h.2.1.set n2).set n2).set n2).set n2, (((h.2.2.1.set n3).set n3).set n3).set n3, (((h.2.2.2.1.set n4).set n4).set n4).set n4, h.2.2.2.2.1.put, (((h.2.2.2.2.2.setCell n5 _).setCell n5 _).setCell n5 _).setCell n5 _⟩
theorem limb_one2 : limb 1 0 = 1 ∧ limb 1 1 = 0 ∧ limb 1 2 = 0 ∧ limb 1 3 = 0 := by decide

set_option maxRecDepth 100000 in
set_option maxHeartbeats 4000000 in
theorem pow2_any (m a e : Nat) (hF : FM m) (hS : FS m) (ha : a < R256) (he : e < R256) (w : World) :
    Calls Tryd.prog 74 #[.agg #[.int .u64 (limb (m) 0 : Nat), .int .u64 (limb (m) 1 : Nat), .int .u64 (limb (m) 2 : Nat), .int .u64 (limb (m) 3 : Nat), .int .u64 (limb (R256 - (m)) 0 : Nat), .int .u64 (limb (R256 - (m)) 1 : Nat), .int .u64 (limb (R256 - (m)) 2 : Nat), .int .u64 (limb (R256 - (m)) 3 : Nat)], .agg #[.int .u64 (limb (a) 0 : Nat), .int .u64 (limb (a) 1 : Nat), .int .u64 (limb (a) 2 : Nat), .int .u64 (limb (a) 3 : Nat)], .agg #[.int .u64 (limb (e) 0 : Nat), .int .u64 (limb (e) 1 : Nat), .int .u64 (limb (e) 2 : Nat), .int .u64 (limb (e) 3 : Nat)]] w fun x w' => x = .returned (.agg #[.int .u64 (limb (a ^ e % m) 0 : Nat), .int .u64 (limb (a ^ e % m) 1 : Nat), .int .u64 (limb (a ^ e % m) 2 : Nat), .int .u64 (limb (a ^ e % m) 3 : Nat)]) ∧ Below w.heap.size w w' := by
  obtain ⟨r, hr⟩ : ∃ r, r = a ^ e % m := ⟨_, rfl⟩
  rw [← hr]
  obtain ⟨G, hG⟩ : ∃ G, G = R256 - m := ⟨_, rfl⟩
  have m1 := hF.pos
  have mR := hF.2.1
  have HFN : Hid (∀ W t, FieldB ((W : World).alloc (.cells #[.int .u64 (limb m 0 : Nat), .int .u64 (limb m 1 : Nat), .int .u64 (limb m 2 : Nat), .int .u64 (limb m 3 : Nat), .int .u64 (limb (R256 - m) 0 : Nat), .int .u64 (limb (R256 - m) 1 : Nat), .int .u64 (limb (R256 - m) 2 : Nat), .int .u64 (limb (R256 - m) 3 : Nat)] t)) W.heap.size m) := fun W t => ⟨by refine limbs4 _ ?_ ?_ ?_ ?_ <;> simp [go_sem], by refine limbs4 _ ?_ ?_ ?_ ?_ <;> simp [go_sem], by simp⟩
  have km : ∀ x y z : Nat, x < R256 → y < R256 → z = x * y % m → ∀ w, Calls Tryd.prog 48 #[.agg #[.int .u64 (limb (m) 0 : Nat), .int .u64 (limb (m) 1 : Nat), .int .u64 (limb (m) 2 : Nat), .int .u64 (limb (m) 3 : Nat), .int .u64 (limb (R256 - (m)) 0 : Nat), .int .u64 (limb (R256 - (m)) 1 : Nat), .int .u64 (limb (R256 - (m)) 2 : Nat), .int .u64 (limb (R256 - (m)) 3 : Nat)], .agg #[.int .u64 (limb (x) 0 : Nat), .int .u64 (limb (x) 1 : Nat), .int .u64 (limb (x) 2 : Nat), .int .u64 (limb (x) 3 : Nat)], .agg #[.int .u64 (limb (y) 0 : Nat), .int .u64 (limb (y) 1 : Nat), .int .u64 (limb (y) 2 : Nat), .int .u64 (limb (y) 3 : Nat)]] w fun e w' => e = .returned (.agg #[.int .u64 (limb (z) 0 : Nat), .int .u64 (limb (z) 1 : Nat), .int .u64 (limb (z) 2 : Nat), .int .u64 (limb (z) 3 : Nat)]) ∧ Below w.heap.size w w' := fun x y z hx hy hz w => by rw [hz]; exact mul2_any m x y hF hS hx hy w
  rw [← hG] at km HFN
  rw [← hG]
  have KM : Hid _ := km
  have HG : Hid (G = R256 - m) := hG
  have HR : Hid (r = a ^ e % m ∧ a < R256) := ⟨hr, ha⟩
  have HT : Hid (PowB m a e 256 1) := PowB.top he m1
  clear km hG hr hF hS ha he
  go_enter Tryd.func74, Tryd.ntmps74
  go_wp2_with fail
  go_loopw [8] (fun i wx => ∃ n o : Nat, (n ≤ 4 ∧ o < R256) ∧ i = .int .i64 ((n : Int) - 1) ∧ PowB m a e (64 * n) o ∧ PoAt w wx m a e o)
    (fun i _ => (intOf i + 1).toNat)
  case atStart =>
    refine ⟨4, 1, ⟨by omega, by decide⟩, rfl, HT.out, ?_, ?_, ?_, ?_, ?_, by ((repeat' (first | with_reducible exact Below.refl _ _ | with_reducible refine Below.setCell ?_ ?_ _ | with_reducible refine below_alloc0 ?_ _ | with_reducible refine below_drewN ?_ _ | with_reducible refine Below.drew ?_ | refine below_call0 ?_ (by assumption))) <;> (first | omega | (simp; done) | (simp; omega)))⟩
    · exact FieldB.alloc (FieldB.alloc (FieldB.alloc (FieldB.alloc (HFN.out w _))))
    · refine limbs4 _ ?_ ?_ ?_ ?_ <;> simp [go_sem]
    · refine limbs4 _ ?_ ?_ ?_ ?_ <;> simp [go_sem]
    · refine Pend.alloc ?_
      have h := Pend.new (((w.alloc (.cells #[.int .u64 (limb m 0 : Nat), .int .u64 (limb m 1 : Nat), .int .u64 (limb m 2 : Nat), .int .u64 (limb m 3 : Nat), .int .u64 (limb G 0 : Nat), .int .u64 (limb G 1 : Nat), .int .u64 (limb G 2 : Nat), .int .u64 (limb G 3 : Nat)] 61)).alloc (.cells #[.int .u64 (limb a 0 : Nat), .int .u64 (limb a 1 : Nat), .int .u64 (limb a 2 : Nat), .int .u64 (limb a 3 : Nat)] 34)).alloc (.cells #[.int .u64 (limb e 0 : Nat), .int .u64 (limb e 1 : Nat), .int .u64 (limb e 2 : Nat), .int .u64 (limb e 3 : Nat)] 34)) 34
      simp only [World.size_alloc] at h
      exact h
    · have h := fun (W : World) => Own4.new W 1 34
      rw [limb_one2.1, limb_one2.2.1, limb_one2.2.2.1, limb_one2.2.2.2] at h
      have h2 := h ((((w.alloc (.cells #[.int .u64 (limb m 0 : Nat), .int .u64 (limb m 1 : Nat), .int .u64 (limb m 2 : Nat), .int .u64 (limb m 3 : Nat), .int .u64 (limb G 0 : Nat), .int .u64 (limb G 1 : Nat), .int .u64 (limb G 2 : Nat), .int .u64 (limb G 3 : Nat)] 61)).alloc (.cells #[.int .u64 (limb a 0 : Nat), .int .u64 (limb a 1 : Nat), .int .u64 (limb a 2 : Nat), .int .u64 (limb a 3 : Nat)] 34)).alloc (.cells #[.int .u64 (limb e 0 : Nat), .int .u64 (limb e 1 : Nat), .int .u64 (limb e 2 : Nat), .int .u64 (limb e 3 : Nat)] 34)).alloc (.cells #[.int .u64 0, .int .u64 0, .int .u64 0, .int .u64 0] 34))
      simp only [World.size_alloc] at h2
      exact h2
  case round =>
    clear HT HFN
    obtain ⟨n, o, ⟨hn, hoR⟩, rfl, hpow, hP⟩ := hrel
    by_cases hn0 : n = 0
    · subst hn0
      have er : o = r := by rw [hpow, HR.out.1, Nat.mul_zero, Nat.pow_zero, Nat.div_one]
      subst er
      obtain ⟨⟨o0, o1, o2, o3⟩, _, _⟩ := hP.2.2.2.2.1.facts
      obtain ⟨⟨p0, p1, p2, p3⟩, ⟨f0, f1, f2, f3⟩, pz⟩ := hP.2.2.2.1.facts
      have WP := hP.2.2.2.2.2
      clear HR KM hpow hP HG
      go_wp2
      refine bodyPost_ret (v := .agg #[.int .u64 (limb (o) 0 : Nat), .int .u64 (limb (o) 1 : Nat), .int .u64 (limb (o) 2 : Nat), .int .u64 (limb (o) 3 : Nat)]) ?_ rfl ⟨rfl, ?_⟩
      · simp [results, Tryd.results74, go_sem, p0, p1, p2, p3]
      · ((repeat' (first | with_reducible exact Below.refl _ _ | with_reducible refine Below.setCell ?_ ?_ _ | with_reducible refine below_alloc0 ?_ _ | with_reducible refine below_drewN ?_ _ | with_reducible refine Below.drew ?_ | refine below_call0 ?_ (by assumption))) <;> (first | omega | (simp; done) | (simp; omega)))
    · obtain ⟨j, hj⟩ : ∃ j, n = j + 1 := ⟨n - 1, by omega⟩
      have hij : ((n : Int) - 1) = (j : Int) := by omega
      have hj4 : j < 4 := by omega
      have hj0 : (0 : Int) ≤ (j : Int) := by omega
      have hj3 : (j : Int) < 4 := by omega
      rw [hij]
      have HPOW : Hid (PowB m a e (64 * j + 64) o) := by have h := hpow; rw [hj, Nat.mul_add] at h; exact h
      clear hij hpow hj hn0 hn
      go_wp2_with fail
      go_loopw [9] (fun tt wx => ∃ d x : Nat, (d ≤ 64 ∧ x < R256) ∧ tt = .int .i64 ((d : Int) - 1) ∧ PowB m a e (64 * j + d) x ∧ PoAt w wx m a e x)
        (fun tt _ => (intOf tt + 1).toNat)
      case atStart => exact ⟨64, o, ⟨by omega, hoR⟩, rfl, HPOW.out, hP⟩
      case round =>
        clear HPOW hP
        obtain ⟨d, x, ⟨hd, hxR⟩, rfl, hpw, hX⟩ := hrel
        have HX : Hid (PoAt w wr m a e x) := hX
        by_cases hd0 : d = 0
        · subst hd0
          have HPW : Hid (PowB m a e (64 * j) x) := hpw
          clear hX hpw hd
          go_wp2_with fail
          go_roundw
          case rel => first | exact ⟨j, x, ⟨by omega, hxR⟩, by first | rfl | go_num, HPW.out, HX.out⟩ | ((repeat apply Exists.intro); exact ⟨⟨j, x, ⟨by omega, hxR⟩, by first | rfl | go_num, HPW.out, HX.out⟩, rfl⟩)
          case measure => simp [intOf]
        · obtain ⟨t, ht⟩ : ∃ t, d = t + 1 := ⟨d - 1, by omega⟩
          have hdt : ((d : Int) - 1) = (t : Int) := by omega
          have ht64 : t < 64 := by omega
          have ht0 : (0 : Int) ≤ (t : Int) := by omega
          have ht6 : (t : Int) < 64 := by omega
          rw [hdt]
          have HPW : Hid (PowB m a e (64 * j + t + 1) x) := by have h := hpw; rw [ht] at h; exact h
          obtain ⟨y, hy⟩ : ∃ y, y = x * x % m := ⟨_, rfl⟩
          have hyR : y < R256 := by rw [hy]; exact Nat.lt_trans (Nat.mod_lt _ (by omega)) mR
          obtain ⟨z, hz⟩ : ∃ z, z = y * a % m := ⟨_, rfl⟩
          have hzR : z < R256 := by rw [hz]; exact Nat.lt_trans (Nat.mod_lt _ (by omega)) mR
          have K1 : Hid _ := KM.out x x y hxR hxR hy
          have K2 : Hid _ := KM.out y a z hyR HR.out.2 hz
          have HYZ : Hid (y = x * x % m ∧ z = y * a % m) := ⟨hy, hz⟩
          have w1 : IntKind.u64.wrap (t : Int) = (t : Int) := by rw [IntKind.wrap_u64]; omega
          have w2 : IntKind.i64.wrap (t : Int) = (t : Int) := by rw [IntKind.wrap_i64]; omega
          have ec : ((limb e j : Int) / 2 ^ t) = ((limb e j / 2 ^ t : Nat) : Int) := by
            rw [Int.natCast_ediv, Int.natCast_pow]; rfl
          have eb := limb_bit e j t ht64
          have b2 := bitN_lt e (64 * j + t)
          obtain ⟨m0, q1, q2, q3⟩ := hX.1.1.facts
          obtain ⟨g0, g1, g2, g3⟩ := hX.1.gap
          rw [← HG.out] at g0 g1 g2 g3
          have mz := hX.1.2.2
          obtain ⟨⟨o0, o1, o2, o3⟩, _, oz⟩ := hX.2.2.2.2.1.facts
          rcases (show bitN e (64 * j + t) = 0 ∨ bitN e (64 * j + t) = 1 by omega) with hb | hb
          · have HN : Hid (PowB m a e (64 * j + t) y) := HPW.out.sq hy hb
            have et : (limb e j : Int) / 2 ^ t % 2 = 0 := by rw [ec]; omega
            have et2 : ((limb e j : Int) / 2 ^ t).tmod 2 = 0 := by rw [Int.tmod_eq_emod_of_nonneg (by rw [ec]; exact Int.natCast_nonneg _)]; exact et
            clear ec eb b2 hb hX hpw hd hd0 ht hdt HPW hy hz HYZ K2 hzR HR
            go_wp2_with fail
            refine (K1.out _).mono ?_
            rintro e1 v2 ⟨rfl, hq2⟩
            have X2 := HX.out.call hq2
            obtain ⟨⟨r0, r1, r2, r3⟩, ⟨u0, u1, u2, u3⟩, uz⟩ := X2.2.2.2.2.1.facts
            have ge : v2.cell? ⟨w.heap.size + 1 + 1, j, none⟩ = some (.int .u64 (limb e j : Nat)) := X2.2.2.1 j hj4
            have X3 : Hid _ := X2.put y
            clear o0 o1 o2 o3 oz m0 q1 q2 q3 g0 g1 g2 g3 mz X2 hq2 K1 HX
            go_wp2_with fail
            go_roundw
            case rel => first | exact ⟨t, y, ⟨by omega, hyR⟩, by first | rfl | go_num, HN.out, X3.out⟩ | ((repeat apply Exists.intro); exact ⟨⟨t, y, ⟨by omega, hyR⟩, by first | rfl | go_num, HN.out, X3.out⟩, rfl⟩)
            case measure => simp [intOf]
          · have HN : Hid (PowB m a e (64 * j + t) z) := HPW.out.sqm hy hz hb
            have et : (limb e j : Int) / 2 ^ t % 2 = 1 := by rw [ec]; omega
            have et2 : ((limb e j : Int) / 2 ^ t).tmod 2 = 1 := by rw [Int.tmod_eq_emod_of_nonneg (by rw [ec]; exact Int.natCast_nonneg _)]; exact et
            clear ec eb b2 hb hX hpw hd hd0 ht hdt HPW hy hz HYZ HR
            go_wp2_with fail
            refine (K1.out _).mono ?_
            rintro e1 v2 ⟨rfl, hq2⟩
            have X2 := HX.out.call hq2
            obtain ⟨⟨r0, r1, r2, r3⟩, ⟨u0, u1, u2, u3⟩, uz⟩ := X2.2.2.2.2.1.facts
            have ge : v2.cell? ⟨w.heap.size + 1 + 1, j, none⟩ = some (.int .u64 (limb e j : Nat)) := X2.2.2.1 j hj4
            have X3 : PoAt w _ m a e y := X2.put y
            obtain ⟨v3, hv3⟩ : ∃ v3, v3 = ((((v2.setCell ⟨w.heap.size + 1 + 1 + 1 + 1, 0, none⟩ (.int .u64 (limb y 0 : Nat))).setCell ⟨w.heap.size + 1 + 1 + 1 + 1, 1, none⟩ (.int .u64 (limb y 1 : Nat))).setCell ⟨w.heap.size + 1 + 1 + 1 + 1, 2, none⟩ (.int .u64 (limb y 2 : Nat))).setCell ⟨w.heap.size + 1 + 1 + 1 + 1, 3, none⟩ (.int .u64 (limb y 3 : Nat))) := ⟨_, rfl⟩
            have X4 : Hid (PoAt w _ m a e y) := X3
            obtain ⟨n0, n1, n2, n3⟩ := X2.1.1.facts
            obtain ⟨h0, h1, h2, h3⟩ := X2.1.gap
            rw [← HG.out] at h0 h1 h2 h3
            have nz := X2.1.2.2
            obtain ⟨a0, a1, a2, a3⟩ := X2.2.1.facts
            clear o0 o1 o2 o3 oz m0 q1 q2 q3 g0 g1 g2 g3 mz X2 X3 hq2 K1 HX v3 hv3
            go_wp2_with fail
            refine (K2.out _).mono ?_
            rintro e1 v4 ⟨rfl, hq4⟩
            have X5 := X4.out.call hq4
            obtain ⟨⟨c0, c1, c2, c3⟩, ⟨d0, d1, d2, d3⟩, dz⟩ := X5.2.2.2.2.1.facts
            have X6 : Hid _ := X5.put z
            clear r0 r1 r2 r3 u0 u1 u2 u3 uz ge n0 n1 n2 n3 h0 h1 h2 h3 nz a0 a1 a2 a3 X4 X5 hq4 K2
            go_wp2_with fail
            go_roundw
            case rel => first | exact ⟨t, z, ⟨by omega, hzR⟩, by first | rfl | go_num, HN.out, X6.out⟩ | ((repeat apply Exists.intro); exact ⟨⟨t, z, ⟨by omega, hzR⟩, by first | rfl | go_num, HN.out, X6.out⟩, rfl⟩)
            case measure => simp [intOf]
end Go.Proofs.YtkdejflgmgljiaaDoor

namespace Go.Proofs.YtkdejflgmgljiaaDoor
open Go.RowKit

set_option maxHeartbeats 1000000 in
theorem zero2_a (x0 x1 x2 x3 : Int) (h0 : (x0 == 0) = false) (w : World) :
    Calls Tryd.prog 45 #[.agg #[.int .u64 x0, .int .u64 x1, .int .u64 x2, .int .u64 x3]] w fun e w' => e = .returned (.bool false) ∧ Below w.heap.size w w' := by
  go_enter Tryd.func45, Tryd.ntmps45
  go_wp2_with fail
  go_ret
  exact ⟨rfl, below_alloc0 (Below.refl _ _) _⟩
set_option maxHeartbeats 1000000 in
theorem zero2_b (x0 x1 x2 x3 : Int) (h0 : (x0 == 0) = true) (h1 : (x1 == 0) = false) (w : World) :
    Calls Tryd.prog 45 #[.agg #[.int .u64 x0, .int .u64 x1, .int .u64 x2, .int .u64 x3]] w fun e w' => e = .returned (.bool false) ∧ Below w.heap.size w w' := by
  go_enter Tryd.func45, Tryd.ntmps45
  go_wp2_with fail
  go_ret
  exact ⟨rfl, below_alloc0 (Below.refl _ _) _⟩
set_option maxHeartbeats 1000000 in
theorem zero2_c (x0 x1 x2 x3 : Int) (h0 : (x0 == 0) = true) (h1 : (x1 == 0) = true) (h2 : (x2 == 0) = false) (w : World) :
    Calls Tryd.prog 45 #[.agg #[.int .u64 x0, .int .u64 x1, .int .u64 x2, .int .u64 x3]] w fun e w' => e = .returned (.bool false) ∧ Below w.heap.size w w' := by
  go_enter Tryd.func45, Tryd.ntmps45
  go_wp2_with fail
  go_ret
  exact ⟨rfl, below_alloc0 (Below.refl _ _) _⟩
set_option maxHeartbeats 1000000 in
theorem zero2_d (x0 x1 x2 x3 : Int) (h0 : (x0 == 0) = true) (h1 : (x1 == 0) = true) (h2 : (x2 == 0) = true) (h3 : (x3 == 0) = false) (w : World) :
    Calls Tryd.prog 45 #[.agg #[.int .u64 x0, .int .u64 x1, .int .u64 x2, .int .u64 x3]] w fun e w' => e = .returned (.bool false) ∧ Below w.heap.size w w' := by
  go_enter Tryd.func45, Tryd.ntmps45
  go_wp2_with fail
  go_ret
  exact ⟨rfl, below_alloc0 (Below.refl _ _) _⟩
set_option maxHeartbeats 1000000 in
theorem zero2_e (x0 x1 x2 x3 : Int) (h0 : (x0 == 0) = true) (h1 : (x1 == 0) = true) (h2 : (x2 == 0) = true) (h3 : (x3 == 0) = true) (w : World) :
    Calls Tryd.prog 45 #[.agg #[.int .u64 x0, .int .u64 x1, .int .u64 x2, .int .u64 x3]] w fun e w' => e = .returned (.bool true) ∧ Below w.heap.size w w' := by
  go_enter Tryd.func45, Tryd.ntmps45
  go_wp2_with fail
  go_ret
  exact ⟨rfl, below_alloc0 (Below.refl _ _) _⟩
theorem zero2_any (a : Nat) (ha : a < R256) (w : World) : Calls Tryd.prog 45 #[.agg #[.int .u64 (limb (a) 0 : Nat), .int .u64 (limb (a) 1 : Nat), .int .u64 (limb (a) 2 : Nat), .int .u64 (limb (a) 3 : Nat)]] w fun e w' => e = .returned (.bool (decide (a = 0))) ∧ Below w.heap.size w w' := by
  have h := eq4_zero a ha
  unfold eq4 at h
  rw [← h]
  cases h0 : ((limb a 0 : Nat) : Int) == 0
  · exact zero2_a _ _ _ _ h0 w
  · cases h1 : ((limb a 1 : Nat) : Int) == 0
    · exact zero2_b _ _ _ _ h0 h1 w
    · cases h2 : ((limb a 2 : Nat) : Int) == 0
      · exact zero2_c _ _ _ _ h0 h1 h2 w
      · cases h3 : ((limb a 3 : Nat) : Int) == 0
        · exact zero2_d _ _ _ _ h0 h1 h2 h3 w
        · exact zero2_e _ _ _ _ h0 h1 h2 h3 w
set_option maxRecDepth 100000 in
set_option maxHeartbeats 2000000 in
theorem inv2_go (m a s r : Nat) (kt : ∀ w, Calls Tryd.prog 71 #[.agg #[.int .u64 (limb (m) 0 : Nat), .int .u64 (limb (m) 1 : Nat), .int .u64 (limb (m) 2 : Nat), .int .u64 (limb (m) 3 : Nat)], .agg #[.int .u64 2, .int .u64 0, .int .u64 0, .int .u64 0]] w fun e w' => e = .returned (.agg #[.int .u64 (limb (s) 0 : Nat), .int .u64 (limb (s) 1 : Nat), .int .u64 (limb (s) 2 : Nat), .int .u64 (limb (s) 3 : Nat)]) ∧ Below w.heap.size w w') (kr : ∀ w, Calls Tryd.prog 74 #[.agg #[.int .u64 (limb (m) 0 : Nat), .int .u64 (limb (m) 1 : Nat), .int .u64 (limb (m) 2 : Nat), .int .u64 (limb (m) 3 : Nat), .int .u64 (limb (R256 - (m)) 0 : Nat), .int .u64 (limb (R256 - (m)) 1 : Nat), .int .u64 (limb (R256 - (m)) 2 : Nat), .int .u64 (limb (R256 - (m)) 3 : Nat)], .agg #[.int .u64 (limb (a) 0 : Nat), .int .u64 (limb (a) 1 : Nat), .int .u64 (limb (a) 2 : Nat), .int .u64 (limb (a) 3 : Nat)], .agg #[.int .u64 (limb (s) 0 : Nat), .int .u64 (limb (s) 1 : Nat), .int .u64 (limb (s) 2 : Nat), .int .u64 (limb (s) 3 : Nat)]] w fun e w' => e = .returned (.agg #[.int .u64 (limb (r) 0 : Nat), .int .u64 (limb (r) 1 : Nat), .int .u64 (limb (r) 2 : Nat), .int .u64 (limb (r) 3 : Nat)]) ∧ Below w.heap.size w w') (w : World) :
    Calls Tryd.prog 51 #[.agg #[.int .u64 (limb (m) 0 : Nat), .int .u64 (limb (m) 1 : Nat), .int .u64 (limb (m) 2 : Nat), .int .u64 (limb (m) 3 : Nat), .int .u64 (limb (R256 - (m)) 0 : Nat), .int .u64 (limb (R256 - (m)) 1 : Nat), .int .u64 (limb (R256 - (m)) 2 : Nat), .int .u64 (limb (R256 - (m)) 3 : Nat)], .agg #[.int .u64 (limb (a) 0 : Nat), .int .u64 (limb (a) 1 : Nat), .int .u64 (limb (a) 2 : Nat), .int .u64 (limb (a) 3 : Nat)]] w fun e w' => e = .returned (.agg #[.int .u64 (limb (r) 0 : Nat), .int .u64 (limb (r) 1 : Nat), .int .u64 (limb (r) 2 : Nat), .int .u64 (limb (r) 3 : Nat)]) ∧ Below w.heap.size w w' := by
  obtain ⟨G, hG⟩ : ∃ G, G = R256 - m := ⟨_, rfl⟩
  have HFN : Hid (∀ W t, FieldB ((W : World).alloc (.cells #[.int .u64 (limb m 0 : Nat), .int .u64 (limb m 1 : Nat), .int .u64 (limb m 2 : Nat), .int .u64 (limb m 3 : Nat), .int .u64 (limb (R256 - m) 0 : Nat), .int .u64 (limb (R256 - m) 1 : Nat), .int .u64 (limb (R256 - m) 2 : Nat), .int .u64 (limb (R256 - m) 3 : Nat)] t)) W.heap.size m) := fun W t => FieldB.new W m t
  rw [← hG] at kr HFN
  rw [← hG]
  have KT : Hid _ := kt
  have KR : Hid _ := kr
  have HG : Hid (G = R256 - m) := hG
  clear kt kr hG
  go_enter Tryd.func51, Tryd.ntmps51
  go_wp2_with fail
  obtain ⟨Y, hY⟩ : ∃ Y, Y = ((w.alloc (.cells #[.int .u64 (limb m 0 : Nat), .int .u64 (limb m 1 : Nat), .int .u64 (limb m 2 : Nat), .int .u64 (limb m 3 : Nat), .int .u64 (limb G 0 : Nat), .int .u64 (limb G 1 : Nat), .int .u64 (limb G 2 : Nat), .int .u64 (limb G 3 : Nat)] 61)).alloc (.cells #[.int .u64 (limb a 0 : Nat), .int .u64 (limb a 1 : Nat), .int .u64 (limb a 2 : Nat), .int .u64 (limb a 3 : Nat)] 34)).alloc (.cells #[.int .u64 0, .int .u64 0, .int .u64 0, .int .u64 0] 34) := ⟨_, rfl⟩
  rw [← hY]
  have HF : Hid (FieldB Y w.heap.size m) := by rw [hY]; exact FieldB.alloc (FieldB.alloc (HFN.out w _))
  have HA : Hid (NS Y (w.heap.size + 1) a) := by
    rw [hY]
    have t := NS.alloc (o := .cells #[.int .u64 0, .int .u64 0, .int .u64 0, .int .u64 0] 34) (NS.new (w.alloc (.cells #[.int .u64 (limb m 0 : Nat), .int .u64 (limb m 1 : Nat), .int .u64 (limb m 2 : Nat), .int .u64 (limb m 3 : Nat), .int .u64 (limb G 0 : Nat), .int .u64 (limb G 1 : Nat), .int .u64 (limb G 2 : Nat), .int .u64 (limb G 3 : Nat)] 61)) a 34)
    simp only [World.size_alloc] at t
    exact t
  have HP : Hid (Pend Y (w.heap.size + 1 + 1)) := by
    rw [hY]
    have t := Pend.new ((w.alloc (.cells #[.int .u64 (limb m 0 : Nat), .int .u64 (limb m 1 : Nat), .int .u64 (limb m 2 : Nat), .int .u64 (limb m 3 : Nat), .int .u64 (limb G 0 : Nat), .int .u64 (limb G 1 : Nat), .int .u64 (limb G 2 : Nat), .int .u64 (limb G 3 : Nat)] 61)).alloc (.cells #[.int .u64 (limb a 0 : Nat), .int .u64 (limb a 1 : Nat), .int .u64 (limb a 2 : Nat), .int .u64 (limb a 3 : Nat)] 34)) 34
    simp only [World.size_alloc] at t
    exact t
  have HW : Hid (Below w.heap.size w Y) := by rw [hY]; exact below_alloc0 (below_alloc0 (below_alloc0 (Below.refl _ _) _) _) _
  clear hY HFN
  refine wp_region_N (fun w' => Below Y.heap.size Y w') 7 8 rfl (by kernel_rfl) ?_
  refine wpAnyN_take (i := 0) (oi := ?o0) (v := ?v0) ?hi0 (by kernel_rfl) (by kernel_rfl) (by kernel_rfl) (by kernel_rfl) (by decide) (by kernel_rfl) ?hQ0 ?hy0 (Below.drew (Below.refl _ _)) ?more0
  case hi0 => rw [List.getElem?_toArray]; exact rfl
  case hQ0 => exact fun _ _ _ h => h
  case hy0 =>
    refine Or.inl ⟨by rfl, ?_⟩
    intro w' hSw
    have F' := FieldB.call HF.out hSw
    obtain ⟨m0, m1, m2, m3⟩ := F'.1.facts
    obtain ⟨g0, g1, g2, g3⟩ := F'.gap
    rw [← HG.out] at g0 g1 g2 g3
    obtain ⟨⟨a0, a1, a2, a3⟩, az⟩ := (NS.call HA.out hSw).facts
    clear F' hSw
    go_simp
    try with_reducible rfl
  simp only [Act.put, List.setIfInBounds_toArray, List.set_cons_zero, List.set_cons_succ]
  refine wpAnyN_take (i := 1) (oi := ?o1) (v := ?v1) ?hi1 (by kernel_rfl) (by kernel_rfl) (by kernel_rfl) (by kernel_rfl) (by decide) (by kernel_rfl) ?hQ1 ?hy1 (Below.drew (Below.refl _ _)) ?more1
  case hi1 => rw [List.getElem?_toArray]; exact rfl
  case hQ1 => exact fun _ _ _ h => h
  case hy1 =>
    refine Or.inl ⟨by rfl, ?_⟩
    intro w' hSw
    have F' := FieldB.call HF.out hSw
    obtain ⟨m0, m1, m2, m3⟩ := F'.1.facts
    obtain ⟨g0, g1, g2, g3⟩ := F'.gap
    rw [← HG.out] at g0 g1 g2 g3
    obtain ⟨⟨a0, a1, a2, a3⟩, az⟩ := (NS.call HA.out hSw).facts
    clear F' hSw
    go_simp
    try with_reducible rfl
  simp only [Act.put, List.setIfInBounds_toArray, List.set_cons_zero, List.set_cons_succ]
  refine wpAnyN_take (i := 2) (oi := ?o2) (v := ?v2) ?hi2 (by kernel_rfl) (by kernel_rfl) (by kernel_rfl) (by kernel_rfl) (by decide) (by kernel_rfl) ?hQ2 ?hy2 (Below.drew (Below.refl _ _)) ?more2
  case hi2 => rw [List.getElem?_toArray]; exact rfl
  case hQ2 => exact fun _ _ _ h => h
  case hy2 =>
    refine Or.inl ⟨by rfl, ?_⟩
    intro w' hSw
    have F' := FieldB.call HF.out hSw
    obtain ⟨m0, m1, m2, m3⟩ := F'.1.facts
    obtain ⟨g0, g1, g2, g3⟩ := F'.gap
    rw [← HG.out] at g0 g1 g2 g3
    obtain ⟨⟨a0, a1, a2, a3⟩, az⟩ := (NS.call HA.out hSw).facts
    clear F' hSw
    go_simp
    try with_reducible rfl
  simp only [Act.put, List.setIfInBounds_toArray, List.set_cons_zero, List.set_cons_succ]
  refine wpAnyN_take (i := 3) (oi := ?o3) (v := ?v3) ?hi3 (by kernel_rfl) (by kernel_rfl) (by kernel_rfl) (by kernel_rfl) (by decide) (by kernel_rfl) ?hQ3 ?hy3 (Below.drew (Below.refl _ _)) ?more3
  case hi3 => rw [List.getElem?_toArray]; exact rfl
  case hQ3 => exact fun _ _ _ h => h
  case hy3 =>
    refine Or.inl ⟨by rfl, ?_⟩
    intro w' hSw
    have F' := FieldB.call HF.out hSw
    obtain ⟨m0, m1, m2, m3⟩ := F'.1.facts
    obtain ⟨g0, g1, g2, g3⟩ := F'.gap
    rw [← HG.out] at g0 g1 g2 g3
    obtain ⟨⟨a0, a1, a2, a3⟩, az⟩ := (NS.call HA.out hSw).facts
    clear F' hSw
    go_simp
    try with_reducible rfl
  simp only [Act.put, List.setIfInBounds_toArray, List.set_cons_zero, List.set_cons_succ]
  refine wpAnyN_take (i := 4) (oi := ?o4) (v := ?v4) ?hi4 (by kernel_rfl) (by kernel_rfl) (by kernel_rfl) (by kernel_rfl) (by decide) (by kernel_rfl) ?hQ4 ?hy4 (Below.drew (Below.refl _ _)) ?more4
  case hi4 => rw [List.getElem?_toArray]; exact rfl
  case hQ4 => exact fun _ _ _ h => h
  case hy4 =>
    refine Or.inl ⟨by rfl, ?_⟩
    intro w' hSw
    have F' := FieldB.call HF.out hSw
    obtain ⟨m0, m1, m2, m3⟩ := F'.1.facts
    obtain ⟨g0, g1, g2, g3⟩ := F'.gap
    rw [← HG.out] at g0 g1 g2 g3
    obtain ⟨⟨a0, a1, a2, a3⟩, az⟩ := (NS.call HA.out hSw).facts
    clear F' hSw
    go_simp
    try with_reducible rfl
  simp only [Act.put, List.setIfInBounds_toArray, List.set_cons_zero, List.set_cons_succ]
  refine wpAnyN_one (i := 5) (o := ?o5) (by kernel_rfl) ?hi5 ?hw5 ?st5
  case hi5 => rw [List.getElem?_toArray]; exact rfl
  case hw5 => exact rfl
  intro K hK
  have HK5 : Hid _ := hK
  clear hK
  go_simp
  refine (KT.out _).mono ?_
  rintro e w1 ⟨rfl, hq1⟩
  have HB1 : Hid (Below Y.heap.size Y w1) := below_call0 (Below.drew (Below.refl _ _)) hq1
  clear hq1
  go_wp2_with fail
  refine HK5.out _ _ ⟨fun _ => HB1.out, ?_⟩
  clear HK5 K
  try simp only [Act.put, List.setIfInBounds_toArray, List.set_cons_zero, List.set_cons_succ]
  refine wpAnyN_one (i := 6) (o := ?o6) (by kernel_rfl) ?hi6 ?hw6 ?st6
  case hi6 => rw [List.getElem?_toArray]; exact rfl
  case hw6 => exact rfl
  intro K hK
  have HK6 : Hid _ := hK
  clear hK
  go_simp
  refine (KR.out _).mono ?_
  rintro e w2 ⟨rfl, hq2⟩
  have HB2 : Hid (Below Y.heap.size Y w2) := below_call0 HB1.out hq2
  obtain ⟨⟨p0, p1, p2, p3⟩, ⟨f0, f1, f2, f3⟩, pz⟩ := (Pend.call HP.out HB2.out).facts
  clear hq2
  go_wp2_with fail
  refine HK6.out _ _ ⟨fun _ => HB2.out, ?_⟩
  clear HK6 K
  try simp only [Act.put, List.setIfInBounds_toArray, List.set_cons_zero, List.set_cons_succ]
  refine wpAnyN_one (i := 7) (o := ?o7) (by kernel_rfl) ?hi7 ?hw7 ?st7
  case hi7 => rw [List.getElem?_toArray]; exact rfl
  case hw7 => exact rfl
  intro K hK
  have HK7 : Hid _ := hK
  clear hK
  go_simp
  refine HK7.out _ _ ⟨fun h => absurd h (by decide +kernel), ?_⟩
  clear HK7 K
  try simp only [Act.put, List.setIfInBounds_toArray, List.set_cons_zero, List.set_cons_succ]
  refine wpAnyN_done (by kernel_rfl) ?_ _
  go_wp2_with fail
  have W2 : Below w.heap.size w w2 := below_call0 HW.out HB2.out
  refine bodyPost_ret (v := .agg #[.int .u64 (limb (r) 0 : Nat), .int .u64 (limb (r) 1 : Nat), .int .u64 (limb (r) 2 : Nat), .int .u64 (limb (r) 3 : Nat)]) ?_ rfl ⟨rfl, ?_⟩
  · simp [results, Tryd.results51, go_sem, p0, p1, p2, p3]
  · ((repeat' (first | with_reducible exact Below.refl _ _ | with_reducible refine Below.setCell ?_ ?_ _ | with_reducible refine below_alloc0 ?_ _ | with_reducible refine below_drewN ?_ _ | with_reducible refine Below.drew ?_ | refine below_call0 ?_ (by assumption))) <;> (first | omega | (simp; done) | (simp; omega)))
theorem inv2_any (m a : Nat) (hF : FM m) (hS : FS m) (ha : a < R256) (w : World) : Calls Tryd.prog 51 #[.agg #[.int .u64 (limb (m) 0 : Nat), .int .u64 (limb (m) 1 : Nat), .int .u64 (limb (m) 2 : Nat), .int .u64 (limb (m) 3 : Nat), .int .u64 (limb (R256 - (m)) 0 : Nat), .int .u64 (limb (R256 - (m)) 1 : Nat), .int .u64 (limb (R256 - (m)) 2 : Nat), .int .u64 (limb (R256 - (m)) 3 : Nat)], .agg #[.int .u64 (limb (a) 0 : Nat), .int .u64 (limb (a) 1 : Nat), .int .u64 (limb (a) 2 : Nat), .int .u64 (limb (a) 3 : Nat)]] w fun e w' => e = .returned (.agg #[.int .u64 (limb (a ^ (m - 2) % m) 0 : Nat), .int .u64 (limb (a ^ (m - 2) % m) 1 : Nat), .int .u64 (limb (a ^ (m - 2) % m) 2 : Nat), .int .u64 (limb (a ^ (m - 2) % m) 3 : Nat)]) ∧ Below w.heap.size w w' := by
  have mR := hF.2.1
  have m1 := hF.pos
  refine inv2_go m a (m - 2) _ (fun w => ?_) (pow2_any m a (m - 2) hF hS ha (by omega)) w
  have k := minus2_any m 2 mR (by decide) w
  rw [show subN m 2 = m - 2 from by unfold subN; rw [show m + R256 - 2 = (m - 2) + R256 from by omega, Nat.add_mod_right, Nat.mod_eq_of_lt (by omega)], limb_two.1, limb_two.2.1, limb_two.2.2.1, limb_two.2.2.2] at k
  exact k
end Go.Proofs.YtkdejflgmgljiaaDoor
