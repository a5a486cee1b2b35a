/- The walk of the statement FieldRoots. -/
import Derived.Test.YtglifkfkcepllabDoorFieldM
import Derived.Test.YtglifkfkcepllabDoorFieldS
import Derived.Test.YtglifkfkcepllabDoorRef2F
import Derived.Test.YtglifkfkcepllabDoorWalk
namespace Go.Proofs.YtglifkfkcepllabDoor
open Go.RowKit
attribute [local go_sem] run_eq4

set_option maxRecDepth 100000 in
set_option maxHeartbeats 8000000 in
theorem roots_go (m x a sq r n : Nat) (u0 u1 u2 u3 v0 v1 v2 v3 ec fc : Int) (b1 b2 bz : Bool)
    (k1 : ∀ w, Glob w → GlobQ w → Calls Tryd.prog 6 #[.bool true] w fun e w' => ∃ g, e = .returned (.tuple #[.pointer (some ⟨g, 0, none⟩), .agg #[.int .u64 (limb m 0 : Nat), .int .u64 (limb m 1 : Nat), .int .u64 (limb m 2 : Nat), .int .u64 (limb m 3 : Nat), .int .u64 (limb (R256 - m) 0 : Nat), .int .u64 (limb (R256 - m) 1 : Nat), .int .u64 (limb (R256 - m) 2 : Nat), .int .u64 (limb (R256 - m) 3 : Nat)]]) ∧ FieldB w' g m ∧ Below w.heap.size w w')
    (k2 : ∀ w, Calls Tryd.prog 7 #[.agg #[.int .u64 (limb m 0 : Nat), .int .u64 (limb m 1 : Nat), .int .u64 (limb m 2 : Nat), .int .u64 (limb m 3 : Nat), .int .u64 (limb (R256 - m) 0 : Nat), .int .u64 (limb (R256 - m) 1 : Nat), .int .u64 (limb (R256 - m) 2 : Nat), .int .u64 (limb (R256 - m) 3 : Nat)], .agg #[.int .u64 (limb (x) 0 : Nat), .int .u64 (limb (x) 1 : Nat), .int .u64 (limb (x) 2 : Nat), .int .u64 (limb (x) 3 : Nat)]] w fun e w' => e = .returned (.agg #[.int .u64 (limb (a) 0 : Nat), .int .u64 (limb (a) 1 : Nat), .int .u64 (limb (a) 2 : Nat), .int .u64 (limb (a) 3 : Nat)]) ∧ Below w.heap.size w w')
    (k3 : ∀ (g : Nat) (w : World), FieldB w g m → Calls Tryd.prog 8 #[.pointer (some ⟨g, 0, none⟩), .agg #[.int .u64 (limb (a) 0 : Nat), .int .u64 (limb (a) 1 : Nat), .int .u64 (limb (a) 2 : Nat), .int .u64 (limb (a) 3 : Nat)], .agg #[.int .u64 (limb (a) 0 : Nat), .int .u64 (limb (a) 1 : Nat), .int .u64 (limb (a) 2 : Nat), .int .u64 (limb (a) 3 : Nat)]] w fun e w' => e = .returned (.tuple #[.agg #[.int .u64 (limb (sq) 0 : Nat), .int .u64 (limb (sq) 1 : Nat), .int .u64 (limb (sq) 2 : Nat), .int .u64 (limb (sq) 3 : Nat)], .int .i64 0]) ∧ Below w.heap.size w w')
    (k4 : ∀ (g : Nat) (w : World), Glob w → FieldB w g m → Calls Tryd.prog 9 #[.pointer (some ⟨g, 0, none⟩), .agg #[.int .u64 (limb (sq) 0 : Nat), .int .u64 (limb (sq) 1 : Nat), .int .u64 (limb (sq) 2 : Nat), .int .u64 (limb (sq) 3 : Nat)]] w fun e w' => e = .returned (.tuple #[.agg #[.int .u64 (limb (r) 0 : Nat), .int .u64 (limb (r) 1 : Nat), .int .u64 (limb (r) 2 : Nat), .int .u64 (limb (r) 3 : Nat)], .int .i64 0]) ∧ Below w.heap.size w w')
    (k5 : ∀ (g : Nat) (w : World), FieldB w g m → Calls Tryd.prog 8 #[.pointer (some ⟨g, 0, none⟩), .agg #[.int .u64 (limb (r) 0 : Nat), .int .u64 (limb (r) 1 : Nat), .int .u64 (limb (r) 2 : Nat), .int .u64 (limb (r) 3 : Nat)], .agg #[.int .u64 (limb (r) 0 : Nat), .int .u64 (limb (r) 1 : Nat), .int .u64 (limb (r) 2 : Nat), .int .u64 (limb (r) 3 : Nat)]] w fun e w' => e = .returned (.tuple #[.agg #[.int .u64 (limb (sq) 0 : Nat), .int .u64 (limb (sq) 1 : Nat), .int .u64 (limb (sq) 2 : Nat), .int .u64 (limb (sq) 3 : Nat)], .int .i64 0]) ∧ Below w.heap.size w w')
    (k6 : ∀ (g : Nat) (w : World), FieldB w g m → Calls Tryd.prog 10 #[.pointer (some ⟨g, 0, none⟩), .agg #[.int .u64 (limb (a) 0 : Nat), .int .u64 (limb (a) 1 : Nat), .int .u64 (limb (a) 2 : Nat), .int .u64 (limb (a) 3 : Nat)]] w fun e w' => e = .returned (.tuple #[.agg #[.int .u64 (limb (n) 0 : Nat), .int .u64 (limb (n) 1 : Nat), .int .u64 (limb (n) 2 : Nat), .int .u64 (limb (n) 3 : Nat)], .int .i64 0]) ∧ Below w.heap.size w w')
    (k7 : ∀ (g : Nat) (w : World), Glob w → FieldB w g m → Calls Tryd.prog 9 #[.pointer (some ⟨g, 0, none⟩), .agg #[.int .u64 (limb (a) 0 : Nat), .int .u64 (limb (a) 1 : Nat), .int .u64 (limb (a) 2 : Nat), .int .u64 (limb (a) 3 : Nat)]] w fun e w' => e = .returned (.tuple #[.agg #[.int .u64 u0, .int .u64 u1, .int .u64 u2, .int .u64 u3], .int .i64 ec]) ∧ Below w.heap.size w w')
    (k8 : ∀ (g : Nat) (w : World), Glob w → FieldB w g m → Calls Tryd.prog 9 #[.pointer (some ⟨g, 0, none⟩), .agg #[.int .u64 (limb (n) 0 : Nat), .int .u64 (limb (n) 1 : Nat), .int .u64 (limb (n) 2 : Nat), .int .u64 (limb (n) 3 : Nat)]] w fun e w' => e = .returned (.tuple #[.agg #[.int .u64 v0, .int .u64 v1, .int .u64 v2, .int .u64 v3], .int .i64 fc]) ∧ Below w.heap.size w w')
    (era : eq4 (limb r 0 : Nat) (limb r 1 : Nat) (limb r 2 : Nat) (limb r 3 : Nat) (limb a 0 : Nat) (limb a 1 : Nat) (limb a 2 : Nat) (limb a 3 : Nat) = b1) (ern : eq4 (limb r 0 : Nat) (limb r 1 : Nat) (limb r 2 : Nat) (limb r 3 : Nat) (limb n 0 : Nat) (limb n 1 : Nat) (limb n 2 : Nat) (limb n 3 : Nat) = b2) (eaz : eq4 (limb a 0 : Nat) (limb a 1 : Nat) (limb a 2 : Nat) (limb a 3 : Nat) 0 0 0 0 = bz) (h12 : b1 = true ∨ (b1 = false ∧ b2 = true)) (h3 : (bz = true ∧ ec = 0 ∧ fc = 0) ∨ (bz = false ∧ ec = 0 ∧ fc = 22) ∨ (bz = false ∧ ec = 22 ∧ fc = 0)) (hev : limb r 0 % 2 = 0)
    (w : World) (hG : Glob w) (hQ : GlobQ w) : Calls Tryd.prog 3 #[.agg #[.int .u64 (limb (x) 0 : Nat), .int .u64 (limb (x) 1 : Nat), .int .u64 (limb (x) 2 : Nat), .int .u64 (limb (x) 3 : Nat)]] w fun e w' => e = .returned (.bool true) ∧ Below w.heap.size w w' := by
  have HG : Hid (Glob w ∧ GlobQ w) := ⟨hG, hQ⟩
  have K1 : Hid _ := k1
  have K2 : Hid _ := k2
  have K3 : Hid _ := k3
  have K4 : Hid _ := k4
  have K5 : Hid _ := k5
  have K6 : Hid _ := k6
  have K7 : Hid _ := k7
  have K8 : Hid _ := k8
  have es : eq4 (limb sq 0 : Nat) (limb sq 1 : Nat) (limb sq 2 : Nat) (limb sq 3 : Nat) (limb sq 0 : Nat) (limb sq 1 : Nat) (limb sq 2 : Nat) (limb sq 3 : Nat) = true := by simp [eq4]
  have t1 : (limb r 0 : Int) % 2 = 0 := by omega
  have t2 : (limb r 0 : Int).tmod 2 = 0 := by rw [Int.tmod_eq_emod_of_nonneg (by omega)]; exact t1
  clear hG hQ hev k1 k2 k3 k4 k5 k6 k7 k8
  go_enter Tryd.func3, Tryd.ntmps3
  go_wp2_with fail
  refine (K1.out _ (Glob.alloc HG.out.1) (GlobQ.alloc HG.out.2)).mono ?_
  rintro e w1 ⟨g, rfl, hF1, hb1⟩
  have HX1 : Hid (NS w1 (w.heap.size) x) := by
    have t := NS.call (W := _) (NS.new _ _ _) hb1
    try simp only [World.size_alloc] at t
    exact t
  have HW1 : Hid (Below w.heap.size w w1) := below_call0 (below_alloc0 (Below.refl _ _) _) hb1
  have HG1 : Hid (Glob w1) := Glob.call (Glob.alloc HG.out.1) hb1
  have HF1 : Hid (FieldB w1 g m) := hF1
  clear hb1
  clear hF1
  obtain ⟨⟨xx0, xx1, xx2, xx3⟩, xxz⟩ := HX1.out.facts
  go_wp2_with fail
  refine (K2.out _).mono ?_
  rintro e w2 ⟨rfl, hb2⟩
  have HW2 : Hid (Below w.heap.size w w2) := below_acall HW1.out hb2
  have HG2 : Hid (Glob w2) := Glob.call (Glob.alloc HG1.out) hb2
  have HF2 : Hid (FieldB w2 g m) := FieldB.call (FieldB.alloc HF1.out) hb2
  clear hb2
  clear HX1 HW1 HG1 HF1
  clear xx0 xx1 xx2 xx3 xxz
  go_wp2_with fail
  refine (K3.out g _ (FieldB.alloc HF2.out)).mono ?_
  rintro e w3 ⟨rfl, hb3⟩
  have HA3 : Hid (NS w3 w2.heap.size a) := NS.ncall hb3
  have HW3 : Hid (Below w.heap.size w w3) := below_acall HW2.out hb3
  have HG3 : Hid (Glob w3) := Glob.call (Glob.alloc HG2.out) hb3
  have HF3 : Hid (FieldB w3 g m) := FieldB.call (FieldB.alloc HF2.out) hb3
  clear hb3
  clear HW2 HG2 HF2
  go_wp2_with fail
  refine (K4.out g _ (Glob.alloc HG3.out) (FieldB.alloc HF3.out)).mono ?_
  rintro e w4 ⟨rfl, hb4⟩
  have HA4 : Hid (NS w4 (w2.heap.size) a) := NS.acall HA3.out hb4
  have HB4 : Hid (NS w4 w3.heap.size sq) := NS.ncall hb4
  have HW4 : Hid (Below w.heap.size w w4) := below_acall HW3.out hb4
  have HG4 : Hid (Glob w4) := Glob.call (Glob.alloc HG3.out) hb4
  have HF4 : Hid (FieldB w4 g m) := FieldB.call (FieldB.alloc HF3.out) hb4
  clear hb4
  clear HA3 HW3 HG3 HF3
  go_wp2_with fail
  refine (K5.out g _ (FieldB.alloc HF4.out)).mono ?_
  rintro e w5 ⟨rfl, hb5⟩
  have HA5 : Hid (NS w5 (w2.heap.size) a) := NS.acall HA4.out hb5
  have HB5 : Hid (NS w5 (w3.heap.size) sq) := NS.acall HB4.out hb5
  have HC5 : Hid (NS w5 w4.heap.size r) := NS.ncall hb5
  have HW5 : Hid (Below w.heap.size w w5) := below_acall HW4.out hb5
  have HG5 : Hid (Glob w5) := Glob.call (Glob.alloc HG4.out) hb5
  have HF5 : Hid (FieldB w5 g m) := FieldB.call (FieldB.alloc HF4.out) hb5
  clear hb5
  clear HA4 HB4 HW4 HG4 HF4
  obtain ⟨⟨aa0, aa1, aa2, aa3⟩, aaz⟩ := HA5.out.facts
  go_wp2_with fail
  refine (K6.out g _ (FieldB.alloc HF5.out)).mono ?_
  rintro e w6 ⟨rfl, hb6⟩
  have HA6 : Hid (NS w6 (w2.heap.size) a) := NS.acall HA5.out hb6
  have HB6 : Hid (NS w6 (w3.heap.size) sq) := NS.acall HB5.out hb6
  have HC6 : Hid (NS w6 (w4.heap.size) r) := NS.acall HC5.out hb6
  have HD6 : Hid (NS w6 w5.heap.size sq) := NS.ncall hb6
  have HW6 : Hid (Below w.heap.size w w6) := below_acall HW5.out hb6
  have HG6 : Hid (Glob w6) := Glob.call (Glob.alloc HG5.out) hb6
  have HF6 : Hid (FieldB w6 g m) := FieldB.call (FieldB.alloc HF5.out) hb6
  clear hb6
  clear HA5 HB5 HC5 HW5 HG5 HF5
  clear aa0 aa1 aa2 aa3 aaz
  rcases h12 with rfl | ⟨rfl, rfl⟩
  all_goals
    obtain ⟨⟨aa0, aa1, aa2, aa3⟩, aaz⟩ := HA6.out.facts
    obtain ⟨⟨bb0, bb1, bb2, bb3⟩, bbz⟩ := HB6.out.facts
    obtain ⟨⟨cc0, cc1, cc2, cc3⟩, ccz⟩ := HC6.out.facts
    obtain ⟨⟨dd0, dd1, dd2, dd3⟩, ddz⟩ := HD6.out.facts
    go_wp2_with fail
    refine (K7.out g _ (Glob.alloc HG6.out) (FieldB.alloc HF6.out)).mono ?_
    rintro e w7 ⟨rfl, hb7⟩
    have HA7 : Hid (NS w7 (w2.heap.size) a) := NS.acall HA6.out hb7
    have HN7 : Hid (NS w7 w6.heap.size n) := NS.ncall hb7
    have HW7 : Hid (Below w.heap.size w w7) := below_acall HW6.out hb7
    have HG7 : Hid (Glob w7) := Glob.call (Glob.alloc HG6.out) hb7
    have HF7 : Hid (FieldB w7 g m) := FieldB.call (FieldB.alloc HF6.out) hb7
    clear hb7
    clear HA6 HB6 HC6 HD6 HW6 HG6 HF6
    clear aa0 aa1 aa2 aa3 aaz bb0 bb1 bb2 bb3 bbz cc0 cc1 cc2 cc3 ccz dd0 dd1 dd2 dd3 ddz
    obtain ⟨⟨nn0, nn1, nn2, nn3⟩, nnz⟩ := HN7.out.facts
    go_wp2_with fail
    refine (K8.out g _ (Glob.alloc HG7.out) (FieldB.alloc HF7.out)).mono ?_
    rintro e w8 ⟨rfl, hb8⟩
    have HA8 : Hid (NS w8 (w2.heap.size) a) := NS.acall HA7.out hb8
    have HW8 : Hid (Below w.heap.size w w8) := below_acall HW7.out hb8
    have HG8 : Hid (Glob w8) := Glob.call (Glob.alloc HG7.out) hb8
    clear hb8
    clear HA7 HN7 HW7 HG7 HF7
    clear nn0 nn1 nn2 nn3 nnz
    rcases h3 with ⟨rfl, rfl, rfl⟩ | ⟨rfl, rfl, rfl⟩ | ⟨rfl, rfl, rfl⟩
    all_goals
      obtain ⟨⟨aa0, aa1, aa2, aa3⟩, aaz⟩ := HA8.out.facts
      go_wp2_with fail
      refine (half_any _ (Glob.alloc HG8.out)).mono ?_
      rintro e w9 ⟨rfl, hb9⟩
      have HW9 : Hid (Below w.heap.size w w9) := below_acall HW8.out hb9
      clear hb9
      clear HA8 HW8 HG8
      clear aa0 aa1 aa2 aa3 aaz
      go_wp2_with fail
      go_ret
      exact ⟨rfl, HW9.out⟩

theorem fieldRoots_any (x : Nat) (hx : x < R256) (w : World) (hG : Glob w) (hQ : GlobQ w) : Calls Tryd.prog 3 #[.agg #[.int .u64 (limb (x) 0 : Nat), .int .u64 (limb (x) 1 : Nat), .int .u64 (limb (x) 2 : Nat), .int .u64 (limb (x) 3 : Nat)]] w fun e w' => e = .returned (.bool true) ∧ Below w.heap.size w w' := by
  have p0 : 0 < PP := by decide
  obtain ⟨a, ha⟩ : ∃ a, a = x % PP := ⟨_, rfl⟩
  have al : a < PP := by rw [ha]; exact Nat.mod_lt _ p0
  obtain ⟨sq, hsq⟩ : ∃ sq, sq = a * a % PP := ⟨_, rfl⟩
  have sl : sq < PP := by rw [hsq]; exact Nat.mod_lt _ p0
  obtain ⟨n, hn⟩ : ∃ n, n = subM PP 0 a := ⟨_, rfl⟩
  have nl : n < PP := by rw [hn]; exact subM_lt _ _ _ p0
  obtain ⟨s0, hs0⟩ : ∃ s, s = sq ^ rootE % PP := ⟨_, rfl⟩
  have s0l : s0 < PP := by rw [hs0]; exact Nat.mod_lt _ p0
  obtain ⟨r, hr⟩ : ∃ r, r = evenR PP s0 := ⟨_, rfl⟩
  have hs : s0 = a ∨ s0 = n := by rw [hs0, hsq, hn]; exact root_of_sq a al
  have nn : subM PP 0 n = a := by rw [hn]; exact neg_neg PP a al
  have ra : r = a ∨ r = n := by
    rw [hr]
    rcases evenR_cases PP s0 with q | q <;> rcases hs with z | z <;> rw [q, z]
    · exact .inl rfl
    · exact .inr rfl
    · exact .inr hn.symm
    · exact .inl nn
  have rl : r < PP := by rcases ra with q | q <;> rw [q] <;> assumption
  have sqr : s0 * s0 % PP = sq := by
    rcases hs with q | q <;> rw [q, hsq]
    rw [hn, neg_mul_neg PP a al]
  have rr : r * r % PP = sq := by
    rcases ra with q | q <;> rw [q, hsq]
    rw [hn, neg_mul_neg PP a al]
  have R := FM_P.2.1
  have three : ∀ (oka okn : Bool), oka = decide (a ^ rootE % PP * (a ^ rootE % PP) % PP = a) → okn = decide (n ^ rootE % PP * (n ^ rootE % PP) % PP = n) → (decide (a = 0) = true ∧ oka = true ∧ okn = true) ∨ (decide (a = 0) = false ∧ oka = true ∧ okn = false) ∨ (decide (a = 0) = false ∧ oka = false ∧ okn = true) := fun oka okn e1 e2 => by
    by_cases z : a = 0
    · left
      have nz : n = 0 := by rw [hn, subM_zero PP a p0 al, if_pos z]
      rw [e1, e2, nz, z]
      have q : 0 ^ rootE % PP * (0 ^ rootE % PP) % PP = 0 := by rw [Nat.zero_pow (by decide), Nat.zero_mod, Nat.mul_zero, Nat.zero_mod]
      rw [q]
      exact ⟨by simp, by simp, by simp⟩
    · right
      rcases one_root a z al with ⟨q1, q2⟩ | ⟨q1, q2⟩ <;> rw [← hn] at q2
      · left
        exact ⟨by simpa using z, by rw [e1]; exact decide_eq_true q1, by rw [e2]; exact decide_eq_false q2⟩
      · right
        exact ⟨by simpa using z, by rw [e1]; exact decide_eq_false q1, by rw [e2]; exact decide_eq_true q2⟩
  obtain ⟨oka, hoka⟩ : ∃ o, o = decide (a ^ rootE % PP * (a ^ rootE % PP) % PP = a) := ⟨_, rfl⟩
  obtain ⟨okn, hokn⟩ : ∃ o, o = decide (n ^ rootE % PP * (n ^ rootE % PP) % PP = n) := ⟨_, rfl⟩
  obtain ⟨sa, hsa⟩ : ∃ s, s = evenR PP (a ^ rootE % PP) := ⟨_, rfl⟩
  obtain ⟨sn, hsn⟩ : ∃ s, s = evenR PP (n ^ rootE % PP) := ⟨_, rfl⟩
  have ka := fun g w hG h => fsqrt_P g a _ sa oka al rfl hoka hsa w hG h
  have kn := fun g w hG h => fsqrt_P g n _ sn okn nl rfl hokn hsn w hG h
  have t3 := three oka okn hoka hokn
  have ks : ∀ (g : Nat) (w : World), Glob w → FieldB w g PP → Calls Tryd.prog 9 #[.pointer (some ⟨g, 0, none⟩), .agg #[.int .u64 (limb (sq) 0 : Nat), .int .u64 (limb (sq) 1 : Nat), .int .u64 (limb (sq) 2 : Nat), .int .u64 (limb (sq) 3 : Nat)]] w fun e w' => e = .returned (.tuple #[.agg #[.int .u64 (limb (r) 0 : Nat), .int .u64 (limb (r) 1 : Nat), .int .u64 (limb (r) 2 : Nat), .int .u64 (limb (r) 3 : Nat)], .int .i64 0]) ∧ Below w.heap.size w w' := fun g w hG h =>
    fsqrt_P g sq s0 r true sl hs0 (by rw [sqr]; simp) hr w hG h
  have km : ∀ (g : Nat) (w : World), FieldB w g PP → Calls Tryd.prog 8 #[.pointer (some ⟨g, 0, none⟩), .agg #[.int .u64 (limb (r) 0 : Nat), .int .u64 (limb (r) 1 : Nat), .int .u64 (limb (r) 2 : Nat), .int .u64 (limb (r) 3 : Nat)], .agg #[.int .u64 (limb (r) 0 : Nat), .int .u64 (limb (r) 1 : Nat), .int .u64 (limb (r) 2 : Nat), .int .u64 (limb (r) 3 : Nat)]] w fun e w' => e = .returned (.tuple #[.agg #[.int .u64 (limb (sq) 0 : Nat), .int .u64 (limb (sq) 1 : Nat), .int .u64 (limb (sq) 2 : Nat), .int .u64 (limb (sq) 3 : Nat)], .int .i64 0]) ∧ Below w.heap.size w w' := fun g w h => by
    have k := fmul_in g PP r r FM_P rl rl w h
    rw [rr] at k
    exact k
  have kq : ∀ (g : Nat) (w : World), FieldB w g PP → Calls Tryd.prog 8 #[.pointer (some ⟨g, 0, none⟩), .agg #[.int .u64 (limb (a) 0 : Nat), .int .u64 (limb (a) 1 : Nat), .int .u64 (limb (a) 2 : Nat), .int .u64 (limb (a) 3 : Nat)], .agg #[.int .u64 (limb (a) 0 : Nat), .int .u64 (limb (a) 1 : Nat), .int .u64 (limb (a) 2 : Nat), .int .u64 (limb (a) 3 : Nat)]] w fun e w' => e = .returned (.tuple #[.agg #[.int .u64 (limb (sq) 0 : Nat), .int .u64 (limb (sq) 1 : Nat), .int .u64 (limb (sq) 2 : Nat), .int .u64 (limb (sq) 3 : Nat)], .int .i64 0]) ∧ Below w.heap.size w w' := fun g w h => by
    have k := fmul_in g PP a a FM_P al al w h
    rw [← hsq] at k
    exact k
  have ke : ∀ (g : Nat) (w : World), FieldB w g PP → Calls Tryd.prog 10 #[.pointer (some ⟨g, 0, none⟩), .agg #[.int .u64 (limb (a) 0 : Nat), .int .u64 (limb (a) 1 : Nat), .int .u64 (limb (a) 2 : Nat), .int .u64 (limb (a) 3 : Nat)]] w fun e w' => e = .returned (.tuple #[.agg #[.int .u64 (limb (n) 0 : Nat), .int .u64 (limb (n) 1 : Nat), .int .u64 (limb (n) 2 : Nat), .int .u64 (limb (n) 3 : Nat)], .int .i64 0]) ∧ Below w.heap.size w w' := fun g w h => by
    have k := fneg_in g PP a FM_P al w h
    rw [← hn] at k
    exact k
  have ki : ∀ w, Calls Tryd.prog 7 #[.agg #[.int .u64 (limb PP 0 : Nat), .int .u64 (limb PP 1 : Nat), .int .u64 (limb PP 2 : Nat), .int .u64 (limb PP 3 : Nat), .int .u64 (limb (R256 - PP) 0 : Nat), .int .u64 (limb (R256 - PP) 1 : Nat), .int .u64 (limb (R256 - PP) 2 : Nat), .int .u64 (limb (R256 - PP) 3 : Nat)], .agg #[.int .u64 (limb (x) 0 : Nat), .int .u64 (limb (x) 1 : Nat), .int .u64 (limb (x) 2 : Nat), .int .u64 (limb (x) 3 : Nat)]] w fun e w' => e = .returned (.agg #[.int .u64 (limb (a) 0 : Nat), .int .u64 (limb (a) 1 : Nat), .int .u64 (limb (a) 2 : Nat), .int .u64 (limb (a) 3 : Nat)]) ∧ Below w.heap.size w w' := fun w => by
    rw [ha]
    exact in_any PP x FM_P FS_P hx w
  have h12 : decide (r = a) = true ∨ (decide (r = a) = false ∧ decide (r = n) = true) := by
    by_cases z : r = a
    · exact .inl (decide_eq_true z)
    · exact .inr ⟨decide_eq_false z, decide_eq_true (by rcases ra with q | q; exact absurd q z; exact q)⟩
  have hev : limb r 0 % 2 = 0 := by
    have e := evenR_is_even s0 s0l
    rw [← hr] at e
    rw [limb_zero]
    unfold M64
    omega
  rcases t3 with ⟨z, rfl, rfl⟩ | ⟨z, rfl, rfl⟩ | ⟨z, rfl, rfl⟩
  · exact roots_go PP x a sq r n _ _ _ _ _ _ _ _ 0 0 _ _ true of_true ki kq ks km ke ka kn (eq4_num r a (by omega) (by omega)) (eq4_num r n (by omega) (by omega)) (by rw [eq4_zero a (by omega)]; exact z) h12 (.inl ⟨rfl, rfl, rfl⟩) hev w hG hQ
  · exact roots_go PP x a sq r n _ _ _ _ _ _ _ _ 0 22 _ _ false of_true ki kq ks km ke ka kn (eq4_num r a (by omega) (by omega)) (eq4_num r n (by omega) (by omega)) (by rw [eq4_zero a (by omega)]; exact z) h12 (.inr (.inl ⟨rfl, rfl, rfl⟩)) hev w hG hQ
  · exact roots_go PP x a sq r n _ _ _ _ _ _ _ _ 22 0 _ _ false of_true ki kq ks km ke ka kn (eq4_num r a (by omega) (by omega)) (eq4_num r n (by omega) (by omega)) (by rw [eq4_zero a (by omega)]; exact z) h12 (.inr (.inr ⟨rfl, rfl, rfl⟩)) hev w hG hQ
end Go.Proofs.YtglifkfkcepllabDoor
