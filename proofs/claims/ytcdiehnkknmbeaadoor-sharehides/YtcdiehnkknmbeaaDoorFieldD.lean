/- Field.plus, minus, times, join, and Add, Sub, Mul, Neg, Modulus: sums, differences and products mod the prime. -/
import Derived.Test.YtcdiehnkknmbeaaDoorFieldR
import Derived.Test.YtcdiehnkknmbeaaDoorOwn
import Derived.Deep.RegionWith
import Derived.Deep.DeepCutAuto
namespace Go.Proofs.YtcdiehnkknmbeaaDoor
open Go.RowKit

def subM (m a b : Nat) : Nat := (a + m - b) % m
theorem subM_lt (m a b : Nat) (h : 0 < m) : subM m a b < m := Nat.mod_lt _ h
theorem addK_val (a b : Nat) : R256 * addK a b + addN a b = a + b := by unfold addK addN; rw [Nat.add_comm, Nat.mod_add_div]
theorem plus_val (m a b : Nat) (hm : m < R256) (ha : a < m) (hb : b < m) : lessN (addK a b) (addN a b) m = (a + b) % m :=
  lessN_eq _ _ m (a + b) (addK_val a b).symm (by omega) hm (addN_lt a b) (addK_le a b (by omega) (by omega))
theorem minus_ge (m a b : Nat) (hm : m < R256) (ha : a < m) (hb : b < m) (h : b ≤ a) : subN a b = subM m a b := by
  unfold subN subM
  rw [show a + R256 - b = (a - b) + R256 from by omega, Nat.add_mod_right, Nat.mod_eq_of_lt (by omega), show a + m - b = (a - b) + m from by omega, Nat.add_mod_right, Nat.mod_eq_of_lt (by omega)]
theorem minus_lt (m a b : Nat) (hm : m < R256) (hb : b < m) (h : a < b) : addN (subN a b) m = subM m a b := by
  unfold addN subN subM
  rw [Nat.mod_eq_of_lt (show a + R256 - b < R256 by omega), show a + R256 - b + m = (a + m - b) + R256 from by omega, Nat.add_mod_right, Nat.mod_eq_of_lt (by omega), Nat.mod_eq_of_lt (by omega)]

set_option maxHeartbeats 2000000 in
theorem plus_fld (g m a b : Nat) (hF : FM m) (ha : a < m) (hb : b < m) (w : World) (hM : FieldB w g m) :
    Calls Tryd.prog 45 #[.pointer (some ⟨g, 0, none⟩), .agg #[.int .u64 (limb (a) 0 : Nat), .int .u64 (limb (a) 1 : Nat), .int .u64 (limb (a) 2 : Nat), .int .u64 (limb (a) 3 : Nat)], .agg #[.int .u64 (limb (b) 0 : Nat), .int .u64 (limb (b) 1 : Nat), .int .u64 (limb (b) 2 : Nat), .int .u64 (limb (b) 3 : Nat)]] w fun e w' => e = .returned (.agg #[.int .u64 (limb ((a + b) % m) 0 : Nat), .int .u64 (limb ((a + b) % m) 1 : Nat), .int .u64 (limb ((a + b) % m) 2 : Nat), .int .u64 (limb ((a + b) % m) 3 : Nat)]) ∧ Below w.heap.size w w' := by
  have mR := hF.2.1
  have k1 := add_any a b (by omega) (by omega)
  have k2 := fun (w : World) (h : FieldB w g m) => lessOnce_any g (addK a b) (addN a b) m (addN_lt a b) mR w h.1 h.2.2
  rw [plus_val m a b mR ha hb] at k2
  obtain ⟨r, hr⟩ : ∃ r, r = (a + b) % m := ⟨_, rfl⟩
  obtain ⟨s, hs⟩ : ∃ s, s = addN a b := ⟨_, rfl⟩
  obtain ⟨c, hc⟩ : ∃ c, c = addK a b := ⟨_, rfl⟩
  rw [← hs, ← hc] at k1 k2
  rw [← hr] at k2
  rw [← hr]
  have K1 : Hid _ := k1
  have K2 : Hid _ := k2
  have HM : Hid _ := hM
  clear k1 k2 hr hs hc ha hb hM hF mR
  go_enter Tryd.func45, Tryd.ntmps45
  go_wp2_with fail
  refine (K1.out _).mono ?_
  rintro e w1 ⟨rfl, hb1⟩
  have hz1 := hb1.size
  try simp only [World.size_alloc] at hz1
  have P1 := Pend.call_new hb1
  simp only [World.size_alloc] at P1
  have M1 : FieldB w1 g m := (FieldB.alloc (FieldB.alloc (FieldB.alloc HM.out))).call hb1
  have W1 : Below w.heap.size w w1 := by ((repeat' (first | with_reducible exact Below.refl _ _ | with_reducible refine Below.setCell ?_ ?_ _ | with_reducible refine below_alloc0 ?_ _ | with_reducible refine below_drewN ?_ _ | with_reducible refine Below.drew ?_ | refine below_call0 ?_ (by assumption))) <;> (first | omega | (simp; done) | (simp; omega)))
  clear hb1 hz1 K1 HM
  go_wp2_with fail
  refine (K2.out _ (FieldB.alloc M1)).mono ?_
  rintro e w2 ⟨rfl, hb2⟩
  have P2 := P1.alloc.call hb2
  have W2 : Below w.heap.size w w2 := below_call0 (below_alloc0 W1 _) hb2
  obtain ⟨⟨p0, p1, p2, p3⟩, ⟨f0, f1, f2, f3⟩, pz⟩ := P2.facts
  clear hb2 K2 M1 W1 P1
  go_wp2
  refine bodyPost_ret (v := .agg #[.int .u64 (limb (r) 0 : Nat), .int .u64 (limb (r) 1 : Nat), .int .u64 (limb (r) 2 : Nat), .int .u64 (limb (r) 3 : Nat)]) ?_ rfl ⟨rfl, ?_⟩
  · simp [results, Tryd.results45, go_sem, p0, p1, p2, p3]
  · ((repeat' (first | with_reducible exact Below.refl _ _ | with_reducible refine Below.setCell ?_ ?_ _ | with_reducible refine below_alloc0 ?_ _ | with_reducible refine below_drewN ?_ _ | with_reducible refine Below.drew ?_ | refine below_call0 ?_ (by assumption))) <;> (first | omega | (simp; done) | (simp; omega)))

set_option maxHeartbeats 2000000 in
theorem minus_fld_ge (g m a b : Nat) (hF : FM m) (ha : a < m) (hb : b < m) (h : b ≤ a) (w : World) :
    Calls Tryd.prog 71 #[.pointer (some ⟨g, 0, none⟩), .agg #[.int .u64 (limb (a) 0 : Nat), .int .u64 (limb (a) 1 : Nat), .int .u64 (limb (a) 2 : Nat), .int .u64 (limb (a) 3 : Nat)], .agg #[.int .u64 (limb (b) 0 : Nat), .int .u64 (limb (b) 1 : Nat), .int .u64 (limb (b) 2 : Nat), .int .u64 (limb (b) 3 : Nat)]] w fun e w' => e = .returned (.agg #[.int .u64 (limb (subM m a b) 0 : Nat), .int .u64 (limb (subM m a b) 1 : Nat), .int .u64 (limb (subM m a b) 2 : Nat), .int .u64 (limb (subM m a b) 3 : Nat)]) ∧ Below w.heap.size w w' := by
  have mR := hF.2.1
  have k1 := sub_any a b (by omega) (by omega)
  rw [minus_ge m a b mR ha hb h, show subK a b = 0 from if_neg (by omega)] at k1
  obtain ⟨r, hr⟩ : ∃ r, r = subM m a b := ⟨_, rfl⟩
  rw [← hr] at k1
  rw [← hr]
  have K1 : Hid _ := k1
  clear k1 hr ha hb hF mR h
  go_enter Tryd.func71, Tryd.ntmps71
  go_wp2_with fail
  refine (K1.out _).mono ?_
  rintro e w1 ⟨rfl, hb1⟩
  have hz1 := hb1.size
  try simp only [World.size_alloc] at hz1
  have P1 := Pend.call_new hb1
  simp only [World.size_alloc] at P1
  have W1 : Below w.heap.size w w1 := by ((repeat' (first | with_reducible exact Below.refl _ _ | with_reducible refine Below.setCell ?_ ?_ _ | with_reducible refine below_alloc0 ?_ _ | with_reducible refine below_drewN ?_ _ | with_reducible refine Below.drew ?_ | refine below_call0 ?_ (by assumption))) <;> (first | omega | (simp; done) | (simp; omega)))
  obtain ⟨⟨p0, p1, p2, p3⟩, ⟨f0, f1, f2, f3⟩, pz⟩ := P1.facts
  clear hb1 K1
  go_wp2
  refine bodyPost_ret (v := .agg #[.int .u64 (limb (r) 0 : Nat), .int .u64 (limb (r) 1 : Nat), .int .u64 (limb (r) 2 : Nat), .int .u64 (limb (r) 3 : Nat)]) ?_ rfl ⟨rfl, ?_⟩
  · simp [results, Tryd.results71, go_sem, p0, p1, p2, p3, pz]
  · ((repeat' (first | with_reducible exact Below.refl _ _ | with_reducible refine Below.setCell ?_ ?_ _ | with_reducible refine below_alloc0 ?_ _ | with_reducible refine below_drewN ?_ _ | with_reducible refine Below.drew ?_ | refine below_call0 ?_ (by assumption))) <;> (first | omega | (simp; done) | (simp; omega)))

set_option maxHeartbeats 2000000 in
theorem minus_fld_lt (g m a b : Nat) (hF : FM m) (hb : b < m) (h : a < b) (w : World) (hM : FieldB w g m) :
    Calls Tryd.prog 71 #[.pointer (some ⟨g, 0, none⟩), .agg #[.int .u64 (limb (a) 0 : Nat), .int .u64 (limb (a) 1 : Nat), .int .u64 (limb (a) 2 : Nat), .int .u64 (limb (a) 3 : Nat)], .agg #[.int .u64 (limb (b) 0 : Nat), .int .u64 (limb (b) 1 : Nat), .int .u64 (limb (b) 2 : Nat), .int .u64 (limb (b) 3 : Nat)]] w fun e w' => e = .returned (.agg #[.int .u64 (limb (subM m a b) 0 : Nat), .int .u64 (limb (subM m a b) 1 : Nat), .int .u64 (limb (subM m a b) 2 : Nat), .int .u64 (limb (subM m a b) 3 : Nat)]) ∧ Below w.heap.size w w' := by
  have mR := hF.2.1
  have k1 := sub_any a b (by omega) (by omega)
  rw [show subK a b = 1 from if_pos h] at k1
  have k2 := add_any (subN a b) m (subN_lt a b) mR
  rw [minus_lt m a b mR hb h] at k2
  obtain ⟨r, hr⟩ : ∃ r, r = subM m a b := ⟨_, rfl⟩
  obtain ⟨s, hs⟩ : ∃ s, s = subN a b := ⟨_, rfl⟩
  obtain ⟨c, hc⟩ : ∃ c, c = addK (subN a b) m := ⟨_, rfl⟩
  rw [← hs] at k1 k2
  rw [← hs] at hc
  rw [← hr, ← hc] at k2
  rw [← hr]
  have K1 : Hid _ := k1
  have K2 : Hid _ := k2
  have HM : Hid _ := hM
  clear k1 k2 hr hs hc hb hM hF mR h
  go_enter Tryd.func71, Tryd.ntmps71
  go_wp2_with fail
  refine (K1.out _).mono ?_
  rintro e w1 ⟨rfl, hb1⟩
  have hz1 := hb1.size
  try simp only [World.size_alloc] at hz1
  have P1 := Pend.call_new hb1
  simp only [World.size_alloc] at P1
  have M1 : FieldB w1 g m := (FieldB.alloc (FieldB.alloc (FieldB.alloc HM.out))).call hb1
  have W1 : Below w.heap.size w w1 := by ((repeat' (first | with_reducible exact Below.refl _ _ | with_reducible refine Below.setCell ?_ ?_ _ | with_reducible refine below_alloc0 ?_ _ | with_reducible refine below_drewN ?_ _ | with_reducible refine Below.drew ?_ | refine below_call0 ?_ (by assumption))) <;> (first | omega | (simp; done) | (simp; omega)))
  clear hb1 hz1 K1 HM
  obtain ⟨m0, m1, m2, m3⟩ := M1.1.facts
  have mz := M1.2.2
  go_wp2_with fail
  obtain ⟨X, hX⟩ : ∃ X, X = w1.alloc (.cells #[.int .u64 (limb s 0 : Nat), .int .u64 (limb s 1 : Nat), .int .u64 (limb s 2 : Nat), .int .u64 (limb s 3 : Nat)] 25) := ⟨_, rfl⟩
  rw [← hX]
  have OX : Own4 X w1.heap.size s := by rw [hX]; exact Own4.new _ _ _
  have PX : Pend X (w.heap.size + 1 + 1) := by rw [hX]; exact P1.alloc
  have WX : Below w.heap.size w X := by rw [hX]; exact below_alloc0 W1 _
  have MX : Num4 X g m := by rw [hX]; exact M1.1.alloc mz
  have ne : w1.heap.size ≠ w.heap.size + 1 + 1 := by have := P1.2.2; omega
  have lw : w.heap.size ≤ w1.heap.size := W1.size
  clear hX m0 m1 m2 m3
  obtain ⟨m0, m1, m2, m3⟩ := MX.facts
  obtain ⟨⟨o0, o1, o2, o3⟩, _, oz⟩ := OX.facts
  have HP : Hid _ := And.intro OX (And.intro PX WX)
  clear P1 W1 M1 OX PX WX MX
  go_cut [7, 6] (fun v7 v6 wx => v7 = .pointer (some ⟨w1.heap.size, 0, none⟩) ∧ v6 = .pointer (some ⟨w.heap.size + 1 + 1, 0, none⟩) ∧ Own4 wx w1.heap.size r ∧ Pend wx (w.heap.size + 1 + 1) ∧ Below w.heap.size w wx)
  case first =>
    go_region_with (first | (go_at_call 57; refine (K2.out _).mono ?_; rintro e w2 ⟨rfl, hq2⟩; have O2 := Own4.call (W := X.drew) HP.out.1 hq2; have P2 := Pend.call (W := X.drew) HP.out.2.1 hq2; have W2 : Below w.heap.size w w2 := below_call0 (Below.drew HP.out.2.2) hq2; obtain ⟨⟨o0, o1, o2, o3⟩, ⟨u0, u1, u2, u3⟩, oz⟩ := O2.facts))
    all_goals (go_wp2_with fail; go_meet)
    all_goals refine ⟨rfl, rfl, Own4.put O2, ?_, ?_⟩
    all_goals first
      | exact Pend.set (Pend.set (Pend.set (Pend.set P2 ne) ne) ne) ne
      | exact Below.setCell (Below.setCell (Below.setCell (Below.setCell W2 lw _) lw _) lw _) lw _
  case rest =>
    obtain ⟨rfl, rfl, OC, PC, WC⟩ := hcut
    obtain ⟨⟨p0, p1, p2, p3⟩, ⟨f0, f1, f2, f3⟩, pz⟩ := PC.facts
    obtain ⟨⟨q0, q1, q2, q3⟩, _, qz⟩ := OC.facts
    clear HP K2
    go_wp2
    refine bodyPost_ret (v := .agg #[.int .u64 (limb (r) 0 : Nat), .int .u64 (limb (r) 1 : Nat), .int .u64 (limb (r) 2 : Nat), .int .u64 (limb (r) 3 : Nat)]) ?_ rfl ⟨rfl, ?_⟩
    · simp [results, Tryd.results71, go_sem, p0, p1, p2, p3]
    · ((repeat' (first | with_reducible exact Below.refl _ _ | with_reducible refine Below.setCell ?_ ?_ _ | with_reducible refine below_alloc0 ?_ _ | with_reducible refine below_drewN ?_ _ | with_reducible refine Below.drew ?_ | refine below_call0 ?_ (by assumption))) <;> (first | omega | (simp; done) | (simp; omega)))

theorem minus_fld (g m a b : Nat) (hF : FM m) (ha : a < m) (hb : b < m) (w : World) (hM : FieldB w g m) :
    Calls Tryd.prog 71 #[.pointer (some ⟨g, 0, none⟩), .agg #[.int .u64 (limb (a) 0 : Nat), .int .u64 (limb (a) 1 : Nat), .int .u64 (limb (a) 2 : Nat), .int .u64 (limb (a) 3 : Nat)], .agg #[.int .u64 (limb (b) 0 : Nat), .int .u64 (limb (b) 1 : Nat), .int .u64 (limb (b) 2 : Nat), .int .u64 (limb (b) 3 : Nat)]] w fun e w' => e = .returned (.agg #[.int .u64 (limb (subM m a b) 0 : Nat), .int .u64 (limb (subM m a b) 1 : Nat), .int .u64 (limb (subM m a b) 2 : Nat), .int .u64 (limb (subM m a b) 3 : Nat)]) ∧ Below w.heap.size w w' := by
  by_cases h : a < b
  · exact minus_fld_lt g m a b hF hb h w hM
  · exact minus_fld_ge g m a b hF ha hb (by omega) w

set_option maxHeartbeats 2000000 in
theorem times_fld (g m a b : Nat) (hF : FM m) (ha : a < R256) (hb : b < R256) (w : World) (hM : FieldB w g m) :
    Calls Tryd.prog 63 #[.pointer (some ⟨g, 0, none⟩), .agg #[.int .u64 (limb (a) 0 : Nat), .int .u64 (limb (a) 1 : Nat), .int .u64 (limb (a) 2 : Nat), .int .u64 (limb (a) 3 : Nat)], .agg #[.int .u64 (limb (b) 0 : Nat), .int .u64 (limb (b) 1 : Nat), .int .u64 (limb (b) 2 : Nat), .int .u64 (limb (b) 3 : Nat)]] w fun e w' => e = .returned (.agg #[.int .u64 (limb (a * b % m) 0 : Nat), .int .u64 (limb (a * b % m) 1 : Nat), .int .u64 (limb (a * b % m) 2 : Nat), .int .u64 (limb (a * b % m) 3 : Nat)]) ∧ Below w.heap.size w w' := by
  have k1 := mul_any a b ha hb
  have k2 := fun (w : World) (h : FieldB w g m) => reduce_any g m (a * b) hF (Nat.mul_lt_mul_of_lt_of_le ha (Nat.le_of_lt hb) (by decide)) w h
  obtain ⟨r, hr⟩ : ∃ r, r = a * b % m := ⟨_, rfl⟩
  obtain ⟨V, hV⟩ : ∃ V, V = a * b := ⟨_, rfl⟩
  rw [← hr] at k2
  rw [← hV] at k1 k2
  rw [← hr]
  have K1 : Hid _ := k1
  have K2 : Hid _ := k2
  have HM : Hid _ := hM
  clear k1 k2 hr hV ha hb hM hF
  go_enter Tryd.func63, Tryd.ntmps63
  go_wp2_with fail
  refine (K1.out _).mono ?_
  rintro e w1 ⟨rfl, hb1⟩
  have hz1 := hb1.size
  try simp only [World.size_alloc] at hz1
  have P1 := Pend.call_new hb1
  simp only [World.size_alloc] at P1
  have M1 : FieldB w1 g m := (FieldB.alloc (FieldB.alloc (FieldB.alloc HM.out))).call hb1
  have W1 : Below w.heap.size w w1 := by ((repeat' (first | with_reducible exact Below.refl _ _ | with_reducible refine Below.setCell ?_ ?_ _ | with_reducible refine below_alloc0 ?_ _ | with_reducible refine below_drewN ?_ _ | with_reducible refine Below.drew ?_ | refine below_call0 ?_ (by assumption))) <;> (first | omega | (simp; done) | (simp; omega)))
  clear hb1 hz1 K1 HM
  go_wp2_with fail
  refine (K2.out _ M1).mono ?_
  rintro e w2 ⟨rfl, hb2⟩
  have P2 := P1.call hb2
  have W2 : Below w.heap.size w w2 := below_call0 W1 hb2
  obtain ⟨⟨p0, p1, p2, p3⟩, ⟨f0, f1, f2, f3⟩, pz⟩ := P2.facts
  clear hb2 K2 M1 W1 P1
  go_wp2
  refine bodyPost_ret (v := .agg #[.int .u64 (limb (r) 0 : Nat), .int .u64 (limb (r) 1 : Nat), .int .u64 (limb (r) 2 : Nat), .int .u64 (limb (r) 3 : Nat)]) ?_ rfl ⟨rfl, ?_⟩
  · simp [results, Tryd.results63, go_sem, p0, p1, p2, p3]
  · ((repeat' (first | with_reducible exact Below.refl _ _ | with_reducible refine Below.setCell ?_ ?_ _ | with_reducible refine below_alloc0 ?_ _ | with_reducible refine below_drewN ?_ _ | with_reducible refine Below.drew ?_ | refine below_call0 ?_ (by assumption))) <;> (first | omega | (simp; done) | (simp; omega)))
end Go.Proofs.YtcdiehnkknmbeaaDoor
