/- Field.Encode and Decode, and the reference's Decode: what they answer. -/
import Derived.Test.YtgmfecncfekjfaaDoorFieldM
import Derived.Test.YtgmfecncfekjfaaDoorRef2F
import Derived.Test.YtgmfecncfekjfaaDoorLbA
import Derived.Test.YtgmfecncfekjfaaDoorTxA
namespace Go.Proofs.YtgmfecncfekjfaaDoor
open Go.RowKit
attribute [local go_sem] run_eq4

set_option maxHeartbeats 1000000 in
theorem decode_go (g m n : Nat) (s : ByteArray) (k1 : ∀ w, Calls Tryd.prog 91 #[.string s] w fun e w' => e = .returned (.tuple #[.agg #[.int .u64 (limb (n) 0 : Nat), .int .u64 (limb (n) 1 : Nat), .int .u64 (limb (n) 2 : Nat), .int .u64 (limb (n) 3 : Nat)], .int .i64 0]) ∧ Below w.heap.size w w')
    (k2 : ∀ w, FieldB w g m → Calls Tryd.prog 47 #[.pointer (some ⟨g, 0, none⟩), .agg #[.int .u64 (limb (n) 0 : Nat), .int .u64 (limb (n) 1 : Nat), .int .u64 (limb (n) 2 : Nat), .int .u64 (limb (n) 3 : Nat)]] w fun e w' => e = .returned (.int .i64 0) ∧ Below w.heap.size w w') (w : World) (hM : FieldB w g m) :
    Calls Tryd.prog 77 #[.pointer (some ⟨g, 0, none⟩), .string s] w fun e w' => e = .returned (.tuple #[.agg #[.int .u64 (limb (n) 0 : Nat), .int .u64 (limb (n) 1 : Nat), .int .u64 (limb (n) 2 : Nat), .int .u64 (limb (n) 3 : Nat)], .int .i64 0]) ∧ Below w.heap.size w w' := by
  have K1 : Hid _ := k1
  have K2 : Hid _ := k2
  have HM : Hid (FieldB w g m) := hM
  clear k1 k2 hM
  go_enter Tryd.func77, Tryd.ntmps77
  go_wp2_with fail
  refine (K1.out _).mono ?_
  rintro e w1 ⟨rfl, hb1⟩
  have HP1 : Hid (Pend w1 w.heap.size) := Pend.call_new hb1
  have HW1 : Hid (Below w.heap.size w w1) := below_call0 (by ((repeat' (first | with_reducible exact Below.refl _ _ | with_reducible refine Below.setCell ?_ ?_ _ | with_reducible refine below_alloc0 ?_ _ | with_reducible refine below_drewN ?_ _ | with_reducible refine Below.drew ?_ | refine below_call0 ?_ (by assumption))) <;> (first | omega | (simp; done) | (simp; omega)))) hb1
  clear hb1 K1
  have HM1 : Hid (FieldB w1 g m) := FieldB.call HM.out HW1.out
  clear HM
  go_wp2_with fail
  refine (K2.out _ (FieldB.alloc HM1.out)).mono ?_
  rintro e w2 ⟨rfl, hb2⟩
  have HN : Hid (NS w2 w1.heap.size n) := NS.ncall hb2
  have HP2 : Hid (Pend w2 w.heap.size) := Pend.call (Pend.alloc HP1.out) hb2
  have HW2 : Hid (Below w.heap.size w w2) := below_acall HW1.out hb2
  clear hb2 K2 HM1 HW1 HP1
  obtain ⟨⟨a0, a1, a2, a3⟩, az⟩ := HN.out.facts
  obtain ⟨⟨p0, p1, p2, p3⟩, ⟨f0, f1, f2, f3⟩, pz⟩ := HP2.out.facts
  go_wp2
  refine bodyPost_ret (v := .tuple #[.agg #[.int .u64 (limb (n) 0 : Nat), .int .u64 (limb (n) 1 : Nat), .int .u64 (limb (n) 2 : Nat), .int .u64 (limb (n) 3 : Nat)], .int .i64 0]) ?_ rfl ⟨rfl, ?_⟩
  · simp [results, Tryd.results77, go_sem, p0, p1, p2, p3]
  · have := HW2.out
    ((repeat' (first | with_reducible exact Below.refl _ _ | with_reducible refine Below.setCell ?_ ?_ _ | with_reducible refine below_alloc0 ?_ _ | with_reducible refine below_drewN ?_ _ | with_reducible refine Below.drew ?_ | refine below_call0 ?_ (by assumption))) <;> (first | omega | (simp; done) | (simp; omega)))

set_option maxHeartbeats 1000000 in
theorem decode_no (g m n : Nat) (s : ByteArray) (k1 : ∀ w, Calls Tryd.prog 91 #[.string s] w fun e w' => e = .returned (.tuple #[.agg #[.int .u64 (limb (n) 0 : Nat), .int .u64 (limb (n) 1 : Nat), .int .u64 (limb (n) 2 : Nat), .int .u64 (limb (n) 3 : Nat)], .int .i64 0]) ∧ Below w.heap.size w w')
    (k2 : ∀ w, FieldB w g m → Calls Tryd.prog 47 #[.pointer (some ⟨g, 0, none⟩), .agg #[.int .u64 (limb (n) 0 : Nat), .int .u64 (limb (n) 1 : Nat), .int .u64 (limb (n) 2 : Nat), .int .u64 (limb (n) 3 : Nat)]] w fun e w' => e = .returned (.int .i64 20) ∧ Below w.heap.size w w') (w : World) (hM : FieldB w g m) :
    Calls Tryd.prog 77 #[.pointer (some ⟨g, 0, none⟩), .string s] w fun e w' => e = .returned (.tuple #[z4, .int .i64 20]) ∧ Below w.heap.size w w' := by
  have K1 : Hid _ := k1
  have K2 : Hid _ := k2
  have HM : Hid (FieldB w g m) := hM
  clear k1 k2 hM
  go_enter Tryd.func77, Tryd.ntmps77
  go_wp2_with fail
  refine (K1.out _).mono ?_
  rintro e w1 ⟨rfl, hb1⟩
  have HP1 : Hid (Pend w1 w.heap.size) := Pend.call_new hb1
  have HW1 : Hid (Below w.heap.size w w1) := below_call0 (by ((repeat' (first | with_reducible exact Below.refl _ _ | with_reducible refine Below.setCell ?_ ?_ _ | with_reducible refine below_alloc0 ?_ _ | with_reducible refine below_drewN ?_ _ | with_reducible refine Below.drew ?_ | refine below_call0 ?_ (by assumption))) <;> (first | omega | (simp; done) | (simp; omega)))) hb1
  clear hb1 K1
  have HM1 : Hid (FieldB w1 g m) := FieldB.call HM.out HW1.out
  clear HM
  go_wp2_with fail
  refine (K2.out _ (FieldB.alloc HM1.out)).mono ?_
  rintro e w2 ⟨rfl, hb2⟩
  have HN : Hid (NS w2 w1.heap.size n) := NS.ncall hb2
  have HP2 : Hid (Pend w2 w.heap.size) := Pend.call (Pend.alloc HP1.out) hb2
  have HW2 : Hid (Below w.heap.size w w2) := below_acall HW1.out hb2
  clear hb2 K2 HM1 HW1 HP1
  obtain ⟨⟨a0, a1, a2, a3⟩, az⟩ := HN.out.facts
  obtain ⟨⟨p0, p1, p2, p3⟩, ⟨f0, f1, f2, f3⟩, pz⟩ := HP2.out.facts
  go_wp2
  refine bodyPost_ret (v := .tuple #[z4, .int .i64 20]) ?_ rfl ⟨rfl, ?_⟩
  · simp [results, Tryd.results77, go_sem, p0, p1, p2, p3]
  · have := HW2.out
    ((repeat' (first | with_reducible exact Below.refl _ _ | with_reducible refine Below.setCell ?_ ?_ _ | with_reducible refine below_alloc0 ?_ _ | with_reducible refine below_drewN ?_ _ | with_reducible refine Below.drew ?_ | refine below_call0 ?_ (by assumption))) <;> (first | omega | (simp; done) | (simp; omega)))

set_option maxHeartbeats 2000000 in
theorem decode2_go (m n : Nat) (s : ByteArray) (k1 : ∀ w, Calls Tryd.prog 79 #[.string s] w fun e w' => e = .returned (.tuple #[.agg #[.int .u64 (limb (n) 0 : Nat), .int .u64 (limb (n) 1 : Nat), .int .u64 (limb (n) 2 : Nat), .int .u64 (limb (n) 3 : Nat)], .int .i64 0]) ∧ Below w.heap.size w w')
    (k2 : ∀ w, Calls Tryd.prog 39 #[.agg #[.int .u64 (limb (m) 0 : Nat), .int .u64 (limb (m) 1 : Nat), .int .u64 (limb (m) 2 : Nat), .int .u64 (limb (m) 3 : Nat), .int .u64 (limb (R256 - (m)) 0 : Nat), .int .u64 (limb (R256 - (m)) 1 : Nat), .int .u64 (limb (R256 - (m)) 2 : Nat), .int .u64 (limb (R256 - (m)) 3 : Nat)], .agg #[.int .u64 (limb (n) 0 : Nat), .int .u64 (limb (n) 1 : Nat), .int .u64 (limb (n) 2 : Nat), .int .u64 (limb (n) 3 : Nat)]] w fun e w' => e = .returned (.bool true) ∧ Below w.heap.size w w') (w : World) :
    Calls Tryd.prog 54 #[.agg #[.int .u64 (limb (m) 0 : Nat), .int .u64 (limb (m) 1 : Nat), .int .u64 (limb (m) 2 : Nat), .int .u64 (limb (m) 3 : Nat), .int .u64 (limb (R256 - (m)) 0 : Nat), .int .u64 (limb (R256 - (m)) 1 : Nat), .int .u64 (limb (R256 - (m)) 2 : Nat), .int .u64 (limb (R256 - (m)) 3 : Nat)], .string s] w fun e w' => e = .returned (.tuple #[.agg #[.int .u64 (limb (n) 0 : Nat), .int .u64 (limb (n) 1 : Nat), .int .u64 (limb (n) 2 : Nat), .int .u64 (limb (n) 3 : Nat)], .int .i64 0]) ∧ Below w.heap.size w w' := by
  have K1 : Hid _ := k1
  have K2 : Hid _ := k2
  clear k1 k2
  go_enter Tryd.func54, Tryd.ntmps54
  go_wp2_with fail
  refine (K1.out _).mono ?_
  rintro e w1 ⟨rfl, hb1⟩
  have HP1 : Hid (Pend w1 (w.heap.size + 1)) := by
    have t := Pend.call_new hb1
    simp only [World.size_alloc] at t
    exact t
  have HS : Hid (FieldB w1 w.heap.size m) := FieldB.call (FieldB.alloc (FieldB.new w m _)) hb1
  have HW1 : Hid (Below w.heap.size w w1) := below_call0 (by ((repeat' (first | with_reducible exact Below.refl _ _ | with_reducible refine Below.setCell ?_ ?_ _ | with_reducible refine below_alloc0 ?_ _ | with_reducible refine below_drewN ?_ _ | with_reducible refine Below.drew ?_ | refine below_call0 ?_ (by assumption))) <;> (first | omega | (simp; done) | (simp; omega)))) hb1
  clear hb1 K1
  obtain ⟨m0, m1, m2, m3⟩ := HS.out.1.facts
  obtain ⟨g0, g1, g2, g3⟩ := HS.out.gap
  have gz := HS.out.2.2
  go_wp2_with fail
  refine (K2.out _).mono ?_
  rintro e w2 ⟨rfl, hb2⟩
  have HN : Hid (NS w2 w1.heap.size n) := NS.ncall hb2
  have HP2 : Hid (Pend w2 (w.heap.size + 1)) := Pend.call (Pend.alloc HP1.out) hb2
  have HW2 : Hid (Below w.heap.size w w2) := below_acall HW1.out hb2
  clear hb2 K2 HS HW1 HP1 m0 m1 m2 m3 g0 g1 g2 g3 gz
  obtain ⟨⟨a0, a1, a2, a3⟩, az⟩ := HN.out.facts
  obtain ⟨⟨p0, p1, p2, p3⟩, ⟨f0, f1, f2, f3⟩, pz⟩ := HP2.out.facts
  go_wp2
  refine bodyPost_ret (v := .tuple #[.agg #[.int .u64 (limb (n) 0 : Nat), .int .u64 (limb (n) 1 : Nat), .int .u64 (limb (n) 2 : Nat), .int .u64 (limb (n) 3 : Nat)], .int .i64 0]) ?_ rfl ⟨rfl, ?_⟩
  · simp [results, Tryd.results54, go_sem, p0, p1, p2, p3]
  · have := HW2.out
    ((repeat' (first | with_reducible exact Below.refl _ _ | with_reducible refine Below.setCell ?_ ?_ _ | with_reducible refine below_alloc0 ?_ _ | with_reducible refine below_drewN ?_ _ | with_reducible refine Below.drew ?_ | refine below_call0 ?_ (by assumption))) <;> (first | omega | (simp; done) | (simp; omega)))

set_option maxHeartbeats 2000000 in
theorem decode2_no (m n : Nat) (s : ByteArray) (k1 : ∀ w, Calls Tryd.prog 79 #[.string s] w fun e w' => e = .returned (.tuple #[.agg #[.int .u64 (limb (n) 0 : Nat), .int .u64 (limb (n) 1 : Nat), .int .u64 (limb (n) 2 : Nat), .int .u64 (limb (n) 3 : Nat)], .int .i64 0]) ∧ Below w.heap.size w w')
    (k2 : ∀ w, Calls Tryd.prog 39 #[.agg #[.int .u64 (limb (m) 0 : Nat), .int .u64 (limb (m) 1 : Nat), .int .u64 (limb (m) 2 : Nat), .int .u64 (limb (m) 3 : Nat), .int .u64 (limb (R256 - (m)) 0 : Nat), .int .u64 (limb (R256 - (m)) 1 : Nat), .int .u64 (limb (R256 - (m)) 2 : Nat), .int .u64 (limb (R256 - (m)) 3 : Nat)], .agg #[.int .u64 (limb (n) 0 : Nat), .int .u64 (limb (n) 1 : Nat), .int .u64 (limb (n) 2 : Nat), .int .u64 (limb (n) 3 : Nat)]] w fun e w' => e = .returned (.bool false) ∧ Below w.heap.size w w') (w : World) :
    Calls Tryd.prog 54 #[.agg #[.int .u64 (limb (m) 0 : Nat), .int .u64 (limb (m) 1 : Nat), .int .u64 (limb (m) 2 : Nat), .int .u64 (limb (m) 3 : Nat), .int .u64 (limb (R256 - (m)) 0 : Nat), .int .u64 (limb (R256 - (m)) 1 : Nat), .int .u64 (limb (R256 - (m)) 2 : Nat), .int .u64 (limb (R256 - (m)) 3 : Nat)], .string s] w fun e w' => e = .returned (.tuple #[z4, .int .i64 20]) ∧ Below w.heap.size w w' := by
  have K1 : Hid _ := k1
  have K2 : Hid _ := k2
  clear k1 k2
  go_enter Tryd.func54, Tryd.ntmps54
  go_wp2_with fail
  refine (K1.out _).mono ?_
  rintro e w1 ⟨rfl, hb1⟩
  have HP1 : Hid (Pend w1 (w.heap.size + 1)) := by
    have t := Pend.call_new hb1
    simp only [World.size_alloc] at t
    exact t
  have HS : Hid (FieldB w1 w.heap.size m) := FieldB.call (FieldB.alloc (FieldB.new w m _)) hb1
  have HW1 : Hid (Below w.heap.size w w1) := below_call0 (by ((repeat' (first | with_reducible exact Below.refl _ _ | with_reducible refine Below.setCell ?_ ?_ _ | with_reducible refine below_alloc0 ?_ _ | with_reducible refine below_drewN ?_ _ | with_reducible refine Below.drew ?_ | refine below_call0 ?_ (by assumption))) <;> (first | omega | (simp; done) | (simp; omega)))) hb1
  clear hb1 K1
  obtain ⟨m0, m1, m2, m3⟩ := HS.out.1.facts
  obtain ⟨g0, g1, g2, g3⟩ := HS.out.gap
  have gz := HS.out.2.2
  go_wp2_with fail
  refine (K2.out _).mono ?_
  rintro e w2 ⟨rfl, hb2⟩
  have HN : Hid (NS w2 w1.heap.size n) := NS.ncall hb2
  have HP2 : Hid (Pend w2 (w.heap.size + 1)) := Pend.call (Pend.alloc HP1.out) hb2
  have HW2 : Hid (Below w.heap.size w w2) := below_acall HW1.out hb2
  clear hb2 K2 HS HW1 HP1 m0 m1 m2 m3 g0 g1 g2 g3 gz
  obtain ⟨⟨a0, a1, a2, a3⟩, az⟩ := HN.out.facts
  obtain ⟨⟨p0, p1, p2, p3⟩, ⟨f0, f1, f2, f3⟩, pz⟩ := HP2.out.facts
  go_wp2
  refine bodyPost_ret (v := .tuple #[z4, .int .i64 20]) ?_ rfl ⟨rfl, ?_⟩
  · simp [results, Tryd.results54, go_sem, p0, p1, p2, p3]
  · have := HW2.out
    ((repeat' (first | with_reducible exact Below.refl _ _ | with_reducible refine Below.setCell ?_ ?_ _ | with_reducible refine below_alloc0 ?_ _ | with_reducible refine below_drewN ?_ _ | with_reducible refine Below.drew ?_ | refine below_call0 ?_ (by assumption))) <;> (first | omega | (simp; done) | (simp; omega)))

end Go.Proofs.YtgmfecncfekjfaaDoor
