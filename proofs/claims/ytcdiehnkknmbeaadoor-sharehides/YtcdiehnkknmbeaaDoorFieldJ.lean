/- Field.join, Add, Sub, Mul, Neg and Modulus: what they answer, refusals among it. -/
import Derived.Test.YtcdiehnkknmbeaaDoorFieldD
namespace Go.Proofs.YtcdiehnkknmbeaaDoor
open Go.RowKit

abbrev z4 : Value := .agg #[.int .u64 0, .int .u64 0, .int .u64 0, .int .u64 0]

set_option maxHeartbeats 2000000 in
theorem join_plus (g m a b r : Nat) (hm : m < R256) (ha : a < m) (hb : b < m)
    (k : ∀ w, FieldB w g m → Calls Tryd.prog 45 #[.pointer (some ⟨g, 0, none⟩), .agg #[.int .u64 (limb (a) 0 : Nat), .int .u64 (limb (a) 1 : Nat), .int .u64 (limb (a) 2 : Nat), .int .u64 (limb (a) 3 : Nat)], .agg #[.int .u64 (limb (b) 0 : Nat), .int .u64 (limb (b) 1 : Nat), .int .u64 (limb (b) 2 : Nat), .int .u64 (limb (b) 3 : Nat)]] w fun e w' => e = .returned (.agg #[.int .u64 (limb (r) 0 : Nat), .int .u64 (limb (r) 1 : Nat), .int .u64 (limb (r) 2 : Nat), .int .u64 (limb (r) 3 : Nat)]) ∧ Below w.heap.size w w') (w : World) (hM : FieldB w g m) :
    Calls Tryd.prog 44 #[.pointer (some ⟨g, 0, none⟩), .func (.func 45) #[.pointer (some ⟨g, 0, none⟩)] #[], .agg #[.int .u64 (limb (a) 0 : Nat), .int .u64 (limb (a) 1 : Nat), .int .u64 (limb (a) 2 : Nat), .int .u64 (limb (a) 3 : Nat)], .agg #[.int .u64 (limb (b) 0 : Nat), .int .u64 (limb (b) 1 : Nat), .int .u64 (limb (b) 2 : Nat), .int .u64 (limb (b) 3 : Nat)]] w fun e w' => e = .returned (.tuple #[.agg #[.int .u64 (limb (r) 0 : Nat), .int .u64 (limb (r) 1 : Nat), .int .u64 (limb (r) 2 : Nat), .int .u64 (limb (r) 3 : Nat)], .int .i64 0]) ∧ Below w.heap.size w w' := by
  have K1 : Hid _ := fun (w : World) (h : FieldB w g m) => check_in g m a (by omega) hm ha w h
  have K2 : Hid _ := fun (w : World) (h : FieldB w g m) => check_in g m b (by omega) hm hb w h
  have K3 : Hid _ := k
  have HM : Hid _ := hM
  clear k hM ha hb hm
  go_enter Tryd.func44, Tryd.ntmps44
  go_wp2_with fail
  refine (K1.out _ (FieldB.alloc (FieldB.alloc (FieldB.alloc HM.out)))).mono ?_
  rintro e w1 ⟨rfl, hb1⟩
  have hz1 := hb1.size
  try simp only [World.size_alloc] at hz1
  have P1 := Pend.call_new hb1
  simp only [World.size_alloc] at P1
  have A1 : Num4 w1 w.heap.size a := by ((repeat' (first | assumption | (refine Num4.new' ?_; first | omega | (simp; done)) | refine Num4.set ?_ ?_ | refine Num4.alloc ?_ ?_ | refine Num4.drewN ?_ | refine Num4.call ?_ (by assumption) ?_)) <;> (first | omega | (simp; done) | (simp; omega)))
  have B1 : Num4 w1 (w.heap.size + 1) b := by ((repeat' (first | assumption | (refine Num4.new' ?_; first | omega | (simp; done)) | refine Num4.set ?_ ?_ | refine Num4.alloc ?_ ?_ | refine Num4.drewN ?_ | refine Num4.call ?_ (by assumption) ?_)) <;> (first | omega | (simp; done) | (simp; omega)))
  have M1 : FieldB w1 g m := (FieldB.alloc (FieldB.alloc (FieldB.alloc HM.out))).call hb1
  have W1 : Below w.heap.size w w1 := by ((repeat' (first | with_reducible exact Below.refl _ _ | with_reducible refine Below.setCell ?_ ?_ _ | with_reducible refine below_alloc0 ?_ _ | with_reducible refine below_drewN ?_ _ | with_reducible refine Below.drew ?_ | refine below_call0 ?_ (by assumption))) <;> (first | omega | (simp; done) | (simp; omega)))
  have z1 : w.heap.size + 1 + 1 < w1.heap.size := by omega
  clear hb1 hz1 K1 HM
  obtain ⟨b0, b1, b2, b3⟩ := B1.facts
  go_wp2_with fail
  refine (K2.out _ M1).mono ?_
  rintro e w2 ⟨rfl, hb2⟩
  have P2 := P1.call hb2
  have A2 := A1.call hb2 (by omega)
  have B2 := B1.call hb2 (by omega)
  have M2 := M1.call hb2
  have W2 : Below w.heap.size w w2 := below_call0 W1 hb2
  have z2 : w.heap.size + 1 + 1 < w2.heap.size := Nat.lt_of_lt_of_le z1 hb2.size
  clear hb2 K2 M1 W1 P1 A1 B1 b0 b1 b2 b3
  obtain ⟨b0, b1, b2, b3⟩ := B2.facts
  obtain ⟨a0, a1, a2, a3⟩ := A2.facts
  go_wp2_with fail
  refine (K3.out _ M2).mono ?_
  rintro e w3 ⟨rfl, hb3⟩
  have P3 := P2.call hb3
  have W3 : Below w.heap.size w w3 := below_call0 W2 hb3
  obtain ⟨⟨p0, p1, p2, p3⟩, ⟨f0, f1, f2, f3⟩, pz⟩ := P3.facts
  clear hb3 K3 M2 W2 P2 A2 B2 b0 b1 b2 b3 a0 a1 a2 a3
  go_wp2
  refine bodyPost_ret (v := .tuple #[.agg #[.int .u64 (limb (r) 0 : Nat), .int .u64 (limb (r) 1 : Nat), .int .u64 (limb (r) 2 : Nat), .int .u64 (limb (r) 3 : Nat)], .int .i64 0]) ?_ rfl ⟨rfl, ?_⟩
  · simp [results, Tryd.results44, go_sem, p0, p1, p2, p3]
  · ((repeat' (first | with_reducible exact Below.refl _ _ | with_reducible refine Below.setCell ?_ ?_ _ | with_reducible refine below_alloc0 ?_ _ | with_reducible refine below_drewN ?_ _ | with_reducible refine Below.drew ?_ | refine below_call0 ?_ (by assumption))) <;> (first | omega | (simp; done) | (simp; omega)))

set_option maxHeartbeats 2000000 in
theorem join_minus (g m a b r : Nat) (hm : m < R256) (ha : a < m) (hb : b < m)
    (k : ∀ w, FieldB w g m → Calls Tryd.prog 71 #[.pointer (some ⟨g, 0, none⟩), .agg #[.int .u64 (limb (a) 0 : Nat), .int .u64 (limb (a) 1 : Nat), .int .u64 (limb (a) 2 : Nat), .int .u64 (limb (a) 3 : Nat)], .agg #[.int .u64 (limb (b) 0 : Nat), .int .u64 (limb (b) 1 : Nat), .int .u64 (limb (b) 2 : Nat), .int .u64 (limb (b) 3 : Nat)]] w fun e w' => e = .returned (.agg #[.int .u64 (limb (r) 0 : Nat), .int .u64 (limb (r) 1 : Nat), .int .u64 (limb (r) 2 : Nat), .int .u64 (limb (r) 3 : Nat)]) ∧ Below w.heap.size w w') (w : World) (hM : FieldB w g m) :
    Calls Tryd.prog 44 #[.pointer (some ⟨g, 0, none⟩), .func (.func 71) #[.pointer (some ⟨g, 0, none⟩)] #[], .agg #[.int .u64 (limb (a) 0 : Nat), .int .u64 (limb (a) 1 : Nat), .int .u64 (limb (a) 2 : Nat), .int .u64 (limb (a) 3 : Nat)], .agg #[.int .u64 (limb (b) 0 : Nat), .int .u64 (limb (b) 1 : Nat), .int .u64 (limb (b) 2 : Nat), .int .u64 (limb (b) 3 : Nat)]] w fun e w' => e = .returned (.tuple #[.agg #[.int .u64 (limb (r) 0 : Nat), .int .u64 (limb (r) 1 : Nat), .int .u64 (limb (r) 2 : Nat), .int .u64 (limb (r) 3 : Nat)], .int .i64 0]) ∧ Below w.heap.size w w' := by
  have K1 : Hid _ := fun (w : World) (h : FieldB w g m) => check_in g m a (by omega) hm ha w h
  have K2 : Hid _ := fun (w : World) (h : FieldB w g m) => check_in g m b (by omega) hm hb w h
  have K3 : Hid _ := k
  have HM : Hid _ := hM
  clear k hM ha hb hm
  go_enter Tryd.func44, Tryd.ntmps44
  go_wp2_with fail
  refine (K1.out _ (FieldB.alloc (FieldB.alloc (FieldB.alloc HM.out)))).mono ?_
  rintro e w1 ⟨rfl, hb1⟩
  have hz1 := hb1.size
  try simp only [World.size_alloc] at hz1
  have P1 := Pend.call_new hb1
  simp only [World.size_alloc] at P1
  have A1 : Num4 w1 w.heap.size a := by ((repeat' (first | assumption | (refine Num4.new' ?_; first | omega | (simp; done)) | refine Num4.set ?_ ?_ | refine Num4.alloc ?_ ?_ | refine Num4.drewN ?_ | refine Num4.call ?_ (by assumption) ?_)) <;> (first | omega | (simp; done) | (simp; omega)))
  have B1 : Num4 w1 (w.heap.size + 1) b := by ((repeat' (first | assumption | (refine Num4.new' ?_; first | omega | (simp; done)) | refine Num4.set ?_ ?_ | refine Num4.alloc ?_ ?_ | refine Num4.drewN ?_ | refine Num4.call ?_ (by assumption) ?_)) <;> (first | omega | (simp; done) | (simp; omega)))
  have M1 : FieldB w1 g m := (FieldB.alloc (FieldB.alloc (FieldB.alloc HM.out))).call hb1
  have W1 : Below w.heap.size w w1 := by ((repeat' (first | with_reducible exact Below.refl _ _ | with_reducible refine Below.setCell ?_ ?_ _ | with_reducible refine below_alloc0 ?_ _ | with_reducible refine below_drewN ?_ _ | with_reducible refine Below.drew ?_ | refine below_call0 ?_ (by assumption))) <;> (first | omega | (simp; done) | (simp; omega)))
  have z1 : w.heap.size + 1 + 1 < w1.heap.size := by omega
  clear hb1 hz1 K1 HM
  obtain ⟨b0, b1, b2, b3⟩ := B1.facts
  go_wp2_with fail
  refine (K2.out _ M1).mono ?_
  rintro e w2 ⟨rfl, hb2⟩
  have P2 := P1.call hb2
  have A2 := A1.call hb2 (by omega)
  have B2 := B1.call hb2 (by omega)
  have M2 := M1.call hb2
  have W2 : Below w.heap.size w w2 := below_call0 W1 hb2
  have z2 : w.heap.size + 1 + 1 < w2.heap.size := Nat.lt_of_lt_of_le z1 hb2.size
  clear hb2 K2 M1 W1 P1 A1 B1 b0 b1 b2 b3
  obtain ⟨b0, b1, b2, b3⟩ := B2.facts
  obtain ⟨a0, a1, a2, a3⟩ := A2.facts
  go_wp2_with fail
  refine (K3.out _ M2).mono ?_
  rintro e w3 ⟨rfl, hb3⟩
  have P3 := P2.call hb3
  have W3 : Below w.heap.size w w3 := below_call0 W2 hb3
  obtain ⟨⟨p0, p1, p2, p3⟩, ⟨f0, f1, f2, f3⟩, pz⟩ := P3.facts
  clear hb3 K3 M2 W2 P2 A2 B2 b0 b1 b2 b3 a0 a1 a2 a3
  go_wp2
  refine bodyPost_ret (v := .tuple #[.agg #[.int .u64 (limb (r) 0 : Nat), .int .u64 (limb (r) 1 : Nat), .int .u64 (limb (r) 2 : Nat), .int .u64 (limb (r) 3 : Nat)], .int .i64 0]) ?_ rfl ⟨rfl, ?_⟩
  · simp [results, Tryd.results44, go_sem, p0, p1, p2, p3]
  · ((repeat' (first | with_reducible exact Below.refl _ _ | with_reducible refine Below.setCell ?_ ?_ _ | with_reducible refine below_alloc0 ?_ _ | with_reducible refine below_drewN ?_ _ | with_reducible refine Below.drew ?_ | refine below_call0 ?_ (by assumption))) <;> (first | omega | (simp; done) | (simp; omega)))

set_option maxHeartbeats 2000000 in
theorem join_times (g m a b r : Nat) (hm : m < R256) (ha : a < m) (hb : b < m)
    (k : ∀ w, FieldB w g m → Calls Tryd.prog 63 #[.pointer (some ⟨g, 0, none⟩), .agg #[.int .u64 (limb (a) 0 : Nat), .int .u64 (limb (a) 1 : Nat), .int .u64 (limb (a) 2 : Nat), .int .u64 (limb (a) 3 : Nat)], .agg #[.int .u64 (limb (b) 0 : Nat), .int .u64 (limb (b) 1 : Nat), .int .u64 (limb (b) 2 : Nat), .int .u64 (limb (b) 3 : Nat)]] w fun e w' => e = .returned (.agg #[.int .u64 (limb (r) 0 : Nat), .int .u64 (limb (r) 1 : Nat), .int .u64 (limb (r) 2 : Nat), .int .u64 (limb (r) 3 : Nat)]) ∧ Below w.heap.size w w') (w : World) (hM : FieldB w g m) :
    Calls Tryd.prog 44 #[.pointer (some ⟨g, 0, none⟩), .func (.func 63) #[.pointer (some ⟨g, 0, none⟩)] #[], .agg #[.int .u64 (limb (a) 0 : Nat), .int .u64 (limb (a) 1 : Nat), .int .u64 (limb (a) 2 : Nat), .int .u64 (limb (a) 3 : Nat)], .agg #[.int .u64 (limb (b) 0 : Nat), .int .u64 (limb (b) 1 : Nat), .int .u64 (limb (b) 2 : Nat), .int .u64 (limb (b) 3 : Nat)]] w fun e w' => e = .returned (.tuple #[.agg #[.int .u64 (limb (r) 0 : Nat), .int .u64 (limb (r) 1 : Nat), .int .u64 (limb (r) 2 : Nat), .int .u64 (limb (r) 3 : Nat)], .int .i64 0]) ∧ Below w.heap.size w w' := by
  have K1 : Hid _ := fun (w : World) (h : FieldB w g m) => check_in g m a (by omega) hm ha w h
  have K2 : Hid _ := fun (w : World) (h : FieldB w g m) => check_in g m b (by omega) hm hb w h
  have K3 : Hid _ := k
  have HM : Hid _ := hM
  clear k hM ha hb hm
  go_enter Tryd.func44, Tryd.ntmps44
  go_wp2_with fail
  refine (K1.out _ (FieldB.alloc (FieldB.alloc (FieldB.alloc HM.out)))).mono ?_
  rintro e w1 ⟨rfl, hb1⟩
  have hz1 := hb1.size
  try simp only [World.size_alloc] at hz1
  have P1 := Pend.call_new hb1
  simp only [World.size_alloc] at P1
  have A1 : Num4 w1 w.heap.size a := by ((repeat' (first | assumption | (refine Num4.new' ?_; first | omega | (simp; done)) | refine Num4.set ?_ ?_ | refine Num4.alloc ?_ ?_ | refine Num4.drewN ?_ | refine Num4.call ?_ (by assumption) ?_)) <;> (first | omega | (simp; done) | (simp; omega)))
  have B1 : Num4 w1 (w.heap.size + 1) b := by ((repeat' (first | assumption | (refine Num4.new' ?_; first | omega | (simp; done)) | refine Num4.set ?_ ?_ | refine Num4.alloc ?_ ?_ | refine Num4.drewN ?_ | refine Num4.call ?_ (by assumption) ?_)) <;> (first | omega | (simp; done) | (simp; omega)))
  have M1 : FieldB w1 g m := (FieldB.alloc (FieldB.alloc (FieldB.alloc HM.out))).call hb1
  have W1 : Below w.heap.size w w1 := by ((repeat' (first | with_reducible exact Below.refl _ _ | with_reducible refine Below.setCell ?_ ?_ _ | with_reducible refine below_alloc0 ?_ _ | with_reducible refine below_drewN ?_ _ | with_reducible refine Below.drew ?_ | refine below_call0 ?_ (by assumption))) <;> (first | omega | (simp; done) | (simp; omega)))
  have z1 : w.heap.size + 1 + 1 < w1.heap.size := by omega
  clear hb1 hz1 K1 HM
  obtain ⟨b0, b1, b2, b3⟩ := B1.facts
  go_wp2_with fail
  refine (K2.out _ M1).mono ?_
  rintro e w2 ⟨rfl, hb2⟩
  have P2 := P1.call hb2
  have A2 := A1.call hb2 (by omega)
  have B2 := B1.call hb2 (by omega)
  have M2 := M1.call hb2
  have W2 : Below w.heap.size w w2 := below_call0 W1 hb2
  have z2 : w.heap.size + 1 + 1 < w2.heap.size := Nat.lt_of_lt_of_le z1 hb2.size
  clear hb2 K2 M1 W1 P1 A1 B1 b0 b1 b2 b3
  obtain ⟨b0, b1, b2, b3⟩ := B2.facts
  obtain ⟨a0, a1, a2, a3⟩ := A2.facts
  go_wp2_with fail
  refine (K3.out _ M2).mono ?_
  rintro e w3 ⟨rfl, hb3⟩
  have P3 := P2.call hb3
  have W3 : Below w.heap.size w w3 := below_call0 W2 hb3
  obtain ⟨⟨p0, p1, p2, p3⟩, ⟨f0, f1, f2, f3⟩, pz⟩ := P3.facts
  clear hb3 K3 M2 W2 P2 A2 B2 b0 b1 b2 b3 a0 a1 a2 a3
  go_wp2
  refine bodyPost_ret (v := .tuple #[.agg #[.int .u64 (limb (r) 0 : Nat), .int .u64 (limb (r) 1 : Nat), .int .u64 (limb (r) 2 : Nat), .int .u64 (limb (r) 3 : Nat)], .int .i64 0]) ?_ rfl ⟨rfl, ?_⟩
  · simp [results, Tryd.results44, go_sem, p0, p1, p2, p3]
  · ((repeat' (first | with_reducible exact Below.refl _ _ | with_reducible refine Below.setCell ?_ ?_ _ | with_reducible refine below_alloc0 ?_ _ | with_reducible refine below_drewN ?_ _ | with_reducible refine Below.drew ?_ | refine below_call0 ?_ (by assumption))) <;> (first | omega | (simp; done) | (simp; omega)))

set_option maxHeartbeats 2000000 in
theorem join_bad1 (pv : Option Addr) (fv : Value) (a b : Nat) (ec : Int) (hec : ec ≠ 0) (P : World → Prop) (hP : ∀ w o, P w → P (w.alloc o))
    (k : ∀ w, P w → Calls Tryd.prog 51 #[.pointer pv, .agg #[.int .u64 (limb (a) 0 : Nat), .int .u64 (limb (a) 1 : Nat), .int .u64 (limb (a) 2 : Nat), .int .u64 (limb (a) 3 : Nat)]] w fun e w' => e = .returned (.int .i64 ec) ∧ Below w.heap.size w w') (w : World) (hw : P w) :
    Calls Tryd.prog 44 #[.pointer pv, fv, .agg #[.int .u64 (limb (a) 0 : Nat), .int .u64 (limb (a) 1 : Nat), .int .u64 (limb (a) 2 : Nat), .int .u64 (limb (a) 3 : Nat)], .agg #[.int .u64 (limb (b) 0 : Nat), .int .u64 (limb (b) 1 : Nat), .int .u64 (limb (b) 2 : Nat), .int .u64 (limb (b) 3 : Nat)]] w fun e w' => e = .returned (.tuple #[z4, .int .i64 ec]) ∧ Below w.heap.size w w' := by
  have K1 : Hid _ := k
  have H : Hid _ := hP _ (.cells #[.int .u64 0, .int .u64 0, .int .u64 0, .int .u64 0] 25) (hP _ (.cells #[.int .u64 (limb b 0 : Nat), .int .u64 (limb b 1 : Nat), .int .u64 (limb b 2 : Nat), .int .u64 (limb b 3 : Nat)] 25) (hP w (.cells #[.int .u64 (limb a 0 : Nat), .int .u64 (limb a 1 : Nat), .int .u64 (limb a 2 : Nat), .int .u64 (limb a 3 : Nat)] 25) hw))
  have he : (ec == 0) = false := by simpa using hec
  clear k hP hw hec
  go_enter Tryd.func44, Tryd.ntmps44
  go_wp2_with fail
  refine (K1.out _ H.out).mono ?_
  rintro e w1 ⟨rfl, hb1⟩
  have hz1 := hb1.size
  try simp only [World.size_alloc] at hz1
  have P1 := Pend.call_new hb1
  simp only [World.size_alloc] at P1
  have W1 : Below w.heap.size w w1 := by ((repeat' (first | with_reducible exact Below.refl _ _ | with_reducible refine Below.setCell ?_ ?_ _ | with_reducible refine below_alloc0 ?_ _ | with_reducible refine below_drewN ?_ _ | with_reducible refine Below.drew ?_ | refine below_call0 ?_ (by assumption))) <;> (first | omega | (simp; done) | (simp; omega)))
  obtain ⟨⟨p0, p1, p2, p3⟩, ⟨f0, f1, f2, f3⟩, pz⟩ := P1.facts
  clear hb1 K1 H
  go_wp2
  refine bodyPost_ret (v := .tuple #[z4, .int .i64 ec]) ?_ rfl ⟨rfl, ?_⟩
  · simp [results, Tryd.results44, go_sem, p0, p1, p2, p3]
  · ((repeat' (first | with_reducible exact Below.refl _ _ | with_reducible refine Below.setCell ?_ ?_ _ | with_reducible refine below_alloc0 ?_ _ | with_reducible refine below_drewN ?_ _ | with_reducible refine Below.drew ?_ | refine below_call0 ?_ (by assumption))) <;> (first | omega | (simp; done) | (simp; omega)))

set_option maxHeartbeats 2000000 in
theorem join_bad2 (fv : Value) (g m a b : Nat) (hm : m < R256) (ha : a < m) (hb : ¬ b < m) (hbR : b < R256) (w : World) (hM : FieldB w g m) :
    Calls Tryd.prog 44 #[.pointer (some ⟨g, 0, none⟩), fv, .agg #[.int .u64 (limb (a) 0 : Nat), .int .u64 (limb (a) 1 : Nat), .int .u64 (limb (a) 2 : Nat), .int .u64 (limb (a) 3 : Nat)], .agg #[.int .u64 (limb (b) 0 : Nat), .int .u64 (limb (b) 1 : Nat), .int .u64 (limb (b) 2 : Nat), .int .u64 (limb (b) 3 : Nat)]] w fun e w' => e = .returned (.tuple #[z4, .int .i64 20]) ∧ Below w.heap.size w w' := by
  have K1 : Hid _ := fun (w : World) (h : FieldB w g m) => check_in g m a (by omega) hm ha w h
  have K2 : Hid _ := fun (w : World) (h : FieldB w g m) => check_no g m b hbR hm hb w h
  have HM : Hid _ := hM
  clear hM ha hb hm hbR
  go_enter Tryd.func44, Tryd.ntmps44
  go_wp2_with fail
  refine (K1.out _ (FieldB.alloc (FieldB.alloc (FieldB.alloc HM.out)))).mono ?_
  rintro e w1 ⟨rfl, hb1⟩
  have hz1 := hb1.size
  try simp only [World.size_alloc] at hz1
  have P1 := Pend.call_new hb1
  simp only [World.size_alloc] at P1
  have B1 : Num4 w1 (w.heap.size + 1) b := by ((repeat' (first | assumption | (refine Num4.new' ?_; first | omega | (simp; done)) | refine Num4.set ?_ ?_ | refine Num4.alloc ?_ ?_ | refine Num4.drewN ?_ | refine Num4.call ?_ (by assumption) ?_)) <;> (first | omega | (simp; done) | (simp; omega)))
  have M1 : FieldB w1 g m := (FieldB.alloc (FieldB.alloc (FieldB.alloc HM.out))).call hb1
  have W1 : Below w.heap.size w w1 := by ((repeat' (first | with_reducible exact Below.refl _ _ | with_reducible refine Below.setCell ?_ ?_ _ | with_reducible refine below_alloc0 ?_ _ | with_reducible refine below_drewN ?_ _ | with_reducible refine Below.drew ?_ | refine below_call0 ?_ (by assumption))) <;> (first | omega | (simp; done) | (simp; omega)))
  clear hb1 hz1 K1 HM
  obtain ⟨b0, b1, b2, b3⟩ := B1.facts
  go_wp2_with fail
  refine (K2.out _ M1).mono ?_
  rintro e w2 ⟨rfl, hb2⟩
  have P2 := P1.call hb2
  have W2 : Below w.heap.size w w2 := below_call0 W1 hb2
  obtain ⟨⟨p0, p1, p2, p3⟩, ⟨f0, f1, f2, f3⟩, pz⟩ := P2.facts
  clear hb2 K2 M1 W1 P1 B1 b0 b1 b2 b3
  go_wp2
  refine bodyPost_ret (v := .tuple #[z4, .int .i64 20]) ?_ rfl ⟨rfl, ?_⟩
  · simp [results, Tryd.results44, go_sem, p0, p1, p2, p3]
  · ((repeat' (first | with_reducible exact Below.refl _ _ | with_reducible refine Below.setCell ?_ ?_ _ | with_reducible refine below_alloc0 ?_ _ | with_reducible refine below_drewN ?_ _ | with_reducible refine Below.drew ?_ | refine below_call0 ?_ (by assumption))) <;> (first | omega | (simp; done) | (simp; omega)))

/-! ### Add, Sub, Mul, Neg: what join answers -/
set_option maxHeartbeats 1000000 in
theorem fadd_go (pv : Option Addr) (a b : Nat) (v0 v1 v2 v3 ec : Int) (P : World → Prop) (hP : ∀ w o, P w → P (w.alloc o))
    (k : ∀ w, P w → Calls Tryd.prog 44 #[.pointer pv, .func (.func 45) #[.pointer pv] #[], .agg #[.int .u64 (limb (a) 0 : Nat), .int .u64 (limb (a) 1 : Nat), .int .u64 (limb (a) 2 : Nat), .int .u64 (limb (a) 3 : Nat)], .agg #[.int .u64 (limb (b) 0 : Nat), .int .u64 (limb (b) 1 : Nat), .int .u64 (limb (b) 2 : Nat), .int .u64 (limb (b) 3 : Nat)]] w fun e w' => e = .returned (.tuple #[.agg #[.int .u64 v0, .int .u64 v1, .int .u64 v2, .int .u64 v3], .int .i64 ec]) ∧ Below w.heap.size w w') (w : World) (hw : P w) :
    Calls Tryd.prog 23 #[.pointer pv, .agg #[.int .u64 (limb (a) 0 : Nat), .int .u64 (limb (a) 1 : Nat), .int .u64 (limb (a) 2 : Nat), .int .u64 (limb (a) 3 : Nat)], .agg #[.int .u64 (limb (b) 0 : Nat), .int .u64 (limb (b) 1 : Nat), .int .u64 (limb (b) 2 : Nat), .int .u64 (limb (b) 3 : Nat)]] w fun e w' => e = .returned (.tuple #[.agg #[.int .u64 v0, .int .u64 v1, .int .u64 v2, .int .u64 v3], .int .i64 ec]) ∧ Below w.heap.size w w' := by
  have K1 : Hid _ := k
  have H : Hid _ := hP _ (.cells #[.int .u64 0, .int .u64 0, .int .u64 0, .int .u64 0] 25) (hP _ (.cells #[.int .u64 (limb b 0 : Nat), .int .u64 (limb b 1 : Nat), .int .u64 (limb b 2 : Nat), .int .u64 (limb b 3 : Nat)] 25) (hP w (.cells #[.int .u64 (limb a 0 : Nat), .int .u64 (limb a 1 : Nat), .int .u64 (limb a 2 : Nat), .int .u64 (limb a 3 : Nat)] 25) hw))
  clear k hP hw
  go_enter Tryd.func23, Tryd.ntmps23
  go_wp2_with fail
  refine (K1.out _ H.out).mono ?_
  rintro e w1 ⟨rfl, hb1⟩
  have hz1 := hb1.size
  try simp only [World.size_alloc] at hz1
  have P1 := Pend.call_new hb1
  simp only [World.size_alloc] at P1
  have W1 : Below w.heap.size w w1 := by ((repeat' (first | with_reducible exact Below.refl _ _ | with_reducible refine Below.setCell ?_ ?_ _ | with_reducible refine below_alloc0 ?_ _ | with_reducible refine below_drewN ?_ _ | with_reducible refine Below.drew ?_ | refine below_call0 ?_ (by assumption))) <;> (first | omega | (simp; done) | (simp; omega)))
  obtain ⟨⟨p0, p1, p2, p3⟩, ⟨f0, f1, f2, f3⟩, pz⟩ := P1.facts
  clear hb1 K1 H
  go_wp2
  refine bodyPost_ret (v := .tuple #[.agg #[.int .u64 v0, .int .u64 v1, .int .u64 v2, .int .u64 v3], .int .i64 ec]) ?_ rfl ⟨rfl, ?_⟩
  · simp [results, Tryd.results23, go_sem, p0, p1, p2, p3]
  · ((repeat' (first | with_reducible exact Below.refl _ _ | with_reducible refine Below.setCell ?_ ?_ _ | with_reducible refine below_alloc0 ?_ _ | with_reducible refine below_drewN ?_ _ | with_reducible refine Below.drew ?_ | refine below_call0 ?_ (by assumption))) <;> (first | omega | (simp; done) | (simp; omega)))

set_option maxHeartbeats 1000000 in
theorem fmul_go (pv : Option Addr) (a b : Nat) (v0 v1 v2 v3 ec : Int) (P : World → Prop) (hP : ∀ w o, P w → P (w.alloc o))
    (k : ∀ w, P w → Calls Tryd.prog 44 #[.pointer pv, .func (.func 63) #[.pointer pv] #[], .agg #[.int .u64 (limb (a) 0 : Nat), .int .u64 (limb (a) 1 : Nat), .int .u64 (limb (a) 2 : Nat), .int .u64 (limb (a) 3 : Nat)], .agg #[.int .u64 (limb (b) 0 : Nat), .int .u64 (limb (b) 1 : Nat), .int .u64 (limb (b) 2 : Nat), .int .u64 (limb (b) 3 : Nat)]] w fun e w' => e = .returned (.tuple #[.agg #[.int .u64 v0, .int .u64 v1, .int .u64 v2, .int .u64 v3], .int .i64 ec]) ∧ Below w.heap.size w w') (w : World) (hw : P w) :
    Calls Tryd.prog 52 #[.pointer pv, .agg #[.int .u64 (limb (a) 0 : Nat), .int .u64 (limb (a) 1 : Nat), .int .u64 (limb (a) 2 : Nat), .int .u64 (limb (a) 3 : Nat)], .agg #[.int .u64 (limb (b) 0 : Nat), .int .u64 (limb (b) 1 : Nat), .int .u64 (limb (b) 2 : Nat), .int .u64 (limb (b) 3 : Nat)]] w fun e w' => e = .returned (.tuple #[.agg #[.int .u64 v0, .int .u64 v1, .int .u64 v2, .int .u64 v3], .int .i64 ec]) ∧ Below w.heap.size w w' := by
  have K1 : Hid _ := k
  have H : Hid _ := hP _ (.cells #[.int .u64 0, .int .u64 0, .int .u64 0, .int .u64 0] 25) (hP _ (.cells #[.int .u64 (limb b 0 : Nat), .int .u64 (limb b 1 : Nat), .int .u64 (limb b 2 : Nat), .int .u64 (limb b 3 : Nat)] 25) (hP w (.cells #[.int .u64 (limb a 0 : Nat), .int .u64 (limb a 1 : Nat), .int .u64 (limb a 2 : Nat), .int .u64 (limb a 3 : Nat)] 25) hw))
  clear k hP hw
  go_enter Tryd.func52, Tryd.ntmps52
  go_wp2_with fail
  refine (K1.out _ H.out).mono ?_
  rintro e w1 ⟨rfl, hb1⟩
  have hz1 := hb1.size
  try simp only [World.size_alloc] at hz1
  have P1 := Pend.call_new hb1
  simp only [World.size_alloc] at P1
  have W1 : Below w.heap.size w w1 := by ((repeat' (first | with_reducible exact Below.refl _ _ | with_reducible refine Below.setCell ?_ ?_ _ | with_reducible refine below_alloc0 ?_ _ | with_reducible refine below_drewN ?_ _ | with_reducible refine Below.drew ?_ | refine below_call0 ?_ (by assumption))) <;> (first | omega | (simp; done) | (simp; omega)))
  obtain ⟨⟨p0, p1, p2, p3⟩, ⟨f0, f1, f2, f3⟩, pz⟩ := P1.facts
  clear hb1 K1 H
  go_wp2
  refine bodyPost_ret (v := .tuple #[.agg #[.int .u64 v0, .int .u64 v1, .int .u64 v2, .int .u64 v3], .int .i64 ec]) ?_ rfl ⟨rfl, ?_⟩
  · simp [results, Tryd.results52, go_sem, p0, p1, p2, p3]
  · ((repeat' (first | with_reducible exact Below.refl _ _ | with_reducible refine Below.setCell ?_ ?_ _ | with_reducible refine below_alloc0 ?_ _ | with_reducible refine below_drewN ?_ _ | with_reducible refine Below.drew ?_ | refine below_call0 ?_ (by assumption))) <;> (first | omega | (simp; done) | (simp; omega)))

set_option maxHeartbeats 1000000 in
theorem fneg_go (pv : Option Addr) (a : Nat) (v0 v1 v2 v3 ec : Int) (P : World → Prop) (hP : ∀ w o, P w → P (w.alloc o))
    (k : ∀ w, P w → Calls Tryd.prog 44 #[.pointer pv, .func (.func 71) #[.pointer pv] #[], z4, .agg #[.int .u64 (limb (a) 0 : Nat), .int .u64 (limb (a) 1 : Nat), .int .u64 (limb (a) 2 : Nat), .int .u64 (limb (a) 3 : Nat)]] w fun e w' => e = .returned (.tuple #[.agg #[.int .u64 v0, .int .u64 v1, .int .u64 v2, .int .u64 v3], .int .i64 ec]) ∧ Below w.heap.size w w') (w : World) (hw : P w) :
    Calls Tryd.prog 64 #[.pointer pv, .agg #[.int .u64 (limb (a) 0 : Nat), .int .u64 (limb (a) 1 : Nat), .int .u64 (limb (a) 2 : Nat), .int .u64 (limb (a) 3 : Nat)]] w fun e w' => e = .returned (.tuple #[.agg #[.int .u64 v0, .int .u64 v1, .int .u64 v2, .int .u64 v3], .int .i64 ec]) ∧ Below w.heap.size w w' := by
  have K1 : Hid _ := k
  have H : Hid _ := hP _ (.cells #[.int .u64 0, .int .u64 0, .int .u64 0, .int .u64 0] 25) (hP w (.cells #[.int .u64 (limb a 0 : Nat), .int .u64 (limb a 1 : Nat), .int .u64 (limb a 2 : Nat), .int .u64 (limb a 3 : Nat)] 25) hw)
  clear k hP hw
  go_enter Tryd.func64, Tryd.ntmps64
  go_wp2_with fail
  refine (K1.out _ H.out).mono ?_
  rintro e w1 ⟨rfl, hb1⟩
  have hz1 := hb1.size
  have P1 := Pend.call_new hb1
  simp only [World.size_alloc] at P1 hz1
  have W1 : Below w.heap.size w w1 := by ((repeat' (first | with_reducible exact Below.refl _ _ | with_reducible refine Below.setCell ?_ ?_ _ | with_reducible refine below_alloc0 ?_ _ | with_reducible refine below_drewN ?_ _ | with_reducible refine Below.drew ?_ | refine below_call0 ?_ (by assumption))) <;> (first | omega | (simp; done) | (simp; omega)))
  obtain ⟨⟨p0, p1, p2, p3⟩, ⟨f0, f1, f2, f3⟩, pz⟩ := P1.facts
  clear hb1 K1 H
  go_wp2
  refine bodyPost_ret (v := .tuple #[.agg #[.int .u64 v0, .int .u64 v1, .int .u64 v2, .int .u64 v3], .int .i64 ec]) ?_ rfl ⟨rfl, ?_⟩
  · simp [results, Tryd.results64, go_sem, p0, p1, p2, p3]
  · ((repeat' (first | with_reducible exact Below.refl _ _ | with_reducible refine Below.setCell ?_ ?_ _ | with_reducible refine below_alloc0 ?_ _ | with_reducible refine below_drewN ?_ _ | with_reducible refine Below.drew ?_ | refine below_call0 ?_ (by assumption))) <;> (first | omega | (simp; done) | (simp; omega)))

/-- What a call of two numbers answers, in both fields' words: the value below m, or the error. -/
def numE (ok : Bool) (r : Nat) : Nat := cond ok r 0
def okE (ok : Bool) (e : Int) : Int := cond ok 0 e
theorem FB_alloc (g m : Nat) : ∀ (w : World) (o : Obj), FieldB w g m → FieldB (w.alloc o) g m := fun _ _ h => h.alloc

theorem fadd_in (g m a b : Nat) (hF : FM m) (ha : a < m) (hb : b < m) (w : World) (hM : FieldB w g m) :
    Calls Tryd.prog 23 #[.pointer (some ⟨g, 0, none⟩), .agg #[.int .u64 (limb (a) 0 : Nat), .int .u64 (limb (a) 1 : Nat), .int .u64 (limb (a) 2 : Nat), .int .u64 (limb (a) 3 : Nat)], .agg #[.int .u64 (limb (b) 0 : Nat), .int .u64 (limb (b) 1 : Nat), .int .u64 (limb (b) 2 : Nat), .int .u64 (limb (b) 3 : Nat)]] w fun e w' => e = .returned (.tuple #[.agg #[.int .u64 (limb ((a + b) % m) 0 : Nat), .int .u64 (limb ((a + b) % m) 1 : Nat), .int .u64 (limb ((a + b) % m) 2 : Nat), .int .u64 (limb ((a + b) % m) 3 : Nat)], .int .i64 0]) ∧ Below w.heap.size w w' :=
  fadd_go _ a b _ _ _ _ 0 (fun w => FieldB w g m) (FB_alloc g m) (fun w h => join_plus g m a b _ hF.2.1 ha hb (fun w h => (fun g m a b hF ha hb w hM => plus_fld g m a b hF ha hb w hM) g m a b hF ha hb w h) w h) w hM
theorem fadd_no (g m a b : Nat) (hF : FM m) (ha : a < R256) (hb : b < R256) (h : ¬ (a < m ∧ b < m)) (w : World) (hM : FieldB w g m) :
    Calls Tryd.prog 23 #[.pointer (some ⟨g, 0, none⟩), .agg #[.int .u64 (limb (a) 0 : Nat), .int .u64 (limb (a) 1 : Nat), .int .u64 (limb (a) 2 : Nat), .int .u64 (limb (a) 3 : Nat)], .agg #[.int .u64 (limb (b) 0 : Nat), .int .u64 (limb (b) 1 : Nat), .int .u64 (limb (b) 2 : Nat), .int .u64 (limb (b) 3 : Nat)]] w fun e w' => e = .returned (.tuple #[z4, .int .i64 20]) ∧ Below w.heap.size w w' := by
  refine fadd_go _ a b _ _ _ _ 20 (fun w => FieldB w g m) (FB_alloc g m) (fun w h' => ?_) w hM
  by_cases h1 : a < m
  · exact join_bad2 _ g m a b hF.2.1 h1 (fun c => h ⟨h1, c⟩) hb w h'
  · exact join_bad1 _ _ a b 20 (by decide) (fun w => FieldB w g m) (FB_alloc g m) (fun w h' => check_no g m a ha hF.2.1 h1 w h') w h'
theorem fadd_nil (a b : Nat) (w : World) :
    Calls Tryd.prog 23 #[.pointer none, .agg #[.int .u64 (limb (a) 0 : Nat), .int .u64 (limb (a) 1 : Nat), .int .u64 (limb (a) 2 : Nat), .int .u64 (limb (a) 3 : Nat)], .agg #[.int .u64 (limb (b) 0 : Nat), .int .u64 (limb (b) 1 : Nat), .int .u64 (limb (b) 2 : Nat), .int .u64 (limb (b) 3 : Nat)]] w fun e w' => e = .returned (.tuple #[z4, .int .i64 7]) ∧ Below w.heap.size w w' :=
  fadd_go none a b _ _ _ _ 7 (fun _ => True) (fun _ _ _ => trivial) (fun w _ => join_bad1 none _ a b 7 (by decide) (fun _ => True) (fun _ _ _ => trivial) (fun w _ => check_nil a w) w trivial) w trivial
theorem fmul_in (g m a b : Nat) (hF : FM m) (ha : a < m) (hb : b < m) (w : World) (hM : FieldB w g m) :
    Calls Tryd.prog 52 #[.pointer (some ⟨g, 0, none⟩), .agg #[.int .u64 (limb (a) 0 : Nat), .int .u64 (limb (a) 1 : Nat), .int .u64 (limb (a) 2 : Nat), .int .u64 (limb (a) 3 : Nat)], .agg #[.int .u64 (limb (b) 0 : Nat), .int .u64 (limb (b) 1 : Nat), .int .u64 (limb (b) 2 : Nat), .int .u64 (limb (b) 3 : Nat)]] w fun e w' => e = .returned (.tuple #[.agg #[.int .u64 (limb (a * b % m) 0 : Nat), .int .u64 (limb (a * b % m) 1 : Nat), .int .u64 (limb (a * b % m) 2 : Nat), .int .u64 (limb (a * b % m) 3 : Nat)], .int .i64 0]) ∧ Below w.heap.size w w' :=
  fmul_go _ a b _ _ _ _ 0 (fun w => FieldB w g m) (FB_alloc g m) (fun w h => join_times g m a b _ hF.2.1 ha hb (fun w h => (fun g m a b hF ha hb w hM => times_fld g m a b hF (Nat.lt_trans ha hF.2.1) (Nat.lt_trans hb hF.2.1) w hM) g m a b hF ha hb w h) w h) w hM
theorem fmul_no (g m a b : Nat) (hF : FM m) (ha : a < R256) (hb : b < R256) (h : ¬ (a < m ∧ b < m)) (w : World) (hM : FieldB w g m) :
    Calls Tryd.prog 52 #[.pointer (some ⟨g, 0, none⟩), .agg #[.int .u64 (limb (a) 0 : Nat), .int .u64 (limb (a) 1 : Nat), .int .u64 (limb (a) 2 : Nat), .int .u64 (limb (a) 3 : Nat)], .agg #[.int .u64 (limb (b) 0 : Nat), .int .u64 (limb (b) 1 : Nat), .int .u64 (limb (b) 2 : Nat), .int .u64 (limb (b) 3 : Nat)]] w fun e w' => e = .returned (.tuple #[z4, .int .i64 20]) ∧ Below w.heap.size w w' := by
  refine fmul_go _ a b _ _ _ _ 20 (fun w => FieldB w g m) (FB_alloc g m) (fun w h' => ?_) w hM
  by_cases h1 : a < m
  · exact join_bad2 _ g m a b hF.2.1 h1 (fun c => h ⟨h1, c⟩) hb w h'
  · exact join_bad1 _ _ a b 20 (by decide) (fun w => FieldB w g m) (FB_alloc g m) (fun w h' => check_no g m a ha hF.2.1 h1 w h') w h'
theorem fmul_nil (a b : Nat) (w : World) :
    Calls Tryd.prog 52 #[.pointer none, .agg #[.int .u64 (limb (a) 0 : Nat), .int .u64 (limb (a) 1 : Nat), .int .u64 (limb (a) 2 : Nat), .int .u64 (limb (a) 3 : Nat)], .agg #[.int .u64 (limb (b) 0 : Nat), .int .u64 (limb (b) 1 : Nat), .int .u64 (limb (b) 2 : Nat), .int .u64 (limb (b) 3 : Nat)]] w fun e w' => e = .returned (.tuple #[z4, .int .i64 7]) ∧ Below w.heap.size w w' :=
  fmul_go none a b _ _ _ _ 7 (fun _ => True) (fun _ _ _ => trivial) (fun w _ => join_bad1 none _ a b 7 (by decide) (fun _ => True) (fun _ _ _ => trivial) (fun w _ => check_nil a w) w trivial) w trivial
end Go.Proofs.YtcdiehnkknmbeaaDoor
