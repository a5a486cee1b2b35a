/- The walk of the statement FieldNil. -/
import Derived.Test.YtglifkfkcepllabDoorFieldM
namespace Go.Proofs.YtglifkfkcepllabDoor
open Go.RowKit
attribute [local go_sem] run_eq4

set_option maxRecDepth 100000 in
set_option maxHeartbeats 4000000 in
theorem fieldNil_any (a : Nat) (s : ByteArray) (w : World) (hG : Glob w) : Calls Tryd.prog 4 #[.agg #[.int .u64 (limb (a) 0 : Nat), .int .u64 (limb (a) 1 : Nat), .int .u64 (limb (a) 2 : Nat), .int .u64 (limb (a) 3 : Nat)], .string s] w fun e w' => e = .returned (.bool true) ∧ Below w.heap.size w w' := by
  have HG : Hid (Glob w) := hG
  clear hG
  go_enter Tryd.func4, Tryd.ntmps4
  go_wp2_with fail
  refine (fadd_nil a a _).mono ?_
  rintro e w1 ⟨rfl, hb1⟩
  have hz1 := hb1.size
  try simp only [World.size_alloc] at hz1
  have A1 : Num4 w1 (w.heap.size) a := by ((repeat' (first | assumption | (refine Num4.new' ?_; first | omega | (simp; done)) | refine Num4.set ?_ ?_ | refine Num4.alloc ?_ ?_ | refine Num4.drewN ?_ | refine Num4.call ?_ (by assumption) ?_)) <;> (first | omega | (simp; done) | (simp; omega)))
  have G1 : Glob w1 := Glob.call (Glob.alloc HG.out) hb1
  have W1 : Below w.heap.size w w1 := by ((repeat' (first | with_reducible exact Below.refl _ _ | with_reducible refine Below.setCell ?_ ?_ _ | with_reducible refine below_alloc0 ?_ _ | with_reducible refine below_drewN ?_ _ | with_reducible refine Below.drew ?_ | refine below_call0 ?_ (by assumption))) <;> (first | omega | (simp; done) | (simp; omega)))
  have z1 : w.heap.size + 1 ≤ w1.heap.size := by omega
  clear hb1 hz1
  obtain ⟨aa0, aa1, aa2, aa3⟩ := A1.facts
  have lA1 : w.heap.size < w1.heap.size := by omega
  go_wp2_with fail
  refine (fmul_nil a a _).mono ?_
  rintro e w2 ⟨rfl, hb2⟩
  have hz2 := hb2.size
  try simp only [World.size_alloc] at hz2
  have A2 : Num4 w2 (w.heap.size) a := by ((repeat' (first | assumption | (refine Num4.new' ?_; first | omega | (simp; done)) | refine Num4.set ?_ ?_ | refine Num4.alloc ?_ ?_ | refine Num4.drewN ?_ | refine Num4.call ?_ (by assumption) ?_)) <;> (first | omega | (simp; done) | (simp; omega)))
  have G2 : Glob w2 := Glob.call (Glob.alloc G1) hb2
  have W2 : Below w.heap.size w w2 := by ((repeat' (first | with_reducible exact Below.refl _ _ | with_reducible refine Below.setCell ?_ ?_ _ | with_reducible refine below_alloc0 ?_ _ | with_reducible refine below_drewN ?_ _ | with_reducible refine Below.drew ?_ | refine below_call0 ?_ (by assumption))) <;> (first | omega | (simp; done) | (simp; omega)))
  have z2 : w.heap.size + 1 ≤ w2.heap.size := by omega
  have x2 : w1.heap.size < w2.heap.size := by omega
  clear hb2 hz2 A1 W1
  clear G1
  clear aa0 aa1 aa2 aa3
  obtain ⟨aa0, aa1, aa2, aa3⟩ := A2.facts
  have lA2 : w.heap.size < w2.heap.size := by omega
  go_wp2_with fail
  refine (finv_bad none a 7 (by decide) (fun _ => True) (fun _ _ _ => trivial) (fun w _ => check_nil a w) _ trivial).mono ?_
  rintro e w3 ⟨rfl, hb3⟩
  have hz3 := hb3.size
  try simp only [World.size_alloc] at hz3
  have A3 : Num4 w3 (w.heap.size) a := by ((repeat' (first | assumption | (refine Num4.new' ?_; first | omega | (simp; done)) | refine Num4.set ?_ ?_ | refine Num4.alloc ?_ ?_ | refine Num4.drewN ?_ | refine Num4.call ?_ (by assumption) ?_)) <;> (first | omega | (simp; done) | (simp; omega)))
  have G3 : Glob w3 := Glob.call (Glob.alloc G2) hb3
  have W3 : Below w.heap.size w w3 := by ((repeat' (first | with_reducible exact Below.refl _ _ | with_reducible refine Below.setCell ?_ ?_ _ | with_reducible refine below_alloc0 ?_ _ | with_reducible refine below_drewN ?_ _ | with_reducible refine Below.drew ?_ | refine below_call0 ?_ (by assumption))) <;> (first | omega | (simp; done) | (simp; omega)))
  have z3 : w.heap.size + 1 ≤ w3.heap.size := by omega
  have x3 : w2.heap.size < w3.heap.size := by omega
  clear hb3 hz3 A2 W2
  clear G2
  clear aa0 aa1 aa2 aa3
  obtain ⟨aa0, aa1, aa2, aa3⟩ := A3.facts
  have lA3 : w.heap.size < w3.heap.size := by omega
  go_wp2_with fail
  refine (fsqrt_bad none a 7 (by decide) (fun _ => True) (fun _ _ _ => trivial) (fun w _ => check_nil a w) _ trivial).mono ?_
  rintro e w4 ⟨rfl, hb4⟩
  have hz4 := hb4.size
  try simp only [World.size_alloc] at hz4
  have A4 : Num4 w4 (w.heap.size) a := by ((repeat' (first | assumption | (refine Num4.new' ?_; first | omega | (simp; done)) | refine Num4.set ?_ ?_ | refine Num4.alloc ?_ ?_ | refine Num4.drewN ?_ | refine Num4.call ?_ (by assumption) ?_)) <;> (first | omega | (simp; done) | (simp; omega)))
  have G4 : Glob w4 := Glob.call (Glob.alloc G3) hb4
  have W4 : Below w.heap.size w w4 := by ((repeat' (first | with_reducible exact Below.refl _ _ | with_reducible refine Below.setCell ?_ ?_ _ | with_reducible refine below_alloc0 ?_ _ | with_reducible refine below_drewN ?_ _ | with_reducible refine Below.drew ?_ | refine below_call0 ?_ (by assumption))) <;> (first | omega | (simp; done) | (simp; omega)))
  have z4 : w.heap.size + 1 ≤ w4.heap.size := by omega
  have x4 : w3.heap.size < w4.heap.size := by omega
  clear hb4 hz4 A3 W3
  clear G3
  clear aa0 aa1 aa2 aa3
  obtain ⟨aa0, aa1, aa2, aa3⟩ := A4.facts
  have lA4 : w.heap.size < w4.heap.size := by omega
  go_wp2_with fail
  refine (encode_bad none a 7 (by decide) (fun _ => True) (fun _ _ _ => trivial) (fun w _ => check_nil a w) _ trivial).mono ?_
  rintro e w5 ⟨rfl, hb5⟩
  have hz5 := hb5.size
  try simp only [World.size_alloc] at hz5
  have A5 : Num4 w5 (w.heap.size) a := by ((repeat' (first | assumption | (refine Num4.new' ?_; first | omega | (simp; done)) | refine Num4.set ?_ ?_ | refine Num4.alloc ?_ ?_ | refine Num4.drewN ?_ | refine Num4.call ?_ (by assumption) ?_)) <;> (first | omega | (simp; done) | (simp; omega)))
  have G5 : Glob w5 := Glob.call (Glob.alloc G4) hb5
  have W5 : Below w.heap.size w w5 := by ((repeat' (first | with_reducible exact Below.refl _ _ | with_reducible refine Below.setCell ?_ ?_ _ | with_reducible refine below_alloc0 ?_ _ | with_reducible refine below_drewN ?_ _ | with_reducible refine Below.drew ?_ | refine below_call0 ?_ (by assumption))) <;> (first | omega | (simp; done) | (simp; omega)))
  have z5 : w.heap.size + 1 ≤ w5.heap.size := by omega
  have x5 : w4.heap.size < w5.heap.size := by omega
  clear hb5 hz5 A4 W4
  clear G4
  clear aa0 aa1 aa2 aa3
  go_wp2_with fail
  refine (decode_nil s _).mono ?_
  rintro e w6 ⟨rfl, hb6⟩
  have hz6 := hb6.size
  try simp only [World.size_alloc] at hz6
  have A6 : Num4 w6 (w.heap.size) a := by ((repeat' (first | assumption | (refine Num4.new' ?_; first | omega | (simp; done)) | refine Num4.set ?_ ?_ | refine Num4.alloc ?_ ?_ | refine Num4.drewN ?_ | refine Num4.call ?_ (by assumption) ?_)) <;> (first | omega | (simp; done) | (simp; omega)))
  have G6 : Glob w6 := Glob.call G5 hb6
  have W6 : Below w.heap.size w w6 := by ((repeat' (first | with_reducible exact Below.refl _ _ | with_reducible refine Below.setCell ?_ ?_ _ | with_reducible refine below_alloc0 ?_ _ | with_reducible refine below_drewN ?_ _ | with_reducible refine Below.drew ?_ | refine below_call0 ?_ (by assumption))) <;> (first | omega | (simp; done) | (simp; omega)))
  have z6 : w.heap.size + 1 ≤ w6.heap.size := by omega
  have x6 : w5.heap.size ≤ w6.heap.size := by omega
  clear hb6 hz6 A5 W5
  clear G5
  obtain ⟨aa0, aa1, aa2, aa3⟩ := A6.facts
  have lA6 : w.heap.size < w6.heap.size := by omega
  go_wp2_with fail
  refine (fpow_bad none a a 7 (by decide) (fun _ => True) (fun _ _ _ => trivial) (fun w _ => check_nil a w) _ trivial).mono ?_
  rintro e w7 ⟨rfl, hb7⟩
  have hz7 := hb7.size
  try simp only [World.size_alloc] at hz7
  have A7 : Num4 w7 (w.heap.size) a := by ((repeat' (first | assumption | (refine Num4.new' ?_; first | omega | (simp; done)) | refine Num4.set ?_ ?_ | refine Num4.alloc ?_ ?_ | refine Num4.drewN ?_ | refine Num4.call ?_ (by assumption) ?_)) <;> (first | omega | (simp; done) | (simp; omega)))
  have G7 : Glob w7 := Glob.call (Glob.alloc G6) hb7
  have W7 : Below w.heap.size w w7 := by ((repeat' (first | with_reducible exact Below.refl _ _ | with_reducible refine Below.setCell ?_ ?_ _ | with_reducible refine below_alloc0 ?_ _ | with_reducible refine below_drewN ?_ _ | with_reducible refine Below.drew ?_ | refine below_call0 ?_ (by assumption))) <;> (first | omega | (simp; done) | (simp; omega)))
  have z7 : w.heap.size + 1 ≤ w7.heap.size := by omega
  have x7 : w6.heap.size < w7.heap.size := by omega
  clear hb7 hz7 A6 W6
  clear G6
  clear aa0 aa1 aa2 aa3
  obtain ⟨aa0, aa1, aa2, aa3⟩ := A7.facts
  have lA7 : w.heap.size < w7.heap.size := by omega
  go_wp2_with fail
  refine (fneg_nil a _).mono ?_
  rintro e w8 ⟨rfl, hb8⟩
  have hz8 := hb8.size
  try simp only [World.size_alloc] at hz8
  have A8 : Num4 w8 (w.heap.size) a := by ((repeat' (first | assumption | (refine Num4.new' ?_; first | omega | (simp; done)) | refine Num4.set ?_ ?_ | refine Num4.alloc ?_ ?_ | refine Num4.drewN ?_ | refine Num4.call ?_ (by assumption) ?_)) <;> (first | omega | (simp; done) | (simp; omega)))
  have G8 : Glob w8 := Glob.call (Glob.alloc G7) hb8
  have W8 : Below w.heap.size w w8 := by ((repeat' (first | with_reducible exact Below.refl _ _ | with_reducible refine Below.setCell ?_ ?_ _ | with_reducible refine below_alloc0 ?_ _ | with_reducible refine below_drewN ?_ _ | with_reducible refine Below.drew ?_ | refine below_call0 ?_ (by assumption))) <;> (first | omega | (simp; done) | (simp; omega)))
  have z8 : w.heap.size + 1 ≤ w8.heap.size := by omega
  have x8 : w7.heap.size < w8.heap.size := by omega
  clear hb8 hz8 A7 W7
  clear G7
  clear aa0 aa1 aa2 aa3
  obtain ⟨aa0, aa1, aa2, aa3⟩ := A8.facts
  have lA8 : w.heap.size < w8.heap.size := by omega
  go_wp2_with fail
  refine (check_nil a _).mono ?_
  rintro e w9 ⟨rfl, hb9⟩
  have hz9 := hb9.size
  try simp only [World.size_alloc] at hz9
  have A9 : Num4 w9 (w.heap.size) a := by ((repeat' (first | assumption | (refine Num4.new' ?_; first | omega | (simp; done)) | refine Num4.set ?_ ?_ | refine Num4.alloc ?_ ?_ | refine Num4.drewN ?_ | refine Num4.call ?_ (by assumption) ?_)) <;> (first | omega | (simp; done) | (simp; omega)))
  have G9 : Glob w9 := Glob.call (Glob.alloc G8) hb9
  have W9 : Below w.heap.size w w9 := by ((repeat' (first | with_reducible exact Below.refl _ _ | with_reducible refine Below.setCell ?_ ?_ _ | with_reducible refine below_alloc0 ?_ _ | with_reducible refine below_drewN ?_ _ | with_reducible refine Below.drew ?_ | refine below_call0 ?_ (by assumption))) <;> (first | omega | (simp; done) | (simp; omega)))
  have z9 : w.heap.size + 1 ≤ w9.heap.size := by omega
  have x9 : w8.heap.size < w9.heap.size := by omega
  clear hb9 hz9 A8 W8
  clear G8
  clear aa0 aa1 aa2 aa3
  have ez : eq4 0 0 0 0 0 0 0 0 = true := rfl
  go_wp2_with fail
  refine (modulus_nil _).mono ?_
  rintro e w10 ⟨rfl, hb10⟩
  have hz10 := hb10.size
  try simp only [World.size_alloc] at hz10
  have A10 : Num4 w10 (w.heap.size) a := by ((repeat' (first | assumption | (refine Num4.new' ?_; first | omega | (simp; done)) | refine Num4.set ?_ ?_ | refine Num4.alloc ?_ ?_ | refine Num4.drewN ?_ | refine Num4.call ?_ (by assumption) ?_)) <;> (first | omega | (simp; done) | (simp; omega)))
  have G10 : Glob w10 := Glob.call G9 hb10
  have W10 : Below w.heap.size w w10 := by ((repeat' (first | with_reducible exact Below.refl _ _ | with_reducible refine Below.setCell ?_ ?_ _ | with_reducible refine below_alloc0 ?_ _ | with_reducible refine below_drewN ?_ _ | with_reducible refine Below.drew ?_ | refine below_call0 ?_ (by assumption))) <;> (first | omega | (simp; done) | (simp; omega)))
  have z10 : w.heap.size + 1 ≤ w10.heap.size := by omega
  have x10 : w9.heap.size ≤ w10.heap.size := by omega
  clear hb10 hz10 A9 W9
  clear G9
  go_wp2_with fail
  refine (reduce_nil _ _ _ _ _ _ _ _ _).mono ?_
  rintro e w11 ⟨rfl, hb11⟩
  have hz11 := hb11.size
  try simp only [World.size_alloc] at hz11
  have A11 : Num4 w11 (w.heap.size) a := by ((repeat' (first | assumption | (refine Num4.new' ?_; first | omega | (simp; done)) | refine Num4.set ?_ ?_ | refine Num4.alloc ?_ ?_ | refine Num4.drewN ?_ | refine Num4.call ?_ (by assumption) ?_)) <;> (first | omega | (simp; done) | (simp; omega)))
  have G11 : Glob w11 := Glob.call G10 hb11
  have W11 : Below w.heap.size w w11 := by ((repeat' (first | with_reducible exact Below.refl _ _ | with_reducible refine Below.setCell ?_ ?_ _ | with_reducible refine below_alloc0 ?_ _ | with_reducible refine below_drewN ?_ _ | with_reducible refine Below.drew ?_ | refine below_call0 ?_ (by assumption))) <;> (first | omega | (simp; done) | (simp; omega)))
  have z11 : w.heap.size + 1 ≤ w11.heap.size := by omega
  have x11 : w10.heap.size ≤ w11.heap.size := by omega
  clear hb11 hz11 A10 W10
  clear G10
  go_wp2_with fail
  refine (half_any _ G11).mono ?_
  rintro e w12 ⟨rfl, hb12⟩
  have hz12 := hb12.size
  try simp only [World.size_alloc] at hz12
  have A12 : Num4 w12 (w.heap.size) a := by ((repeat' (first | assumption | (refine Num4.new' ?_; first | omega | (simp; done)) | refine Num4.set ?_ ?_ | refine Num4.alloc ?_ ?_ | refine Num4.drewN ?_ | refine Num4.call ?_ (by assumption) ?_)) <;> (first | omega | (simp; done) | (simp; omega)))
  have G12 : Glob w12 := Glob.call G11 hb12
  have W12 : Below w.heap.size w w12 := by ((repeat' (first | with_reducible exact Below.refl _ _ | with_reducible refine Below.setCell ?_ ?_ _ | with_reducible refine below_alloc0 ?_ _ | with_reducible refine below_drewN ?_ _ | with_reducible refine Below.drew ?_ | refine below_call0 ?_ (by assumption))) <;> (first | omega | (simp; done) | (simp; omega)))
  have z12 : w.heap.size + 1 ≤ w12.heap.size := by omega
  have x12 : w11.heap.size ≤ w12.heap.size := by omega
  clear hb12 hz12 A11 W11
  clear G11
  go_wp2_with fail
  go_ret
  exact ⟨rfl, W12⟩
end Go.Proofs.YtglifkfkcepllabDoor
