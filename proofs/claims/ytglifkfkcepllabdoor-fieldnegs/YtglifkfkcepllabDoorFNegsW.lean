/- The walk of the statement FieldNegs. -/
import Derived.Test.YtglifkfkcepllabDoorFieldM
import Derived.Test.YtglifkfkcepllabDoorFieldL
import Derived.Test.YtglifkfkcepllabDoorRef2F
import Derived.Test.YtglifkfkcepllabDoorWalk
namespace Go.Proofs.YtglifkfkcepllabDoor
open Go.RowKit
attribute [local go_sem] run_eq4

set_option maxRecDepth 100000 in
set_option maxHeartbeats 8000000 in
theorem negs_go (base : Bool) (m x y a b n d p q : Nat)
    (k1 : ∀ w, Glob w → GlobQ w → Calls Tryd.prog 6 #[.bool base] w fun e w' => ∃ g, e = .returned (.tuple #[.pointer (some ⟨g, 0, none⟩), .agg #[.int .u64 (limb m 0 : Nat), .int .u64 (limb m 1 : Nat), .int .u64 (limb m 2 : Nat), .int .u64 (limb m 3 : Nat), .int .u64 (limb (R256 - m) 0 : Nat), .int .u64 (limb (R256 - m) 1 : Nat), .int .u64 (limb (R256 - m) 2 : Nat), .int .u64 (limb (R256 - m) 3 : Nat)]]) ∧ FieldB w' g m ∧ Below w.heap.size w w')
    (k2 : ∀ w, Calls Tryd.prog 7 #[.agg #[.int .u64 (limb m 0 : Nat), .int .u64 (limb m 1 : Nat), .int .u64 (limb m 2 : Nat), .int .u64 (limb m 3 : Nat), .int .u64 (limb (R256 - m) 0 : Nat), .int .u64 (limb (R256 - m) 1 : Nat), .int .u64 (limb (R256 - m) 2 : Nat), .int .u64 (limb (R256 - m) 3 : Nat)], .agg #[.int .u64 (limb (x) 0 : Nat), .int .u64 (limb (x) 1 : Nat), .int .u64 (limb (x) 2 : Nat), .int .u64 (limb (x) 3 : Nat)]] w fun e w' => e = .returned (.agg #[.int .u64 (limb (a) 0 : Nat), .int .u64 (limb (a) 1 : Nat), .int .u64 (limb (a) 2 : Nat), .int .u64 (limb (a) 3 : Nat)]) ∧ Below w.heap.size w w')
    (k3 : ∀ w, Calls Tryd.prog 7 #[.agg #[.int .u64 (limb m 0 : Nat), .int .u64 (limb m 1 : Nat), .int .u64 (limb m 2 : Nat), .int .u64 (limb m 3 : Nat), .int .u64 (limb (R256 - m) 0 : Nat), .int .u64 (limb (R256 - m) 1 : Nat), .int .u64 (limb (R256 - m) 2 : Nat), .int .u64 (limb (R256 - m) 3 : Nat)], .agg #[.int .u64 (limb (y) 0 : Nat), .int .u64 (limb (y) 1 : Nat), .int .u64 (limb (y) 2 : Nat), .int .u64 (limb (y) 3 : Nat)]] w fun e w' => e = .returned (.agg #[.int .u64 (limb (b) 0 : Nat), .int .u64 (limb (b) 1 : Nat), .int .u64 (limb (b) 2 : Nat), .int .u64 (limb (b) 3 : Nat)]) ∧ Below w.heap.size w w')
    (k4 : ∀ (g : Nat) (w : World), FieldB w g m → Calls Tryd.prog 10 #[.pointer (some ⟨g, 0, none⟩), .agg #[.int .u64 (limb (b) 0 : Nat), .int .u64 (limb (b) 1 : Nat), .int .u64 (limb (b) 2 : Nat), .int .u64 (limb (b) 3 : Nat)]] w fun e w' => e = .returned (.tuple #[.agg #[.int .u64 (limb (n) 0 : Nat), .int .u64 (limb (n) 1 : Nat), .int .u64 (limb (n) 2 : Nat), .int .u64 (limb (n) 3 : Nat)], .int .i64 0]) ∧ Below w.heap.size w w')
    (k5 : ∀ (g : Nat) (w : World), FieldB w g m → Calls Tryd.prog 10 #[.pointer (some ⟨g, 0, none⟩), .agg #[.int .u64 (limb (n) 0 : Nat), .int .u64 (limb (n) 1 : Nat), .int .u64 (limb (n) 2 : Nat), .int .u64 (limb (n) 3 : Nat)]] w fun e w' => e = .returned (.tuple #[.agg #[.int .u64 (limb (b) 0 : Nat), .int .u64 (limb (b) 1 : Nat), .int .u64 (limb (b) 2 : Nat), .int .u64 (limb (b) 3 : Nat)], .int .i64 0]) ∧ Below w.heap.size w w')
    (k6 : ∀ (g : Nat) (w : World), FieldB w g m → Calls Tryd.prog 20 #[.pointer (some ⟨g, 0, none⟩), .agg #[.int .u64 (limb (a) 0 : Nat), .int .u64 (limb (a) 1 : Nat), .int .u64 (limb (a) 2 : Nat), .int .u64 (limb (a) 3 : Nat)], .agg #[.int .u64 (limb (b) 0 : Nat), .int .u64 (limb (b) 1 : Nat), .int .u64 (limb (b) 2 : Nat), .int .u64 (limb (b) 3 : Nat)]] w fun e w' => e = .returned (.tuple #[.agg #[.int .u64 (limb (d) 0 : Nat), .int .u64 (limb (d) 1 : Nat), .int .u64 (limb (d) 2 : Nat), .int .u64 (limb (d) 3 : Nat)], .int .i64 0]) ∧ Below w.heap.size w w')
    (k7 : ∀ (g : Nat) (w : World), FieldB w g m → Calls Tryd.prog 12 #[.pointer (some ⟨g, 0, none⟩), .agg #[.int .u64 (limb (a) 0 : Nat), .int .u64 (limb (a) 1 : Nat), .int .u64 (limb (a) 2 : Nat), .int .u64 (limb (a) 3 : Nat)], .agg #[.int .u64 (limb (n) 0 : Nat), .int .u64 (limb (n) 1 : Nat), .int .u64 (limb (n) 2 : Nat), .int .u64 (limb (n) 3 : Nat)]] w fun e w' => e = .returned (.tuple #[.agg #[.int .u64 (limb (d) 0 : Nat), .int .u64 (limb (d) 1 : Nat), .int .u64 (limb (d) 2 : Nat), .int .u64 (limb (d) 3 : Nat)], .int .i64 0]) ∧ Below w.heap.size w w')
    (k8 : ∀ (g : Nat) (w : World), FieldB w g m → Calls Tryd.prog 8 #[.pointer (some ⟨g, 0, none⟩), .agg #[.int .u64 (limb (a) 0 : Nat), .int .u64 (limb (a) 1 : Nat), .int .u64 (limb (a) 2 : Nat), .int .u64 (limb (a) 3 : Nat)], .agg #[.int .u64 (limb (b) 0 : Nat), .int .u64 (limb (b) 1 : Nat), .int .u64 (limb (b) 2 : Nat), .int .u64 (limb (b) 3 : Nat)]] w fun e w' => e = .returned (.tuple #[.agg #[.int .u64 (limb (p) 0 : Nat), .int .u64 (limb (p) 1 : Nat), .int .u64 (limb (p) 2 : Nat), .int .u64 (limb (p) 3 : Nat)], .int .i64 0]) ∧ Below w.heap.size w w')
    (k9 : ∀ (g : Nat) (w : World), FieldB w g m → Calls Tryd.prog 8 #[.pointer (some ⟨g, 0, none⟩), .agg #[.int .u64 (limb (a) 0 : Nat), .int .u64 (limb (a) 1 : Nat), .int .u64 (limb (a) 2 : Nat), .int .u64 (limb (a) 3 : Nat)], .agg #[.int .u64 (limb (n) 0 : Nat), .int .u64 (limb (n) 1 : Nat), .int .u64 (limb (n) 2 : Nat), .int .u64 (limb (n) 3 : Nat)]] w fun e w' => e = .returned (.tuple #[.agg #[.int .u64 (limb (q) 0 : Nat), .int .u64 (limb (q) 1 : Nat), .int .u64 (limb (q) 2 : Nat), .int .u64 (limb (q) 3 : Nat)], .int .i64 0]) ∧ Below w.heap.size w w')
    (k10 : ∀ (g : Nat) (w : World), FieldB w g m → Calls Tryd.prog 10 #[.pointer (some ⟨g, 0, none⟩), .agg #[.int .u64 (limb (p) 0 : Nat), .int .u64 (limb (p) 1 : Nat), .int .u64 (limb (p) 2 : Nat), .int .u64 (limb (p) 3 : Nat)]] w fun e w' => e = .returned (.tuple #[.agg #[.int .u64 (limb (q) 0 : Nat), .int .u64 (limb (q) 1 : Nat), .int .u64 (limb (q) 2 : Nat), .int .u64 (limb (q) 3 : Nat)], .int .i64 0]) ∧ Below w.heap.size w w')
    (w : World) (hG : Glob w) (hQ : GlobQ w) : Calls Tryd.prog 5 #[.bool base, .agg #[.int .u64 (limb (x) 0 : Nat), .int .u64 (limb (x) 1 : Nat), .int .u64 (limb (x) 2 : Nat), .int .u64 (limb (x) 3 : Nat)], .agg #[.int .u64 (limb (y) 0 : Nat), .int .u64 (limb (y) 1 : Nat), .int .u64 (limb (y) 2 : Nat), .int .u64 (limb (y) 3 : Nat)]] w fun e w' => e = .returned (.bool true) ∧ Below w.heap.size w w' := by
  have HG : Hid (Glob w ∧ GlobQ w) := ⟨hG, hQ⟩
  have K1 : Hid _ := k1
  have K2 : Hid _ := k2
  have K3 : Hid _ := k3
  have K4 : Hid _ := k4
  have K5 : Hid _ := k5
  have K6 : Hid _ := k6
  have K7 : Hid _ := k7
  have K8 : Hid _ := k8
  have K9 : Hid _ := k9
  have K10 : Hid _ := k10
  have eb : eq4 (limb b 0 : Nat) (limb b 1 : Nat) (limb b 2 : Nat) (limb b 3 : Nat) (limb b 0 : Nat) (limb b 1 : Nat) (limb b 2 : Nat) (limb b 3 : Nat) = true := by simp [eq4]
  have ed : eq4 (limb d 0 : Nat) (limb d 1 : Nat) (limb d 2 : Nat) (limb d 3 : Nat) (limb d 0 : Nat) (limb d 1 : Nat) (limb d 2 : Nat) (limb d 3 : Nat) = true := by simp [eq4]
  have eq : eq4 (limb q 0 : Nat) (limb q 1 : Nat) (limb q 2 : Nat) (limb q 3 : Nat) (limb q 0 : Nat) (limb q 1 : Nat) (limb q 2 : Nat) (limb q 3 : Nat) = true := by simp [eq4]
  clear hG hQ k1 k2 k3 k4 k5 k6 k7 k8 k9 k10
  go_enter Tryd.func5, Tryd.ntmps5
  go_wp2_with fail
  refine (K1.out _ (Glob.alloc (Glob.alloc HG.out.1)) (GlobQ.alloc (GlobQ.alloc HG.out.2))).mono ?_
  rintro e w1 ⟨g, rfl, hF1, hb1⟩
  have HX1 : Hid (NS w1 (w.heap.size) x) := by
    have t := NS.call (W := _) (NS.alloc (NS.new _ _ _)) hb1
    try simp only [World.size_alloc] at t
    exact t
  have HY1 : Hid (NS w1 (w.heap.size + 1) y) := by
    have t := NS.call (W := _) (NS.new _ _ _) hb1
    try simp only [World.size_alloc] at t
    exact t
  have HW1 : Hid (Below w.heap.size w w1) := below_call0 (below_alloc0 (below_alloc0 (Below.refl _ _) _) _) hb1
  have HG1 : Hid (Glob w1) := Glob.call (Glob.alloc (Glob.alloc HG.out.1)) hb1
  have HQ1 : Hid (GlobQ w1) := GlobQ.call (GlobQ.alloc (GlobQ.alloc HG.out.2)) hb1
  have HF1 : Hid (FieldB w1 g m) := hF1
  clear hb1
  clear hF1
  obtain ⟨⟨xx0, xx1, xx2, xx3⟩, xxz⟩ := HX1.out.facts
  go_wp2_with fail
  refine (K2.out _).mono ?_
  rintro e w2 ⟨rfl, hb2⟩
  have HY2 : Hid (NS w2 (w.heap.size + 1) y) := NS.acall HY1.out hb2
  have HW2 : Hid (Below w.heap.size w w2) := below_acall HW1.out hb2
  have HG2 : Hid (Glob w2) := Glob.call (Glob.alloc HG1.out) hb2
  have HF2 : Hid (FieldB w2 g m) := FieldB.call (FieldB.alloc HF1.out) hb2
  have HS2 : Hid (FieldB w2 w1.heap.size m) := FieldB.call (FieldB.new w1 m _) hb2
  clear hb2
  clear HX1 HY1 HW1 HG1 HQ1 HF1
  clear xx0 xx1 xx2 xx3 xxz
  obtain ⟨⟨yy0, yy1, yy2, yy3⟩, yyz⟩ := HY2.out.facts
  obtain ⟨sm0, sm1, sm2, sm3⟩ := (HS2.out).1.facts
  obtain ⟨sg0, sg1, sg2, sg3⟩ := (HS2.out).gap
  have sz := (HS2.out).2.2
  go_wp2_with fail
  refine (K3.out _).mono ?_
  rintro e w3 ⟨rfl, hb3⟩
  have HA3 : Hid (NS w3 w2.heap.size a) := NS.ncall hb3
  have HW3 : Hid (Below w.heap.size w w3) := below_acall HW2.out hb3
  have HG3 : Hid (Glob w3) := Glob.call (Glob.alloc HG2.out) hb3
  have HF3 : Hid (FieldB w3 g m) := FieldB.call (FieldB.alloc HF2.out) hb3
  clear hb3
  clear HY2 HW2 HG2 HF2 HS2
  clear yy0 yy1 yy2 yy3 yyz sm0 sg0 sm1 sg1 sm2 sg2 sm3 sg3 sz
  go_wp2_with fail
  refine (K4.out g _ (FieldB.alloc HF3.out)).mono ?_
  rintro e w4 ⟨rfl, hb4⟩
  have HA4 : Hid (NS w4 (w2.heap.size) a) := NS.acall HA3.out hb4
  have HB4 : Hid (NS w4 w3.heap.size b) := NS.ncall hb4
  have HW4 : Hid (Below w.heap.size w w4) := below_acall HW3.out hb4
  have HG4 : Hid (Glob w4) := Glob.call (Glob.alloc HG3.out) hb4
  have HF4 : Hid (FieldB w4 g m) := FieldB.call (FieldB.alloc HF3.out) hb4
  clear hb4
  clear HA3 HW3 HG3 HF3
  go_wp2_with fail
  refine (K5.out g _ (FieldB.alloc HF4.out)).mono ?_
  rintro e w5 ⟨rfl, hb5⟩
  have HA5 : Hid (NS w5 (w2.heap.size) a) := NS.acall HA4.out hb5
  have HB5 : Hid (NS w5 (w3.heap.size) b) := NS.acall HB4.out hb5
  have HN5 : Hid (NS w5 w4.heap.size n) := NS.ncall hb5
  have HW5 : Hid (Below w.heap.size w w5) := below_acall HW4.out hb5
  have HG5 : Hid (Glob w5) := Glob.call (Glob.alloc HG4.out) hb5
  have HF5 : Hid (FieldB w5 g m) := FieldB.call (FieldB.alloc HF4.out) hb5
  clear hb5
  clear HA4 HB4 HW4 HG4 HF4
  obtain ⟨⟨aa0, aa1, aa2, aa3⟩, aaz⟩ := HA5.out.facts
  obtain ⟨⟨bb0, bb1, bb2, bb3⟩, bbz⟩ := HB5.out.facts
  go_wp2_with fail
  refine (K6.out g _ (FieldB.alloc HF5.out)).mono ?_
  rintro e w6 ⟨rfl, hb6⟩
  have HA6 : Hid (NS w6 (w2.heap.size) a) := NS.acall HA5.out hb6
  have HB6 : Hid (NS w6 (w3.heap.size) b) := NS.acall HB5.out hb6
  have HN6 : Hid (NS w6 (w4.heap.size) n) := NS.acall HN5.out hb6
  have HC6 : Hid (NS w6 w5.heap.size b) := NS.ncall hb6
  have HW6 : Hid (Below w.heap.size w w6) := below_acall HW5.out hb6
  have HG6 : Hid (Glob w6) := Glob.call (Glob.alloc HG5.out) hb6
  have HF6 : Hid (FieldB w6 g m) := FieldB.call (FieldB.alloc HF5.out) hb6
  clear hb6
  clear HA5 HB5 HN5 HW5 HG5 HF5
  clear aa0 aa1 aa2 aa3 aaz bb0 bb1 bb2 bb3 bbz
  obtain ⟨⟨aa0, aa1, aa2, aa3⟩, aaz⟩ := HA6.out.facts
  obtain ⟨⟨nn0, nn1, nn2, nn3⟩, nnz⟩ := HN6.out.facts
  go_wp2_with fail
  refine (K7.out g _ (FieldB.alloc HF6.out)).mono ?_
  rintro e w7 ⟨rfl, hb7⟩
  have HA7 : Hid (NS w7 (w2.heap.size) a) := NS.acall HA6.out hb7
  have HB7 : Hid (NS w7 (w3.heap.size) b) := NS.acall HB6.out hb7
  have HN7 : Hid (NS w7 (w4.heap.size) n) := NS.acall HN6.out hb7
  have HC7 : Hid (NS w7 (w5.heap.size) b) := NS.acall HC6.out hb7
  have HD7 : Hid (NS w7 w6.heap.size d) := NS.ncall hb7
  have HW7 : Hid (Below w.heap.size w w7) := below_acall HW6.out hb7
  have HG7 : Hid (Glob w7) := Glob.call (Glob.alloc HG6.out) hb7
  have HF7 : Hid (FieldB w7 g m) := FieldB.call (FieldB.alloc HF6.out) hb7
  clear hb7
  clear HA6 HB6 HN6 HC6 HW6 HG6 HF6
  clear aa0 aa1 aa2 aa3 aaz nn0 nn1 nn2 nn3 nnz
  obtain ⟨⟨aa0, aa1, aa2, aa3⟩, aaz⟩ := HA7.out.facts
  obtain ⟨⟨bb0, bb1, bb2, bb3⟩, bbz⟩ := HB7.out.facts
  go_wp2_with fail
  refine (K8.out g _ (FieldB.alloc HF7.out)).mono ?_
  rintro e w8 ⟨rfl, hb8⟩
  have HA8 : Hid (NS w8 (w2.heap.size) a) := NS.acall HA7.out hb8
  have HB8 : Hid (NS w8 (w3.heap.size) b) := NS.acall HB7.out hb8
  have HN8 : Hid (NS w8 (w4.heap.size) n) := NS.acall HN7.out hb8
  have HC8 : Hid (NS w8 (w5.heap.size) b) := NS.acall HC7.out hb8
  have HD8 : Hid (NS w8 (w6.heap.size) d) := NS.acall HD7.out hb8
  have HE8 : Hid (NS w8 w7.heap.size d) := NS.ncall hb8
  have HW8 : Hid (Below w.heap.size w w8) := below_acall HW7.out hb8
  have HG8 : Hid (Glob w8) := Glob.call (Glob.alloc HG7.out) hb8
  have HF8 : Hid (FieldB w8 g m) := FieldB.call (FieldB.alloc HF7.out) hb8
  clear hb8
  clear HA7 HB7 HN7 HC7 HD7 HW7 HG7 HF7
  clear aa0 aa1 aa2 aa3 aaz bb0 bb1 bb2 bb3 bbz
  obtain ⟨⟨aa0, aa1, aa2, aa3⟩, aaz⟩ := HA8.out.facts
  obtain ⟨⟨nn0, nn1, nn2, nn3⟩, nnz⟩ := HN8.out.facts
  go_wp2_with fail
  refine (K9.out g _ (FieldB.alloc HF8.out)).mono ?_
  rintro e w9 ⟨rfl, hb9⟩
  have HB9 : Hid (NS w9 (w3.heap.size) b) := NS.acall HB8.out hb9
  have HC9 : Hid (NS w9 (w5.heap.size) b) := NS.acall HC8.out hb9
  have HD9 : Hid (NS w9 (w6.heap.size) d) := NS.acall HD8.out hb9
  have HE9 : Hid (NS w9 (w7.heap.size) d) := NS.acall HE8.out hb9
  have HP9 : Hid (NS w9 w8.heap.size p) := NS.ncall hb9
  have HW9 : Hid (Below w.heap.size w w9) := below_acall HW8.out hb9
  have HG9 : Hid (Glob w9) := Glob.call (Glob.alloc HG8.out) hb9
  have HF9 : Hid (FieldB w9 g m) := FieldB.call (FieldB.alloc HF8.out) hb9
  clear hb9
  clear HA8 HB8 HN8 HC8 HD8 HE8 HW8 HG8 HF8
  clear aa0 aa1 aa2 aa3 aaz nn0 nn1 nn2 nn3 nnz
  obtain ⟨⟨pp0, pp1, pp2, pp3⟩, ppz⟩ := HP9.out.facts
  go_wp2_with fail
  refine (K10.out g _ (FieldB.alloc HF9.out)).mono ?_
  rintro e w10 ⟨rfl, hb10⟩
  have HB10 : Hid (NS w10 (w3.heap.size) b) := NS.acall HB9.out hb10
  have HC10 : Hid (NS w10 (w5.heap.size) b) := NS.acall HC9.out hb10
  have HD10 : Hid (NS w10 (w6.heap.size) d) := NS.acall HD9.out hb10
  have HE10 : Hid (NS w10 (w7.heap.size) d) := NS.acall HE9.out hb10
  have HR10 : Hid (NS w10 w9.heap.size q) := NS.ncall hb10
  have HW10 : Hid (Below w.heap.size w w10) := below_acall HW9.out hb10
  have HG10 : Hid (Glob w10) := Glob.call (Glob.alloc HG9.out) hb10
  clear hb10
  clear HB9 HC9 HD9 HE9 HP9 HW9 HG9 HF9
  clear pp0 pp1 pp2 pp3 ppz
  obtain ⟨⟨bb0, bb1, bb2, bb3⟩, bbz⟩ := HB10.out.facts
  obtain ⟨⟨cc0, cc1, cc2, cc3⟩, ccz⟩ := HC10.out.facts
  obtain ⟨⟨dd0, dd1, dd2, dd3⟩, ddz⟩ := HD10.out.facts
  obtain ⟨⟨ee0, ee1, ee2, ee3⟩, eez⟩ := HE10.out.facts
  obtain ⟨⟨rr0, rr1, rr2, rr3⟩, rrz⟩ := HR10.out.facts
  go_wp2_with fail
  refine (half_any _ (Glob.alloc HG10.out)).mono ?_
  rintro e w11 ⟨rfl, hb11⟩
  have HW11 : Hid (Below w.heap.size w w11) := below_acall HW10.out hb11
  clear hb11
  clear HB10 HC10 HD10 HE10 HR10 HW10 HG10
  clear bb0 bb1 bb2 bb3 bbz cc0 cc1 cc2 cc3 ccz dd0 dd1 dd2 dd3 ddz ee0 ee1 ee2 ee3 eez rr0 rr1 rr2 rr3 rrz
  go_wp2_with fail
  go_ret
  exact ⟨rfl, HW11.out⟩

theorem fieldNegs_any (base : Bool) (x y : Nat) (hx : x < R256) (hy : y < R256) (w : World) (hG : Glob w) (hQ : GlobQ w) : Calls Tryd.prog 5 #[.bool base, .agg #[.int .u64 (limb (x) 0 : Nat), .int .u64 (limb (x) 1 : Nat), .int .u64 (limb (x) 2 : Nat), .int .u64 (limb (x) 3 : Nat)], .agg #[.int .u64 (limb (y) 0 : Nat), .int .u64 (limb (y) 1 : Nat), .int .u64 (limb (y) 2 : Nat), .int .u64 (limb (y) 3 : Nat)]] w fun e w' => e = .returned (.bool true) ∧ Below w.heap.size w w' := by
  have hF := FM_B base
  have hS := FS_B base
  have h0 : 0 < mB base := by have := hF.pos; omega
  have al : x % mB base < mB base := Nat.mod_lt _ h0
  have bl : y % mB base < mB base := Nat.mod_lt _ h0
  have nl : subM (mB base) 0 (y % mB base) < mB base := subM_lt _ _ _ h0
  refine negs_go base (mB base) x y (x % mB base) (y % mB base) (subM (mB base) 0 (y % mB base)) (subM (mB base) (x % mB base) (y % mB base)) (x % mB base * (y % mB base) % mB base) (subM (mB base) 0 (x % mB base * (y % mB base) % mB base))
    (of_any base) (in_any _ x hF hS hx) (in_any _ y hF hS hy) (fun g w h => fneg_in g _ _ hF bl w h) ?_ (fun g w h => fsub_in g _ _ _ hF al bl w h) ?_ (fun g w h => fmul_in g _ _ _ hF al bl w h) ?_ (fun g w h => fneg_in g _ _ hF (Nat.mod_lt _ h0) w h) w hG hQ
  · intro g w h
    have k := fneg_in g _ _ hF nl w h
    rw [neg_neg _ _ bl] at k
    exact k
  · intro g w h
    have k := fadd_in g _ _ _ hF al nl w h
    rw [sub_add _ _ _ bl] at k
    exact k
  · intro g w h
    have k := fmul_in g _ _ _ hF al nl w h
    rw [mul_neg _ _ _ bl] at k
    exact k
end Go.Proofs.YtglifkfkcepllabDoor
