/- The walk of the statement FieldPowers. -/
import Derived.Test.YtglifkfkcepllaaDoorFieldH
import Derived.Test.YtglifkfkcepllaaDoorFieldM
import Derived.Test.YtglifkfkcepllaaDoorFieldQ
import Derived.Test.YtglifkfkcepllaaDoorRef2F
import Derived.Test.YtglifkfkcepllaaDoorRef2S
import Derived.Test.YtglifkfkcepllaaDoorWalkW
import Derived.Test.YtglifkfkcepllaaDoorHeldR
namespace Go.Proofs.YtglifkfkcepllaaDoor
open Go.RowKit
attribute [local go_sem] run_eq4

set_option maxRecDepth 100000 in
set_option maxHeartbeats 8000000 in
theorem powers_in (base : Bool) (m a b p v y : Nat) (c2 c4 : Int)
    (k1 : ∀ w, Glob w → GlobQ w → Calls Tryd.prog 9 #[.bool base] w fun e w' => ∃ g, e = .returned (.tuple #[.pointer (some ⟨g, 0, none⟩), .agg #[.int .u64 (limb m 0 : Nat), .int .u64 (limb m 1 : Nat), .int .u64 (limb m 2 : Nat), .int .u64 (limb m 3 : Nat), .int .u64 (limb (R256 - m) 0 : Nat), .int .u64 (limb (R256 - m) 1 : Nat), .int .u64 (limb (R256 - m) 2 : Nat), .int .u64 (limb (R256 - m) 3 : Nat)]]) ∧ FieldB w' g m ∧ Below w.heap.size w w')
    (k2 : ∀ (g : Nat) (w : World), FieldB w g m → Calls Tryd.prog 26 #[.pointer (some ⟨g, 0, none⟩), .agg #[.int .u64 (limb (a) 0 : Nat), .int .u64 (limb (a) 1 : Nat), .int .u64 (limb (a) 2 : Nat), .int .u64 (limb (a) 3 : Nat)], .agg #[.int .u64 (limb (b) 0 : Nat), .int .u64 (limb (b) 1 : Nat), .int .u64 (limb (b) 2 : Nat), .int .u64 (limb (b) 3 : Nat)]] w fun e w' => e = .returned (.tuple #[.agg #[.int .u64 (limb (p) 0 : Nat), .int .u64 (limb (p) 1 : Nat), .int .u64 (limb (p) 2 : Nat), .int .u64 (limb (p) 3 : Nat)], .int .i64 0]) ∧ Below w.heap.size w w')
    (k3 : ∀ (g : Nat) (w : World), FieldB w g m → Calls Tryd.prog 27 #[.pointer (some ⟨g, 0, none⟩), .agg #[.int .u64 (limb (a) 0 : Nat), .int .u64 (limb (a) 1 : Nat), .int .u64 (limb (a) 2 : Nat), .int .u64 (limb (a) 3 : Nat)]] w fun e w' => e = .returned (.tuple #[.agg #[.int .u64 (limb (v) 0 : Nat), .int .u64 (limb (v) 1 : Nat), .int .u64 (limb (v) 2 : Nat), .int .u64 (limb (v) 3 : Nat)], .int .i64 c2]) ∧ Below w.heap.size w w')
    (k4 : ∀ w, Calls Tryd.prog 28 #[.agg #[.int .u64 (limb m 0 : Nat), .int .u64 (limb m 1 : Nat), .int .u64 (limb m 2 : Nat), .int .u64 (limb m 3 : Nat), .int .u64 (limb (R256 - m) 0 : Nat), .int .u64 (limb (R256 - m) 1 : Nat), .int .u64 (limb (R256 - m) 2 : Nat), .int .u64 (limb (R256 - m) 3 : Nat)], .agg #[.int .u64 (limb (a) 0 : Nat), .int .u64 (limb (a) 1 : Nat), .int .u64 (limb (a) 2 : Nat), .int .u64 (limb (a) 3 : Nat)]] w fun e w' => e = .returned (.tuple #[.agg #[.int .u64 (limb (v) 0 : Nat), .int .u64 (limb (v) 1 : Nat), .int .u64 (limb (v) 2 : Nat), .int .u64 (limb (v) 3 : Nat)], .int .i64 c2]) ∧ Below w.heap.size w w')
    (k5 : ∀ (g : Nat) (w : World), Glob w → FieldB w g m → Calls Tryd.prog 29 #[.pointer (some ⟨g, 0, none⟩), .agg #[.int .u64 (limb (a) 0 : Nat), .int .u64 (limb (a) 1 : Nat), .int .u64 (limb (a) 2 : Nat), .int .u64 (limb (a) 3 : Nat)]] w fun e w' => e = .returned (.tuple #[.agg #[.int .u64 (limb (y) 0 : Nat), .int .u64 (limb (y) 1 : Nat), .int .u64 (limb (y) 2 : Nat), .int .u64 (limb (y) 3 : Nat)], .int .i64 c4]) ∧ Below w.heap.size w w')
    (k6 : ∀ w, Calls Tryd.prog 30 #[.agg #[.int .u64 (limb m 0 : Nat), .int .u64 (limb m 1 : Nat), .int .u64 (limb m 2 : Nat), .int .u64 (limb m 3 : Nat), .int .u64 (limb (R256 - m) 0 : Nat), .int .u64 (limb (R256 - m) 1 : Nat), .int .u64 (limb (R256 - m) 2 : Nat), .int .u64 (limb (R256 - m) 3 : Nat)], .agg #[.int .u64 (limb (a) 0 : Nat), .int .u64 (limb (a) 1 : Nat), .int .u64 (limb (a) 2 : Nat), .int .u64 (limb (a) 3 : Nat)], .bool base] w fun e w' => e = .returned (.tuple #[.agg #[.int .u64 (limb (y) 0 : Nat), .int .u64 (limb (y) 1 : Nat), .int .u64 (limb (y) 2 : Nat), .int .u64 (limb (y) 3 : Nat)], .int .i64 c4]) ∧ Below w.heap.size w w')
    (k7 : ∀ w, Calls Tryd.prog 14 #[.agg #[.int .u64 (limb m 0 : Nat), .int .u64 (limb m 1 : Nat), .int .u64 (limb m 2 : Nat), .int .u64 (limb m 3 : Nat), .int .u64 (limb (R256 - m) 0 : Nat), .int .u64 (limb (R256 - m) 1 : Nat), .int .u64 (limb (R256 - m) 2 : Nat), .int .u64 (limb (R256 - m) 3 : Nat)], .agg #[.int .u64 (limb (a) 0 : Nat), .int .u64 (limb (a) 1 : Nat), .int .u64 (limb (a) 2 : Nat), .int .u64 (limb (a) 3 : Nat)]] w fun e w' => e = .returned (.bool true) ∧ Below w.heap.size w w')
    (k8 : ∀ w, Calls Tryd.prog 31 #[.agg #[.int .u64 (limb m 0 : Nat), .int .u64 (limb m 1 : Nat), .int .u64 (limb m 2 : Nat), .int .u64 (limb m 3 : Nat), .int .u64 (limb (R256 - m) 0 : Nat), .int .u64 (limb (R256 - m) 1 : Nat), .int .u64 (limb (R256 - m) 2 : Nat), .int .u64 (limb (R256 - m) 3 : Nat)], .agg #[.int .u64 (limb (a) 0 : Nat), .int .u64 (limb (a) 1 : Nat), .int .u64 (limb (a) 2 : Nat), .int .u64 (limb (a) 3 : Nat)], .agg #[.int .u64 (limb (b) 0 : Nat), .int .u64 (limb (b) 1 : Nat), .int .u64 (limb (b) 2 : Nat), .int .u64 (limb (b) 3 : Nat)]] w fun e w' => e = .returned (.agg #[.int .u64 (limb (p) 0 : Nat), .int .u64 (limb (p) 1 : Nat), .int .u64 (limb (p) 2 : Nat), .int .u64 (limb (p) 3 : Nat)]) ∧ Below w.heap.size w w')
    (w : World) (hG : Glob w) (hQ : GlobQ w) : Calls Tryd.prog 6 #[.bool base, .agg #[.int .u64 (limb (a) 0 : Nat), .int .u64 (limb (a) 1 : Nat), .int .u64 (limb (a) 2 : Nat), .int .u64 (limb (a) 3 : Nat)], .agg #[.int .u64 (limb (b) 0 : Nat), .int .u64 (limb (b) 1 : Nat), .int .u64 (limb (b) 2 : Nat), .int .u64 (limb (b) 3 : Nat)]] w fun e w' => e = .returned (.bool true) ∧ Below w.heap.size w w' := by
  have HG : Hid (Glob w ∧ GlobQ w) := ⟨hG, hQ⟩
  have K1 : Hid _ := k1
  have K2 : Hid _ := k2
  have K3 : Hid _ := k3
  have K4 : Hid _ := k4
  have K5 : Hid _ := k5
  have K6 : Hid _ := k6
  have K7 : Hid _ := k7
  have K8 : Hid _ := k8
  have ep : eq4 (limb p 0 : Nat) (limb p 1 : Nat) (limb p 2 : Nat) (limb p 3 : Nat) (limb p 0 : Nat) (limb p 1 : Nat) (limb p 2 : Nat) (limb p 3 : Nat) = true := by simp [eq4]
  have ev : eq4 (limb v 0 : Nat) (limb v 1 : Nat) (limb v 2 : Nat) (limb v 3 : Nat) (limb v 0 : Nat) (limb v 1 : Nat) (limb v 2 : Nat) (limb v 3 : Nat) = true := by simp [eq4]
  have ey : eq4 (limb y 0 : Nat) (limb y 1 : Nat) (limb y 2 : Nat) (limb y 3 : Nat) (limb y 0 : Nat) (limb y 1 : Nat) (limb y 2 : Nat) (limb y 3 : Nat) = true := by simp [eq4]
  clear hG hQ k1 k2 k3 k4 k5 k6 k7 k8
  go_enter Tryd.func6, Tryd.ntmps6
  go_wp2_with fail
  refine (K1.out _ (Glob.alloc (Glob.alloc HG.out.1)) (GlobQ.alloc (GlobQ.alloc HG.out.2))).mono ?_
  rintro e w1 ⟨g, rfl, hF1, hb1⟩
  have HA1 : Hid (NS w1 (w.heap.size) a) := by
    have t := NS.call (W := _) (NS.alloc (NS.new _ _ _)) hb1
    try simp only [World.size_alloc] at t
    exact t
  have HB1 : Hid (NS w1 (w.heap.size + 1) b) := by
    have t := NS.call (W := _) (NS.new _ _ _) hb1
    try simp only [World.size_alloc] at t
    exact t
  have HW1 : Hid (Below w.heap.size w w1) := below_call0 (below_alloc0 (below_alloc0 (Below.refl _ _) _) _) hb1
  have HG1 : Hid (Glob w1) := Glob.call (Glob.alloc (Glob.alloc HG.out.1)) hb1
  have HF1 : Hid (FieldB w1 g m) := hF1
  clear hb1
  clear hF1
  obtain ⟨⟨aa0, aa1, aa2, aa3⟩, aaz⟩ := HA1.out.facts
  obtain ⟨⟨bb0, bb1, bb2, bb3⟩, bbz⟩ := HB1.out.facts
  go_wp2_with fail
  refine (K2.out g _ (FieldB.alloc HF1.out)).mono ?_
  rintro e w2 ⟨rfl, hb2⟩
  have HA2 : Hid (NS w2 (w.heap.size) a) := NS.acall HA1.out hb2
  have HB2 : Hid (NS w2 (w.heap.size + 1) b) := NS.acall HB1.out hb2
  have HW2 : Hid (Below w.heap.size w w2) := below_acall HW1.out hb2
  have HG2 : Hid (Glob w2) := Glob.call (Glob.alloc HG1.out) hb2
  have HF2 : Hid (FieldB w2 g m) := FieldB.call (FieldB.alloc HF1.out) hb2
  have HS2 : Hid (FieldB w2 w1.heap.size m) := FieldB.call (FieldB.new w1 m _) hb2
  clear hb2
  clear HA1 HB1 HW1 HG1 HF1
  clear aa0 aa1 aa2 aa3 aaz bb0 bb1 bb2 bb3 bbz
  obtain ⟨⟨aa0, aa1, aa2, aa3⟩, aaz⟩ := HA2.out.facts
  go_wp2_with fail
  refine (K3.out g _ (FieldB.alloc HF2.out)).mono ?_
  rintro e w3 ⟨rfl, hb3⟩
  have HA3 : Hid (NS w3 (w.heap.size) a) := NS.acall HA2.out hb3
  have HB3 : Hid (NS w3 (w.heap.size + 1) b) := NS.acall HB2.out hb3
  have HP3 : Hid (NS w3 w2.heap.size p) := NS.ncall hb3
  have HW3 : Hid (Below w.heap.size w w3) := below_acall HW2.out hb3
  have HG3 : Hid (Glob w3) := Glob.call (Glob.alloc HG2.out) hb3
  have HF3 : Hid (FieldB w3 g m) := FieldB.call (FieldB.alloc HF2.out) hb3
  have HS3 : Hid (FieldB w3 w1.heap.size m) := FieldB.call (FieldB.alloc HS2.out) hb3
  clear hb3
  clear HA2 HB2 HW2 HG2 HF2 HS2
  clear aa0 aa1 aa2 aa3 aaz
  obtain ⟨⟨aa0, aa1, aa2, aa3⟩, aaz⟩ := HA3.out.facts
  obtain ⟨sm0, sm1, sm2, sm3⟩ := (HS3.out).1.facts
  obtain ⟨sg0, sg1, sg2, sg3⟩ := (HS3.out).gap
  have sz := (HS3.out).2.2
  go_wp2_with fail
  refine (K4.out _).mono ?_
  rintro e w4 ⟨rfl, hb4⟩
  have HA4 : Hid (NS w4 (w.heap.size) a) := NS.acall HA3.out hb4
  have HB4 : Hid (NS w4 (w.heap.size + 1) b) := NS.acall HB3.out hb4
  have HP4 : Hid (NS w4 (w2.heap.size) p) := NS.acall HP3.out hb4
  have HV4 : Hid (NS w4 w3.heap.size v) := NS.ncall hb4
  have HW4 : Hid (Below w.heap.size w w4) := below_acall HW3.out hb4
  have HG4 : Hid (Glob w4) := Glob.call (Glob.alloc HG3.out) hb4
  have HF4 : Hid (FieldB w4 g m) := FieldB.call (FieldB.alloc HF3.out) hb4
  have HS4 : Hid (FieldB w4 w1.heap.size m) := FieldB.call (FieldB.alloc HS3.out) hb4
  clear hb4
  clear HA3 HB3 HP3 HW3 HG3 HF3 HS3
  clear aa0 aa1 aa2 aa3 aaz sm0 sg0 sm1 sg1 sm2 sg2 sm3 sg3 sz
  obtain ⟨⟨aa0, aa1, aa2, aa3⟩, aaz⟩ := HA4.out.facts
  go_wp2_with fail
  refine (K5.out g _ (Glob.alloc HG4.out) (FieldB.alloc HF4.out)).mono ?_
  rintro e w5 ⟨rfl, hb5⟩
  have HA5 : Hid (NS w5 (w.heap.size) a) := NS.acall HA4.out hb5
  have HB5 : Hid (NS w5 (w.heap.size + 1) b) := NS.acall HB4.out hb5
  have HP5 : Hid (NS w5 (w2.heap.size) p) := NS.acall HP4.out hb5
  have HV5 : Hid (NS w5 (w3.heap.size) v) := NS.acall HV4.out hb5
  have HJ5 : Hid (NS w5 w4.heap.size v) := NS.ncall hb5
  have HW5 : Hid (Below w.heap.size w w5) := below_acall HW4.out hb5
  have HG5 : Hid (Glob w5) := Glob.call (Glob.alloc HG4.out) hb5
  have HF5 : Hid (FieldB w5 g m) := FieldB.call (FieldB.alloc HF4.out) hb5
  have HS5 : Hid (FieldB w5 w1.heap.size m) := FieldB.call (FieldB.alloc HS4.out) hb5
  clear hb5
  clear HA4 HB4 HP4 HV4 HW4 HG4 HF4 HS4
  clear aa0 aa1 aa2 aa3 aaz
  obtain ⟨⟨aa0, aa1, aa2, aa3⟩, aaz⟩ := HA5.out.facts
  obtain ⟨sm0, sm1, sm2, sm3⟩ := (HS5.out).1.facts
  obtain ⟨sg0, sg1, sg2, sg3⟩ := (HS5.out).gap
  have sz := (HS5.out).2.2
  go_wp2_with fail
  refine (K6.out _).mono ?_
  rintro e w6 ⟨rfl, hb6⟩
  have HA6 : Hid (NS w6 (w.heap.size) a) := NS.acall HA5.out hb6
  have HB6 : Hid (NS w6 (w.heap.size + 1) b) := NS.acall HB5.out hb6
  have HP6 : Hid (NS w6 (w2.heap.size) p) := NS.acall HP5.out hb6
  have HV6 : Hid (NS w6 (w3.heap.size) v) := NS.acall HV5.out hb6
  have HJ6 : Hid (NS w6 (w4.heap.size) v) := NS.acall HJ5.out hb6
  have HY6 : Hid (NS w6 w5.heap.size y) := NS.ncall hb6
  have HW6 : Hid (Below w.heap.size w w6) := below_acall HW5.out hb6
  have HG6 : Hid (Glob w6) := Glob.call (Glob.alloc HG5.out) hb6
  have HF6 : Hid (FieldB w6 g m) := FieldB.call (FieldB.alloc HF5.out) hb6
  have HS6 : Hid (FieldB w6 w1.heap.size m) := FieldB.call (FieldB.alloc HS5.out) hb6
  clear hb6
  clear HA5 HB5 HP5 HV5 HJ5 HW5 HG5 HF5 HS5
  clear aa0 aa1 aa2 aa3 aaz sm0 sg0 sm1 sg1 sm2 sg2 sm3 sg3 sz
  obtain ⟨⟨aa0, aa1, aa2, aa3⟩, aaz⟩ := HA6.out.facts
  obtain ⟨⟨vv0, vv1, vv2, vv3⟩, vvz⟩ := HV6.out.facts
  obtain ⟨⟨jj0, jj1, jj2, jj3⟩, jjz⟩ := HJ6.out.facts
  obtain ⟨⟨yy0, yy1, yy2, yy3⟩, yyz⟩ := HY6.out.facts
  obtain ⟨sm0, sm1, sm2, sm3⟩ := (HS6.out).1.facts
  obtain ⟨sg0, sg1, sg2, sg3⟩ := (HS6.out).gap
  have sz := (HS6.out).2.2
  go_wp2_with fail
  refine (K7.out _).mono ?_
  rintro e w7 ⟨rfl, hb7⟩
  have HA7 : Hid (NS w7 (w.heap.size) a) := NS.acall HA6.out hb7
  have HB7 : Hid (NS w7 (w.heap.size + 1) b) := NS.acall HB6.out hb7
  have HP7 : Hid (NS w7 (w2.heap.size) p) := NS.acall HP6.out hb7
  have HV7 : Hid (NS w7 (w3.heap.size) v) := NS.acall HV6.out hb7
  have HJ7 : Hid (NS w7 (w4.heap.size) v) := NS.acall HJ6.out hb7
  have HY7 : Hid (NS w7 (w5.heap.size) y) := NS.acall HY6.out hb7
  have HZ7 : Hid (NS w7 w6.heap.size y) := NS.ncall hb7
  have HW7 : Hid (Below w.heap.size w w7) := below_acall HW6.out hb7
  have HG7 : Hid (Glob w7) := Glob.call (Glob.alloc HG6.out) hb7
  have HF7 : Hid (FieldB w7 g m) := FieldB.call (FieldB.alloc HF6.out) hb7
  have HS7 : Hid (FieldB w7 w1.heap.size m) := FieldB.call (FieldB.alloc HS6.out) hb7
  clear hb7
  clear HA6 HB6 HP6 HV6 HJ6 HY6 HW6 HG6 HF6 HS6
  clear aa0 aa1 aa2 aa3 aaz vv0 vv1 vv2 vv3 vvz jj0 jj1 jj2 jj3 jjz yy0 yy1 yy2 yy3 yyz sm0 sg0 sm1 sg1 sm2 sg2 sm3 sg3 sz
  go_wp2_with fail
  refine wp_region_H (fun w' => Below w7.heap.size w7 w') 23 rfl (by kernel_rfl) ?_
  refine wpAnyH_take (i := 0) (oi := ?o0_7) (v := ?v0_7) ?hi0_7 (by kernel_rfl) (by kernel_rfl) (by kernel_rfl) ?hQ0_7 ?hy0_7 (Below.drew (Below.refl _ _)) ?more0_7
  case hi0_7 => rw [List.getElem?_toArray]; exact rfl
  case hQ0_7 => exact fun _ _ _ h => h
  case hy0_7 =>
    refine Or.inl ⟨by rfl, ?_⟩
    intro w' hSw
    clear hSw
    go_simp
    try with_reducible rfl
  simp only [Act.put, List.setIfInBounds_toArray, List.set_cons_zero, List.set_cons_succ]
  refine wpAnyH_take (i := 1) (oi := ?o1_7) (v := ?v1_7) ?hi1_7 (by kernel_rfl) (by kernel_rfl) (by kernel_rfl) ?hQ1_7 ?hy1_7 (Below.drew (Below.refl _ _)) ?more1_7
  case hi1_7 => rw [List.getElem?_toArray]; exact rfl
  case hQ1_7 => exact fun _ _ _ h => h
  case hy1_7 =>
    refine Or.inl ⟨by rfl, ?_⟩
    intro w' hSw
    clear hSw
    go_simp
    try with_reducible rfl
  simp only [Act.put, List.setIfInBounds_toArray, List.set_cons_zero, List.set_cons_succ]
  refine wpAnyH_take (i := 2) (oi := ?o2_7) (v := ?v2_7) ?hi2_7 (by kernel_rfl) (by kernel_rfl) (by kernel_rfl) ?hQ2_7 ?hy2_7 (Below.drew (Below.refl _ _)) ?more2_7
  case hi2_7 => rw [List.getElem?_toArray]; exact rfl
  case hQ2_7 => exact fun _ _ _ h => h
  case hy2_7 =>
    refine Or.inl ⟨by rfl, ?_⟩
    intro w' hSw
    clear hSw
    go_simp
    try with_reducible rfl
  simp only [Act.put, List.setIfInBounds_toArray, List.set_cons_zero, List.set_cons_succ]
  refine wpAnyH_take (i := 3) (oi := ?o3_7) (v := undef) ?hi3_7 (by kernel_rfl) (by kernel_rfl) (by kernel_rfl) ?hQ3_7 ?hy3_7 (Below.drew (Below.refl _ _)) ?more3_7
  case hi3_7 => rw [List.getElem?_toArray]; exact rfl
  case hQ3_7 => exact fun _ _ _ h => h
  case hy3_7 =>
    exact Or.inr ⟨by rfl, rfl⟩
  simp only [Act.put, List.setIfInBounds_toArray, List.set_cons_zero, List.set_cons_succ]
  refine wpAnyH_take (i := 4) (oi := ?o4_7) (v := undef) ?hi4_7 (by kernel_rfl) (by kernel_rfl) (by kernel_rfl) ?hQ4_7 ?hy4_7 (Below.drew (Below.refl _ _)) ?more4_7
  case hi4_7 => rw [List.getElem?_toArray]; exact rfl
  case hQ4_7 => exact fun _ _ _ h => h
  case hy4_7 =>
    exact Or.inr ⟨by rfl, rfl⟩
  simp only [Act.put, List.setIfInBounds_toArray, List.set_cons_zero, List.set_cons_succ]
  refine wpAnyH_take (i := 5) (oi := ?o5_7) (v := undef) ?hi5_7 (by kernel_rfl) (by kernel_rfl) (by kernel_rfl) ?hQ5_7 ?hy5_7 (Below.drew (Below.refl _ _)) ?more5_7
  case hi5_7 => rw [List.getElem?_toArray]; exact rfl
  case hQ5_7 => exact fun _ _ _ h => h
  case hy5_7 =>
    exact Or.inr ⟨by rfl, rfl⟩
  simp only [Act.put, List.setIfInBounds_toArray, List.set_cons_zero, List.set_cons_succ]
  refine wpAnyH_take (i := 6) (oi := ?o6_7) (v := ?v6_7) ?hi6_7 (by kernel_rfl) (by kernel_rfl) (by kernel_rfl) ?hQ6_7 ?hy6_7 (Below.drew (Below.refl _ _)) ?more6_7
  case hi6_7 => rw [List.getElem?_toArray]; exact rfl
  case hQ6_7 => exact fun _ _ _ h => h
  case hy6_7 =>
    refine Or.inl ⟨by rfl, ?_⟩
    intro w' hSw
    clear hSw
    go_simp
    try with_reducible rfl
  simp only [Act.put, List.setIfInBounds_toArray, List.set_cons_zero, List.set_cons_succ]
  refine wpAnyH_take (i := 7) (oi := ?o7_7) (v := ?v7_7) ?hi7_7 (by kernel_rfl) (by kernel_rfl) (by kernel_rfl) ?hQ7_7 ?hy7_7 (Below.drew (Below.refl _ _)) ?more7_7
  case hi7_7 => rw [List.getElem?_toArray]; exact rfl
  case hQ7_7 => exact fun _ _ _ h => h
  case hy7_7 =>
    refine Or.inl ⟨by rfl, ?_⟩
    intro w' hSw
    clear hSw
    go_simp
    try with_reducible rfl
  simp only [Act.put, List.setIfInBounds_toArray, List.set_cons_zero, List.set_cons_succ]
  refine wpAnyH_take (i := 8) (oi := ?o8_7) (v := ?v8_7) ?hi8_7 (by kernel_rfl) (by kernel_rfl) (by kernel_rfl) ?hQ8_7 ?hy8_7 (Below.drew (Below.refl _ _)) ?more8_7
  case hi8_7 => rw [List.getElem?_toArray]; exact rfl
  case hQ8_7 => exact fun _ _ _ h => h
  case hy8_7 =>
    refine Or.inl ⟨by rfl, ?_⟩
    intro w' hSw
    clear hSw
    go_simp
    try with_reducible rfl
  simp only [Act.put, List.setIfInBounds_toArray, List.set_cons_zero, List.set_cons_succ]
  refine wpAnyH_take (i := 9) (oi := ?o9_7) (v := ?v9_7) ?hi9_7 (by kernel_rfl) (by kernel_rfl) (by kernel_rfl) ?hQ9_7 ?hy9_7 (Below.drew (Below.refl _ _)) ?more9_7
  case hi9_7 => rw [List.getElem?_toArray]; exact rfl
  case hQ9_7 => exact fun _ _ _ h => h
  case hy9_7 =>
    refine Or.inl ⟨by rfl, ?_⟩
    intro w' hSw
    clear hSw
    go_simp
    try with_reducible rfl
  simp only [Act.put, List.setIfInBounds_toArray, List.set_cons_zero, List.set_cons_succ]
  refine wpAnyH_take (i := 10) (oi := ?o10_7) (v := ?v10_7) ?hi10_7 (by kernel_rfl) (by kernel_rfl) (by kernel_rfl) ?hQ10_7 ?hy10_7 (Below.drew (Below.refl _ _)) ?more10_7
  case hi10_7 => rw [List.getElem?_toArray]; exact rfl
  case hQ10_7 => exact fun _ _ _ h => h
  case hy10_7 =>
    refine Or.inl ⟨by rfl, ?_⟩
    intro w' hSw
    clear hSw
    go_simp
    try with_reducible rfl
  simp only [Act.put, List.setIfInBounds_toArray, List.set_cons_zero, List.set_cons_succ]
  refine wpAnyH_take (i := 11) (oi := ?o11_7) (v := ?v11_7) ?hi11_7 (by kernel_rfl) (by kernel_rfl) (by kernel_rfl) ?hQ11_7 ?hy11_7 (Below.drew (Below.refl _ _)) ?more11_7
  case hi11_7 => rw [List.getElem?_toArray]; exact rfl
  case hQ11_7 => exact fun _ _ _ h => h
  case hy11_7 =>
    refine Or.inl ⟨by rfl, ?_⟩
    intro w' hSw
    obtain ⟨⟨pp0, pp1, pp2, pp3⟩, ppz⟩ := (NS.call HP7.out hSw).facts
    clear hSw
    go_simp
    try with_reducible rfl
  simp only [Act.put, List.setIfInBounds_toArray, List.set_cons_zero, List.set_cons_succ]
  refine wpAnyH_take (i := 12) (oi := ?o12_7) (v := ?v12_7) ?hi12_7 (by kernel_rfl) (by kernel_rfl) (by kernel_rfl) ?hQ12_7 ?hy12_7 (Below.drew (Below.refl _ _)) ?more12_7
  case hi12_7 => rw [List.getElem?_toArray]; exact rfl
  case hQ12_7 => exact fun _ _ _ h => h
  case hy12_7 =>
    refine Or.inl ⟨by rfl, ?_⟩
    intro w' hSw
    obtain ⟨sm0, sm1, sm2, sm3⟩ := (FieldB.call HS7.out hSw).1.facts
    obtain ⟨sg0, sg1, sg2, sg3⟩ := (FieldB.call HS7.out hSw).gap
    clear hSw
    go_simp
    try with_reducible rfl
  simp only [Act.put, List.setIfInBounds_toArray, List.set_cons_zero, List.set_cons_succ]
  refine wpAnyH_take (i := 13) (oi := ?o13_7) (v := ?v13_7) ?hi13_7 (by kernel_rfl) (by kernel_rfl) (by kernel_rfl) ?hQ13_7 ?hy13_7 (Below.drew (Below.refl _ _)) ?more13_7
  case hi13_7 => rw [List.getElem?_toArray]; exact rfl
  case hQ13_7 => exact fun _ _ _ h => h
  case hy13_7 =>
    refine Or.inl ⟨by rfl, ?_⟩
    intro w' hSw
    obtain ⟨⟨aa0, aa1, aa2, aa3⟩, aaz⟩ := (NS.call HA7.out hSw).facts
    clear hSw
    go_simp
    try with_reducible rfl
  simp only [Act.put, List.setIfInBounds_toArray, List.set_cons_zero, List.set_cons_succ]
  refine wpAnyH_take (i := 14) (oi := ?o14_7) (v := ?v14_7) ?hi14_7 (by kernel_rfl) (by kernel_rfl) (by kernel_rfl) ?hQ14_7 ?hy14_7 (Below.drew (Below.refl _ _)) ?more14_7
  case hi14_7 => rw [List.getElem?_toArray]; exact rfl
  case hQ14_7 => exact fun _ _ _ h => h
  case hy14_7 =>
    refine Or.inl ⟨by rfl, ?_⟩
    intro w' hSw
    obtain ⟨⟨bb0, bb1, bb2, bb3⟩, bbz⟩ := (NS.call HB7.out hSw).facts
    clear hSw
    go_simp
    try with_reducible rfl
  simp only [Act.put, List.setIfInBounds_toArray, List.set_cons_zero, List.set_cons_succ]
  refine wpAnyH_one (i := 15) (o := ?o15_7) (by kernel_rfl) ?hi15_7 ?hw15_7 ?st15_7
  case hi15_7 => rw [List.getElem?_toArray]; exact rfl
  case hw15_7 => exact rfl
  intro K hK
  have HK15 : Hid _ := hK
  clear hK
  go_simp
  refine (K8.out _).mono ?_
  rintro e wr7_1 ⟨rfl, hq⟩
  have HB7_1 : Hid (Below w7.heap.size w7 wr7_1) := below_call0 (Below.drew (Below.refl _ _)) hq
  clear hq
  go_wp2_with fail
  refine HK15.out _ _ ⟨HB7_1.out, ?_⟩
  clear HK15 K
  try simp only [Act.put, List.setIfInBounds_toArray, List.set_cons_zero, List.set_cons_succ]
  refine wpAnyH_take (i := 16) (oi := ?o16_7) (v := ?v16_7) ?hi16_7 (by kernel_rfl) (by kernel_rfl) (by kernel_rfl) ?hQ16_7 ?hy16_7 HB7_1.out ?more16_7
  case hi16_7 => rw [List.getElem?_toArray]; exact rfl
  case hQ16_7 => exact fun _ _ _ h => h
  case hy16_7 =>
    refine Or.inl ⟨by rfl, ?_⟩
    intro w' hSw
    clear hSw
    go_simp
    try with_reducible rfl
  simp only [Act.put, List.setIfInBounds_toArray, List.set_cons_zero, List.set_cons_succ]
  refine wpAnyH_take (i := 17) (oi := ?o17_7) (v := ?v17_7) ?hi17_7 (by kernel_rfl) (by kernel_rfl) (by kernel_rfl) ?hQ17_7 ?hy17_7 HB7_1.out ?more17_7
  case hi17_7 => rw [List.getElem?_toArray]; exact rfl
  case hQ17_7 => exact fun _ _ _ h => h
  case hy17_7 =>
    refine Or.inl ⟨by rfl, ?_⟩
    intro w' hSw
    clear hSw
    go_simp
    try with_reducible rfl
  simp only [Act.put, List.setIfInBounds_toArray, List.set_cons_zero, List.set_cons_succ]
  refine wpAnyH_take (i := 18) (oi := ?o18_7) (v := ?v18_7) ?hi18_7 (by kernel_rfl) (by kernel_rfl) (by kernel_rfl) ?hQ18_7 ?hy18_7 HB7_1.out ?more18_7
  case hi18_7 => rw [List.getElem?_toArray]; exact rfl
  case hQ18_7 => exact fun _ _ _ h => h
  case hy18_7 =>
    refine Or.inl ⟨by rfl, ?_⟩
    intro w' hSw
    clear hSw
    go_simp
    try with_reducible rfl
  simp only [Act.put, List.setIfInBounds_toArray, List.set_cons_zero, List.set_cons_succ]
  refine wpAnyH_take (i := 19) (oi := ?o19_7) (v := ?v19_7) ?hi19_7 (by kernel_rfl) (by kernel_rfl) (by kernel_rfl) ?hQ19_7 ?hy19_7 HB7_1.out ?more19_7
  case hi19_7 => rw [List.getElem?_toArray]; exact rfl
  case hQ19_7 => exact fun _ _ _ h => h
  case hy19_7 =>
    refine Or.inl ⟨by rfl, ?_⟩
    intro w' hSw
    clear hSw
    go_simp
    try with_reducible rfl
  simp only [Act.put, List.setIfInBounds_toArray, List.set_cons_zero, List.set_cons_succ]
  refine wpAnyH_one (i := 20) (o := ?o20_7) (by kernel_rfl) ?hi20_7 ?hw20_7 ?st20_7
  case hi20_7 => rw [List.getElem?_toArray]; exact rfl
  case hw20_7 => exact rfl
  intro K hK
  have HK20 : Hid _ := hK
  clear hK
  go_simp
  refine (half_any _ (Glob.call HG7.out HB7_1.out)).mono ?_
  rintro e w8 ⟨rfl, hq⟩
  have HB7_2 : Hid (Below w7.heap.size w7 w8) := below_call0 HB7_1.out hq
  clear hq
  go_wp2_with fail
  refine HK20.out _ _ ⟨HB7_2.out, ?_⟩
  clear HK20 K
  try simp only [Act.put, List.setIfInBounds_toArray, List.set_cons_zero, List.set_cons_succ]
  refine wpAnyH_take (i := 21) (oi := ?o21_7) (v := ?v21_7) ?hi21_7 (by kernel_rfl) (by kernel_rfl) (by kernel_rfl) ?hQ21_7 ?hy21_7 HB7_2.out ?more21_7
  case hi21_7 => rw [List.getElem?_toArray]; exact rfl
  case hQ21_7 => exact fun _ _ _ h => h
  case hy21_7 =>
    refine Or.inl ⟨by rfl, ?_⟩
    intro w' hSw
    clear hSw
    go_simp
    try with_reducible rfl
  simp only [Act.put, List.setIfInBounds_toArray, List.set_cons_zero, List.set_cons_succ]
  refine wpAnyH_take (i := 22) (oi := ?o22_7) (v := ?v22_7) ?hi22_7 (by kernel_rfl) (by kernel_rfl) (by kernel_rfl) ?hQ22_7 ?hy22_7 HB7_2.out ?more22_7
  case hi22_7 => rw [List.getElem?_toArray]; exact rfl
  case hQ22_7 => exact fun _ _ _ h => h
  case hy22_7 =>
    refine Or.inl ⟨by rfl, ?_⟩
    intro w' hSw
    clear hSw
    go_simp
    try with_reducible rfl
  simp only [Act.put, List.setIfInBounds_toArray, List.set_cons_zero, List.set_cons_succ]
  refine wpAnyH_done (by kernel_rfl) ?_ _
  have HA8 : Hid (NS w8 (w.heap.size) a) := NS.call HA7.out HB7_2.out
  have HB8 : Hid (NS w8 (w.heap.size + 1) b) := NS.call HB7.out HB7_2.out
  have HP8 : Hid (NS w8 (w2.heap.size) p) := NS.call HP7.out HB7_2.out
  have HV8 : Hid (NS w8 (w3.heap.size) v) := NS.call HV7.out HB7_2.out
  have HJ8 : Hid (NS w8 (w4.heap.size) v) := NS.call HJ7.out HB7_2.out
  have HY8 : Hid (NS w8 (w5.heap.size) y) := NS.call HY7.out HB7_2.out
  have HZ8 : Hid (NS w8 (w6.heap.size) y) := NS.call HZ7.out HB7_2.out
  have HG8 : Hid (Glob w8) := Glob.call HG7.out HB7_2.out
  have HF8 : Hid (FieldB w8 g m) := FieldB.call HF7.out HB7_2.out
  have HS8 : Hid (FieldB w8 w1.heap.size m) := FieldB.call HS7.out HB7_2.out
  have HW8 : Hid (Below w.heap.size w w8) := below_call0 HW7.out HB7_2.out
  clear HA7 HB7 HP7 HV7 HJ7 HY7 HZ7 HW7 HG7 HF7 HS7 HB7_1 HB7_2
  go_wp2_with fail
  go_ret
  exact ⟨rfl, HW8.out⟩

set_option maxRecDepth 100000 in
set_option maxHeartbeats 8000000 in
theorem powers_no (base : Bool) (m a b p v y : Nat) (c2 c4 : Int)
    (k1 : ∀ w, Glob w → GlobQ w → Calls Tryd.prog 9 #[.bool base] w fun e w' => ∃ g, e = .returned (.tuple #[.pointer (some ⟨g, 0, none⟩), .agg #[.int .u64 (limb m 0 : Nat), .int .u64 (limb m 1 : Nat), .int .u64 (limb m 2 : Nat), .int .u64 (limb m 3 : Nat), .int .u64 (limb (R256 - m) 0 : Nat), .int .u64 (limb (R256 - m) 1 : Nat), .int .u64 (limb (R256 - m) 2 : Nat), .int .u64 (limb (R256 - m) 3 : Nat)]]) ∧ FieldB w' g m ∧ Below w.heap.size w w')
    (k2 : ∀ (g : Nat) (w : World), FieldB w g m → Calls Tryd.prog 26 #[.pointer (some ⟨g, 0, none⟩), .agg #[.int .u64 (limb (a) 0 : Nat), .int .u64 (limb (a) 1 : Nat), .int .u64 (limb (a) 2 : Nat), .int .u64 (limb (a) 3 : Nat)], .agg #[.int .u64 (limb (b) 0 : Nat), .int .u64 (limb (b) 1 : Nat), .int .u64 (limb (b) 2 : Nat), .int .u64 (limb (b) 3 : Nat)]] w fun e w' => e = .returned (.tuple #[.agg #[.int .u64 (limb (p) 0 : Nat), .int .u64 (limb (p) 1 : Nat), .int .u64 (limb (p) 2 : Nat), .int .u64 (limb (p) 3 : Nat)], .int .i64 20]) ∧ Below w.heap.size w w')
    (k3 : ∀ (g : Nat) (w : World), FieldB w g m → Calls Tryd.prog 27 #[.pointer (some ⟨g, 0, none⟩), .agg #[.int .u64 (limb (a) 0 : Nat), .int .u64 (limb (a) 1 : Nat), .int .u64 (limb (a) 2 : Nat), .int .u64 (limb (a) 3 : Nat)]] w fun e w' => e = .returned (.tuple #[.agg #[.int .u64 (limb (v) 0 : Nat), .int .u64 (limb (v) 1 : Nat), .int .u64 (limb (v) 2 : Nat), .int .u64 (limb (v) 3 : Nat)], .int .i64 c2]) ∧ Below w.heap.size w w')
    (k4 : ∀ w, Calls Tryd.prog 28 #[.agg #[.int .u64 (limb m 0 : Nat), .int .u64 (limb m 1 : Nat), .int .u64 (limb m 2 : Nat), .int .u64 (limb m 3 : Nat), .int .u64 (limb (R256 - m) 0 : Nat), .int .u64 (limb (R256 - m) 1 : Nat), .int .u64 (limb (R256 - m) 2 : Nat), .int .u64 (limb (R256 - m) 3 : Nat)], .agg #[.int .u64 (limb (a) 0 : Nat), .int .u64 (limb (a) 1 : Nat), .int .u64 (limb (a) 2 : Nat), .int .u64 (limb (a) 3 : Nat)]] w fun e w' => e = .returned (.tuple #[.agg #[.int .u64 (limb (v) 0 : Nat), .int .u64 (limb (v) 1 : Nat), .int .u64 (limb (v) 2 : Nat), .int .u64 (limb (v) 3 : Nat)], .int .i64 c2]) ∧ Below w.heap.size w w')
    (k5 : ∀ (g : Nat) (w : World), Glob w → FieldB w g m → Calls Tryd.prog 29 #[.pointer (some ⟨g, 0, none⟩), .agg #[.int .u64 (limb (a) 0 : Nat), .int .u64 (limb (a) 1 : Nat), .int .u64 (limb (a) 2 : Nat), .int .u64 (limb (a) 3 : Nat)]] w fun e w' => e = .returned (.tuple #[.agg #[.int .u64 (limb (y) 0 : Nat), .int .u64 (limb (y) 1 : Nat), .int .u64 (limb (y) 2 : Nat), .int .u64 (limb (y) 3 : Nat)], .int .i64 c4]) ∧ Below w.heap.size w w')
    (k6 : ∀ w, Calls Tryd.prog 30 #[.agg #[.int .u64 (limb m 0 : Nat), .int .u64 (limb m 1 : Nat), .int .u64 (limb m 2 : Nat), .int .u64 (limb m 3 : Nat), .int .u64 (limb (R256 - m) 0 : Nat), .int .u64 (limb (R256 - m) 1 : Nat), .int .u64 (limb (R256 - m) 2 : Nat), .int .u64 (limb (R256 - m) 3 : Nat)], .agg #[.int .u64 (limb (a) 0 : Nat), .int .u64 (limb (a) 1 : Nat), .int .u64 (limb (a) 2 : Nat), .int .u64 (limb (a) 3 : Nat)], .bool base] w fun e w' => e = .returned (.tuple #[.agg #[.int .u64 (limb (y) 0 : Nat), .int .u64 (limb (y) 1 : Nat), .int .u64 (limb (y) 2 : Nat), .int .u64 (limb (y) 3 : Nat)], .int .i64 c4]) ∧ Below w.heap.size w w')
    (k7 : ∀ w, Calls Tryd.prog 14 #[.agg #[.int .u64 (limb m 0 : Nat), .int .u64 (limb m 1 : Nat), .int .u64 (limb m 2 : Nat), .int .u64 (limb m 3 : Nat), .int .u64 (limb (R256 - m) 0 : Nat), .int .u64 (limb (R256 - m) 1 : Nat), .int .u64 (limb (R256 - m) 2 : Nat), .int .u64 (limb (R256 - m) 3 : Nat)], .agg #[.int .u64 (limb (a) 0 : Nat), .int .u64 (limb (a) 1 : Nat), .int .u64 (limb (a) 2 : Nat), .int .u64 (limb (a) 3 : Nat)]] w fun e w' => e = .returned (.bool false) ∧ Below w.heap.size w w')
    (zp : eq4 (limb p 0 : Nat) (limb p 1 : Nat) (limb p 2 : Nat) (limb p 3 : Nat) 0 0 0 0 = true)
    (w : World) (hG : Glob w) (hQ : GlobQ w) : Calls Tryd.prog 6 #[.bool base, .agg #[.int .u64 (limb (a) 0 : Nat), .int .u64 (limb (a) 1 : Nat), .int .u64 (limb (a) 2 : Nat), .int .u64 (limb (a) 3 : Nat)], .agg #[.int .u64 (limb (b) 0 : Nat), .int .u64 (limb (b) 1 : Nat), .int .u64 (limb (b) 2 : Nat), .int .u64 (limb (b) 3 : Nat)]] w fun e w' => e = .returned (.bool true) ∧ Below w.heap.size w w' := by
  have HG : Hid (Glob w ∧ GlobQ w) := ⟨hG, hQ⟩
  have K1 : Hid _ := k1
  have K2 : Hid _ := k2
  have K3 : Hid _ := k3
  have K4 : Hid _ := k4
  have K5 : Hid _ := k5
  have K6 : Hid _ := k6
  have K7 : Hid _ := k7
  have ev : eq4 (limb v 0 : Nat) (limb v 1 : Nat) (limb v 2 : Nat) (limb v 3 : Nat) (limb v 0 : Nat) (limb v 1 : Nat) (limb v 2 : Nat) (limb v 3 : Nat) = true := by simp [eq4]
  have ey : eq4 (limb y 0 : Nat) (limb y 1 : Nat) (limb y 2 : Nat) (limb y 3 : Nat) (limb y 0 : Nat) (limb y 1 : Nat) (limb y 2 : Nat) (limb y 3 : Nat) = true := by simp [eq4]
  clear hG hQ k1 k2 k3 k4 k5 k6 k7
  go_enter Tryd.func6, Tryd.ntmps6
  go_wp2_with fail
  refine (K1.out _ (Glob.alloc (Glob.alloc HG.out.1)) (GlobQ.alloc (GlobQ.alloc HG.out.2))).mono ?_
  rintro e w1 ⟨g, rfl, hF1, hb1⟩
  have HA1 : Hid (NS w1 (w.heap.size) a) := by
    have t := NS.call (W := _) (NS.alloc (NS.new _ _ _)) hb1
    try simp only [World.size_alloc] at t
    exact t
  have HB1 : Hid (NS w1 (w.heap.size + 1) b) := by
    have t := NS.call (W := _) (NS.new _ _ _) hb1
    try simp only [World.size_alloc] at t
    exact t
  have HW1 : Hid (Below w.heap.size w w1) := below_call0 (below_alloc0 (below_alloc0 (Below.refl _ _) _) _) hb1
  have HG1 : Hid (Glob w1) := Glob.call (Glob.alloc (Glob.alloc HG.out.1)) hb1
  have HF1 : Hid (FieldB w1 g m) := hF1
  clear hb1
  clear hF1
  obtain ⟨⟨aa0, aa1, aa2, aa3⟩, aaz⟩ := HA1.out.facts
  obtain ⟨⟨bb0, bb1, bb2, bb3⟩, bbz⟩ := HB1.out.facts
  go_wp2_with fail
  refine (K2.out g _ (FieldB.alloc HF1.out)).mono ?_
  rintro e w2 ⟨rfl, hb2⟩
  have HA2 : Hid (NS w2 (w.heap.size) a) := NS.acall HA1.out hb2
  have HB2 : Hid (NS w2 (w.heap.size + 1) b) := NS.acall HB1.out hb2
  have HW2 : Hid (Below w.heap.size w w2) := below_acall HW1.out hb2
  have HG2 : Hid (Glob w2) := Glob.call (Glob.alloc HG1.out) hb2
  have HF2 : Hid (FieldB w2 g m) := FieldB.call (FieldB.alloc HF1.out) hb2
  have HS2 : Hid (FieldB w2 w1.heap.size m) := FieldB.call (FieldB.new w1 m _) hb2
  clear hb2
  clear HA1 HB1 HW1 HG1 HF1
  clear aa0 aa1 aa2 aa3 aaz bb0 bb1 bb2 bb3 bbz
  obtain ⟨⟨aa0, aa1, aa2, aa3⟩, aaz⟩ := HA2.out.facts
  go_wp2_with fail
  refine (K3.out g _ (FieldB.alloc HF2.out)).mono ?_
  rintro e w3 ⟨rfl, hb3⟩
  have HA3 : Hid (NS w3 (w.heap.size) a) := NS.acall HA2.out hb3
  have HB3 : Hid (NS w3 (w.heap.size + 1) b) := NS.acall HB2.out hb3
  have HP3 : Hid (NS w3 w2.heap.size p) := NS.ncall hb3
  have HW3 : Hid (Below w.heap.size w w3) := below_acall HW2.out hb3
  have HG3 : Hid (Glob w3) := Glob.call (Glob.alloc HG2.out) hb3
  have HF3 : Hid (FieldB w3 g m) := FieldB.call (FieldB.alloc HF2.out) hb3
  have HS3 : Hid (FieldB w3 w1.heap.size m) := FieldB.call (FieldB.alloc HS2.out) hb3
  clear hb3
  clear HA2 HB2 HW2 HG2 HF2 HS2
  clear aa0 aa1 aa2 aa3 aaz
  obtain ⟨⟨aa0, aa1, aa2, aa3⟩, aaz⟩ := HA3.out.facts
  obtain ⟨sm0, sm1, sm2, sm3⟩ := (HS3.out).1.facts
  obtain ⟨sg0, sg1, sg2, sg3⟩ := (HS3.out).gap
  have sz := (HS3.out).2.2
  go_wp2_with fail
  refine (K4.out _).mono ?_
  rintro e w4 ⟨rfl, hb4⟩
  have HA4 : Hid (NS w4 (w.heap.size) a) := NS.acall HA3.out hb4
  have HB4 : Hid (NS w4 (w.heap.size + 1) b) := NS.acall HB3.out hb4
  have HP4 : Hid (NS w4 (w2.heap.size) p) := NS.acall HP3.out hb4
  have HV4 : Hid (NS w4 w3.heap.size v) := NS.ncall hb4
  have HW4 : Hid (Below w.heap.size w w4) := below_acall HW3.out hb4
  have HG4 : Hid (Glob w4) := Glob.call (Glob.alloc HG3.out) hb4
  have HF4 : Hid (FieldB w4 g m) := FieldB.call (FieldB.alloc HF3.out) hb4
  have HS4 : Hid (FieldB w4 w1.heap.size m) := FieldB.call (FieldB.alloc HS3.out) hb4
  clear hb4
  clear HA3 HB3 HP3 HW3 HG3 HF3 HS3
  clear aa0 aa1 aa2 aa3 aaz sm0 sg0 sm1 sg1 sm2 sg2 sm3 sg3 sz
  obtain ⟨⟨aa0, aa1, aa2, aa3⟩, aaz⟩ := HA4.out.facts
  go_wp2_with fail
  refine (K5.out g _ (Glob.alloc HG4.out) (FieldB.alloc HF4.out)).mono ?_
  rintro e w5 ⟨rfl, hb5⟩
  have HA5 : Hid (NS w5 (w.heap.size) a) := NS.acall HA4.out hb5
  have HB5 : Hid (NS w5 (w.heap.size + 1) b) := NS.acall HB4.out hb5
  have HP5 : Hid (NS w5 (w2.heap.size) p) := NS.acall HP4.out hb5
  have HV5 : Hid (NS w5 (w3.heap.size) v) := NS.acall HV4.out hb5
  have HJ5 : Hid (NS w5 w4.heap.size v) := NS.ncall hb5
  have HW5 : Hid (Below w.heap.size w w5) := below_acall HW4.out hb5
  have HG5 : Hid (Glob w5) := Glob.call (Glob.alloc HG4.out) hb5
  have HF5 : Hid (FieldB w5 g m) := FieldB.call (FieldB.alloc HF4.out) hb5
  have HS5 : Hid (FieldB w5 w1.heap.size m) := FieldB.call (FieldB.alloc HS4.out) hb5
  clear hb5
  clear HA4 HB4 HP4 HV4 HW4 HG4 HF4 HS4
  clear aa0 aa1 aa2 aa3 aaz
  obtain ⟨⟨aa0, aa1, aa2, aa3⟩, aaz⟩ := HA5.out.facts
  obtain ⟨sm0, sm1, sm2, sm3⟩ := (HS5.out).1.facts
  obtain ⟨sg0, sg1, sg2, sg3⟩ := (HS5.out).gap
  have sz := (HS5.out).2.2
  go_wp2_with fail
  refine (K6.out _).mono ?_
  rintro e w6 ⟨rfl, hb6⟩
  have HA6 : Hid (NS w6 (w.heap.size) a) := NS.acall HA5.out hb6
  have HB6 : Hid (NS w6 (w.heap.size + 1) b) := NS.acall HB5.out hb6
  have HP6 : Hid (NS w6 (w2.heap.size) p) := NS.acall HP5.out hb6
  have HV6 : Hid (NS w6 (w3.heap.size) v) := NS.acall HV5.out hb6
  have HJ6 : Hid (NS w6 (w4.heap.size) v) := NS.acall HJ5.out hb6
  have HY6 : Hid (NS w6 w5.heap.size y) := NS.ncall hb6
  have HW6 : Hid (Below w.heap.size w w6) := below_acall HW5.out hb6
  have HG6 : Hid (Glob w6) := Glob.call (Glob.alloc HG5.out) hb6
  have HF6 : Hid (FieldB w6 g m) := FieldB.call (FieldB.alloc HF5.out) hb6
  have HS6 : Hid (FieldB w6 w1.heap.size m) := FieldB.call (FieldB.alloc HS5.out) hb6
  clear hb6
  clear HA5 HB5 HP5 HV5 HJ5 HW5 HG5 HF5 HS5
  clear aa0 aa1 aa2 aa3 aaz sm0 sg0 sm1 sg1 sm2 sg2 sm3 sg3 sz
  obtain ⟨⟨aa0, aa1, aa2, aa3⟩, aaz⟩ := HA6.out.facts
  obtain ⟨⟨vv0, vv1, vv2, vv3⟩, vvz⟩ := HV6.out.facts
  obtain ⟨⟨jj0, jj1, jj2, jj3⟩, jjz⟩ := HJ6.out.facts
  obtain ⟨⟨yy0, yy1, yy2, yy3⟩, yyz⟩ := HY6.out.facts
  obtain ⟨sm0, sm1, sm2, sm3⟩ := (HS6.out).1.facts
  obtain ⟨sg0, sg1, sg2, sg3⟩ := (HS6.out).gap
  have sz := (HS6.out).2.2
  go_wp2_with fail
  refine (K7.out _).mono ?_
  rintro e w7 ⟨rfl, hb7⟩
  have HA7 : Hid (NS w7 (w.heap.size) a) := NS.acall HA6.out hb7
  have HB7 : Hid (NS w7 (w.heap.size + 1) b) := NS.acall HB6.out hb7
  have HP7 : Hid (NS w7 (w2.heap.size) p) := NS.acall HP6.out hb7
  have HV7 : Hid (NS w7 (w3.heap.size) v) := NS.acall HV6.out hb7
  have HJ7 : Hid (NS w7 (w4.heap.size) v) := NS.acall HJ6.out hb7
  have HY7 : Hid (NS w7 (w5.heap.size) y) := NS.acall HY6.out hb7
  have HZ7 : Hid (NS w7 w6.heap.size y) := NS.ncall hb7
  have HW7 : Hid (Below w.heap.size w w7) := below_acall HW6.out hb7
  have HG7 : Hid (Glob w7) := Glob.call (Glob.alloc HG6.out) hb7
  have HF7 : Hid (FieldB w7 g m) := FieldB.call (FieldB.alloc HF6.out) hb7
  have HS7 : Hid (FieldB w7 w1.heap.size m) := FieldB.call (FieldB.alloc HS6.out) hb7
  clear hb7
  clear HA6 HB6 HP6 HV6 HJ6 HY6 HW6 HG6 HF6 HS6
  clear aa0 aa1 aa2 aa3 aaz vv0 vv1 vv2 vv3 vvz jj0 jj1 jj2 jj3 jjz yy0 yy1 yy2 yy3 yyz sm0 sg0 sm1 sg1 sm2 sg2 sm3 sg3 sz
  go_wp2_with fail
  refine wp_region_H (fun w' => Below w7.heap.size w7 w') 23 rfl (by kernel_rfl) ?_
  refine wpAnyH_take (i := 0) (oi := ?o0_7) (v := ?v0_7) ?hi0_7 (by kernel_rfl) (by kernel_rfl) (by kernel_rfl) ?hQ0_7 ?hy0_7 (Below.drew (Below.refl _ _)) ?more0_7
  case hi0_7 => rw [List.getElem?_toArray]; exact rfl
  case hQ0_7 => exact fun _ _ _ h => h
  case hy0_7 =>
    refine Or.inl ⟨by rfl, ?_⟩
    intro w' hSw
    clear hSw
    go_simp
    try with_reducible rfl
  simp only [Act.put, List.setIfInBounds_toArray, List.set_cons_zero, List.set_cons_succ]
  refine wpAnyH_take (i := 1) (oi := ?o1_7) (v := ?v1_7) ?hi1_7 (by kernel_rfl) (by kernel_rfl) (by kernel_rfl) ?hQ1_7 ?hy1_7 (Below.drew (Below.refl _ _)) ?more1_7
  case hi1_7 => rw [List.getElem?_toArray]; exact rfl
  case hQ1_7 => exact fun _ _ _ h => h
  case hy1_7 =>
    refine Or.inl ⟨by rfl, ?_⟩
    intro w' hSw
    clear hSw
    go_simp
    try with_reducible rfl
  simp only [Act.put, List.setIfInBounds_toArray, List.set_cons_zero, List.set_cons_succ]
  refine wpAnyH_take (i := 2) (oi := ?o2_7) (v := ?v2_7) ?hi2_7 (by kernel_rfl) (by kernel_rfl) (by kernel_rfl) ?hQ2_7 ?hy2_7 (Below.drew (Below.refl _ _)) ?more2_7
  case hi2_7 => rw [List.getElem?_toArray]; exact rfl
  case hQ2_7 => exact fun _ _ _ h => h
  case hy2_7 =>
    refine Or.inl ⟨by rfl, ?_⟩
    intro w' hSw
    clear hSw
    go_simp
    try with_reducible rfl
  simp only [Act.put, List.setIfInBounds_toArray, List.set_cons_zero, List.set_cons_succ]
  refine wpAnyH_take (i := 3) (oi := ?o3_7) (v := ?v3_7) ?hi3_7 (by kernel_rfl) (by kernel_rfl) (by kernel_rfl) ?hQ3_7 ?hy3_7 (Below.drew (Below.refl _ _)) ?more3_7
  case hi3_7 => rw [List.getElem?_toArray]; exact rfl
  case hQ3_7 => exact fun _ _ _ h => h
  case hy3_7 =>
    refine Or.inl ⟨by rfl, ?_⟩
    intro w' hSw
    obtain ⟨⟨pp0, pp1, pp2, pp3⟩, ppz⟩ := (NS.call HP7.out hSw).facts
    clear hSw
    go_simp
    try with_reducible rfl
  simp only [Act.put, List.setIfInBounds_toArray, List.set_cons_zero, List.set_cons_succ]
  refine wpAnyH_take (i := 4) (oi := ?o4_7) (v := ?v4_7) ?hi4_7 (by kernel_rfl) (by kernel_rfl) (by kernel_rfl) ?hQ4_7 ?hy4_7 (Below.drew (Below.refl _ _)) ?more4_7
  case hi4_7 => rw [List.getElem?_toArray]; exact rfl
  case hQ4_7 => exact fun _ _ _ h => h
  case hy4_7 =>
    refine Or.inl ⟨by rfl, ?_⟩
    intro w' hSw
    clear hSw
    go_simp
    try with_reducible rfl
  simp only [Act.put, List.setIfInBounds_toArray, List.set_cons_zero, List.set_cons_succ]
  refine wpAnyH_take (i := 5) (oi := ?o5_7) (v := ?v5_7) ?hi5_7 (by kernel_rfl) (by kernel_rfl) (by kernel_rfl) ?hQ5_7 ?hy5_7 (Below.drew (Below.refl _ _)) ?more5_7
  case hi5_7 => rw [List.getElem?_toArray]; exact rfl
  case hQ5_7 => exact fun _ _ _ h => h
  case hy5_7 =>
    refine Or.inl ⟨by rfl, ?_⟩
    intro w' hSw
    clear hSw
    go_simp
    try with_reducible rfl
  simp only [Act.put, List.setIfInBounds_toArray, List.set_cons_zero, List.set_cons_succ]
  refine wpAnyH_take (i := 6) (oi := ?o6_7) (v := ?v6_7) ?hi6_7 (by kernel_rfl) (by kernel_rfl) (by kernel_rfl) ?hQ6_7 ?hy6_7 (Below.drew (Below.refl _ _)) ?more6_7
  case hi6_7 => rw [List.getElem?_toArray]; exact rfl
  case hQ6_7 => exact fun _ _ _ h => h
  case hy6_7 =>
    refine Or.inl ⟨by rfl, ?_⟩
    intro w' hSw
    clear hSw
    go_simp
    try with_reducible rfl
  simp only [Act.put, List.setIfInBounds_toArray, List.set_cons_zero, List.set_cons_succ]
  refine wpAnyH_take (i := 7) (oi := ?o7_7) (v := ?v7_7) ?hi7_7 (by kernel_rfl) (by kernel_rfl) (by kernel_rfl) ?hQ7_7 ?hy7_7 (Below.drew (Below.refl _ _)) ?more7_7
  case hi7_7 => rw [List.getElem?_toArray]; exact rfl
  case hQ7_7 => exact fun _ _ _ h => h
  case hy7_7 =>
    refine Or.inl ⟨by rfl, ?_⟩
    intro w' hSw
    clear hSw
    go_simp
    try with_reducible rfl
  simp only [Act.put, List.setIfInBounds_toArray, List.set_cons_zero, List.set_cons_succ]
  refine wpAnyH_take (i := 8) (oi := ?o8_7) (v := undef) ?hi8_7 (by kernel_rfl) (by kernel_rfl) (by kernel_rfl) ?hQ8_7 ?hy8_7 (Below.drew (Below.refl _ _)) ?more8_7
  case hi8_7 => rw [List.getElem?_toArray]; exact rfl
  case hQ8_7 => exact fun _ _ _ h => h
  case hy8_7 =>
    exact Or.inr ⟨by rfl, rfl⟩
  simp only [Act.put, List.setIfInBounds_toArray, List.set_cons_zero, List.set_cons_succ]
  refine wpAnyH_take (i := 9) (oi := ?o9_7) (v := undef) ?hi9_7 (by kernel_rfl) (by kernel_rfl) (by kernel_rfl) ?hQ9_7 ?hy9_7 (Below.drew (Below.refl _ _)) ?more9_7
  case hi9_7 => rw [List.getElem?_toArray]; exact rfl
  case hQ9_7 => exact fun _ _ _ h => h
  case hy9_7 =>
    exact Or.inr ⟨by rfl, rfl⟩
  simp only [Act.put, List.setIfInBounds_toArray, List.set_cons_zero, List.set_cons_succ]
  refine wpAnyH_take (i := 10) (oi := ?o10_7) (v := undef) ?hi10_7 (by kernel_rfl) (by kernel_rfl) (by kernel_rfl) ?hQ10_7 ?hy10_7 (Below.drew (Below.refl _ _)) ?more10_7
  case hi10_7 => rw [List.getElem?_toArray]; exact rfl
  case hQ10_7 => exact fun _ _ _ h => h
  case hy10_7 =>
    exact Or.inr ⟨by rfl, rfl⟩
  simp only [Act.put, List.setIfInBounds_toArray, List.set_cons_zero, List.set_cons_succ]
  refine wpAnyH_take (i := 11) (oi := ?o11_7) (v := undef) ?hi11_7 (by kernel_rfl) (by kernel_rfl) (by kernel_rfl) ?hQ11_7 ?hy11_7 (Below.drew (Below.refl _ _)) ?more11_7
  case hi11_7 => rw [List.getElem?_toArray]; exact rfl
  case hQ11_7 => exact fun _ _ _ h => h
  case hy11_7 =>
    exact Or.inr ⟨by rfl, rfl⟩
  simp only [Act.put, List.setIfInBounds_toArray, List.set_cons_zero, List.set_cons_succ]
  refine wpAnyH_take (i := 12) (oi := ?o12_7) (v := undef) ?hi12_7 (by kernel_rfl) (by kernel_rfl) (by kernel_rfl) ?hQ12_7 ?hy12_7 (Below.drew (Below.refl _ _)) ?more12_7
  case hi12_7 => rw [List.getElem?_toArray]; exact rfl
  case hQ12_7 => exact fun _ _ _ h => h
  case hy12_7 =>
    exact Or.inr ⟨by rfl, rfl⟩
  simp only [Act.put, List.setIfInBounds_toArray, List.set_cons_zero, List.set_cons_succ]
  refine wpAnyH_take (i := 13) (oi := ?o13_7) (v := undef) ?hi13_7 (by kernel_rfl) (by kernel_rfl) (by kernel_rfl) ?hQ13_7 ?hy13_7 (Below.drew (Below.refl _ _)) ?more13_7
  case hi13_7 => rw [List.getElem?_toArray]; exact rfl
  case hQ13_7 => exact fun _ _ _ h => h
  case hy13_7 =>
    exact Or.inr ⟨by rfl, rfl⟩
  simp only [Act.put, List.setIfInBounds_toArray, List.set_cons_zero, List.set_cons_succ]
  refine wpAnyH_take (i := 14) (oi := ?o14_7) (v := undef) ?hi14_7 (by kernel_rfl) (by kernel_rfl) (by kernel_rfl) ?hQ14_7 ?hy14_7 (Below.drew (Below.refl _ _)) ?more14_7
  case hi14_7 => rw [List.getElem?_toArray]; exact rfl
  case hQ14_7 => exact fun _ _ _ h => h
  case hy14_7 =>
    exact Or.inr ⟨by rfl, rfl⟩
  simp only [Act.put, List.setIfInBounds_toArray, List.set_cons_zero, List.set_cons_succ]
  refine wpAnyH_take (i := 15) (oi := ?o15_7) (v := undef) ?hi15_7 (by kernel_rfl) (by kernel_rfl) (by kernel_rfl) ?hQ15_7 ?hy15_7 (Below.drew (Below.refl _ _)) ?more15_7
  case hi15_7 => rw [List.getElem?_toArray]; exact rfl
  case hQ15_7 => exact fun _ _ _ h => h
  case hy15_7 =>
    exact Or.inr ⟨by rfl, rfl⟩
  simp only [Act.put, List.setIfInBounds_toArray, List.set_cons_zero, List.set_cons_succ]
  refine wpAnyH_take (i := 16) (oi := ?o16_7) (v := undef) ?hi16_7 (by kernel_rfl) (by kernel_rfl) (by kernel_rfl) ?hQ16_7 ?hy16_7 (Below.drew (Below.refl _ _)) ?more16_7
  case hi16_7 => rw [List.getElem?_toArray]; exact rfl
  case hQ16_7 => exact fun _ _ _ h => h
  case hy16_7 =>
    exact Or.inr ⟨by rfl, rfl⟩
  simp only [Act.put, List.setIfInBounds_toArray, List.set_cons_zero, List.set_cons_succ]
  refine wpAnyH_take (i := 17) (oi := ?o17_7) (v := undef) ?hi17_7 (by kernel_rfl) (by kernel_rfl) (by kernel_rfl) ?hQ17_7 ?hy17_7 (Below.drew (Below.refl _ _)) ?more17_7
  case hi17_7 => rw [List.getElem?_toArray]; exact rfl
  case hQ17_7 => exact fun _ _ _ h => h
  case hy17_7 =>
    exact Or.inr ⟨by rfl, rfl⟩
  simp only [Act.put, List.setIfInBounds_toArray, List.set_cons_zero, List.set_cons_succ]
  refine wpAnyH_take (i := 18) (oi := ?o18_7) (v := ?v18_7) ?hi18_7 (by kernel_rfl) (by kernel_rfl) (by kernel_rfl) ?hQ18_7 ?hy18_7 (Below.drew (Below.refl _ _)) ?more18_7
  case hi18_7 => rw [List.getElem?_toArray]; exact rfl
  case hQ18_7 => exact fun _ _ _ h => h
  case hy18_7 =>
    refine Or.inl ⟨by rfl, ?_⟩
    intro w' hSw
    clear hSw
    go_simp
    try with_reducible rfl
  simp only [Act.put, List.setIfInBounds_toArray, List.set_cons_zero, List.set_cons_succ]
  refine wpAnyH_take (i := 19) (oi := ?o19_7) (v := ?v19_7) ?hi19_7 (by kernel_rfl) (by kernel_rfl) (by kernel_rfl) ?hQ19_7 ?hy19_7 (Below.drew (Below.refl _ _)) ?more19_7
  case hi19_7 => rw [List.getElem?_toArray]; exact rfl
  case hQ19_7 => exact fun _ _ _ h => h
  case hy19_7 =>
    refine Or.inl ⟨by rfl, ?_⟩
    intro w' hSw
    clear hSw
    go_simp
    try with_reducible rfl
  simp only [Act.put, List.setIfInBounds_toArray, List.set_cons_zero, List.set_cons_succ]
  refine wpAnyH_one (i := 20) (o := ?o20_7) (by kernel_rfl) ?hi20_7 ?hw20_7 ?st20_7
  case hi20_7 => rw [List.getElem?_toArray]; exact rfl
  case hw20_7 => exact rfl
  intro K hK
  have HK20 : Hid _ := hK
  clear hK
  go_simp
  refine (half_any _ (Glob.call HG7.out (Below.drew (Below.refl _ _)))).mono ?_
  rintro e w8 ⟨rfl, hq⟩
  have HB7_1 : Hid (Below w7.heap.size w7 w8) := below_call0 (Below.drew (Below.refl _ _)) hq
  clear hq
  go_wp2_with fail
  refine HK20.out _ _ ⟨HB7_1.out, ?_⟩
  clear HK20 K
  try simp only [Act.put, List.setIfInBounds_toArray, List.set_cons_zero, List.set_cons_succ]
  refine wpAnyH_take (i := 21) (oi := ?o21_7) (v := ?v21_7) ?hi21_7 (by kernel_rfl) (by kernel_rfl) (by kernel_rfl) ?hQ21_7 ?hy21_7 HB7_1.out ?more21_7
  case hi21_7 => rw [List.getElem?_toArray]; exact rfl
  case hQ21_7 => exact fun _ _ _ h => h
  case hy21_7 =>
    refine Or.inl ⟨by rfl, ?_⟩
    intro w' hSw
    clear hSw
    go_simp
    try with_reducible rfl
  simp only [Act.put, List.setIfInBounds_toArray, List.set_cons_zero, List.set_cons_succ]
  refine wpAnyH_take (i := 22) (oi := ?o22_7) (v := ?v22_7) ?hi22_7 (by kernel_rfl) (by kernel_rfl) (by kernel_rfl) ?hQ22_7 ?hy22_7 HB7_1.out ?more22_7
  case hi22_7 => rw [List.getElem?_toArray]; exact rfl
  case hQ22_7 => exact fun _ _ _ h => h
  case hy22_7 =>
    refine Or.inl ⟨by rfl, ?_⟩
    intro w' hSw
    clear hSw
    go_simp
    try with_reducible rfl
  simp only [Act.put, List.setIfInBounds_toArray, List.set_cons_zero, List.set_cons_succ]
  refine wpAnyH_done (by kernel_rfl) ?_ _
  have HA8 : Hid (NS w8 (w.heap.size) a) := NS.call HA7.out HB7_1.out
  have HB8 : Hid (NS w8 (w.heap.size + 1) b) := NS.call HB7.out HB7_1.out
  have HP8 : Hid (NS w8 (w2.heap.size) p) := NS.call HP7.out HB7_1.out
  have HV8 : Hid (NS w8 (w3.heap.size) v) := NS.call HV7.out HB7_1.out
  have HJ8 : Hid (NS w8 (w4.heap.size) v) := NS.call HJ7.out HB7_1.out
  have HY8 : Hid (NS w8 (w5.heap.size) y) := NS.call HY7.out HB7_1.out
  have HZ8 : Hid (NS w8 (w6.heap.size) y) := NS.call HZ7.out HB7_1.out
  have HG8 : Hid (Glob w8) := Glob.call HG7.out HB7_1.out
  have HF8 : Hid (FieldB w8 g m) := FieldB.call HF7.out HB7_1.out
  have HS8 : Hid (FieldB w8 w1.heap.size m) := FieldB.call HS7.out HB7_1.out
  have HW8 : Hid (Below w.heap.size w w8) := below_call0 HW7.out HB7_1.out
  clear HA7 HB7 HP7 HV7 HJ7 HY7 HZ7 HW7 HG7 HF7 HS7 HB7_1
  go_wp2_with fail
  go_ret
  exact ⟨rfl, HW8.out⟩

theorem inv_pair (m a : Nat) (hF : FM m) (hS : FS m) (ha : a < R256) : ∃ (v : Nat) (c : Int), (∀ (g : Nat) (w : World), FieldB w g m → Calls Tryd.prog 27 #[.pointer (some ⟨g, 0, none⟩), .agg #[.int .u64 (limb (a) 0 : Nat), .int .u64 (limb (a) 1 : Nat), .int .u64 (limb (a) 2 : Nat), .int .u64 (limb (a) 3 : Nat)]] w fun e w' => e = .returned (.tuple #[.agg #[.int .u64 (limb (v) 0 : Nat), .int .u64 (limb (v) 1 : Nat), .int .u64 (limb (v) 2 : Nat), .int .u64 (limb (v) 3 : Nat)], .int .i64 c]) ∧ Below w.heap.size w w') ∧ (∀ w, Calls Tryd.prog 28 #[.agg #[.int .u64 (limb (m) 0 : Nat), .int .u64 (limb (m) 1 : Nat), .int .u64 (limb (m) 2 : Nat), .int .u64 (limb (m) 3 : Nat), .int .u64 (limb (R256 - (m)) 0 : Nat), .int .u64 (limb (R256 - (m)) 1 : Nat), .int .u64 (limb (R256 - (m)) 2 : Nat), .int .u64 (limb (R256 - (m)) 3 : Nat)], .agg #[.int .u64 (limb (a) 0 : Nat), .int .u64 (limb (a) 1 : Nat), .int .u64 (limb (a) 2 : Nat), .int .u64 (limb (a) 3 : Nat)]] w fun e w' => e = .returned (.tuple #[.agg #[.int .u64 (limb (v) 0 : Nat), .int .u64 (limb (v) 1 : Nat), .int .u64 (limb (v) 2 : Nat), .int .u64 (limb (v) 3 : Nat)], .int .i64 c]) ∧ Below w.heap.size w w') := by
  have hm := hF.2.1
  have m1 := hF.pos
  by_cases h : a < m
  · by_cases h0 : a = 0
    · subst h0
      have hz := zero2_any 0 ha
      rw [decide_eq_true rfl] at hz
      refine ⟨0, 21, fun g w hM => ?_, fun w => ?_⟩
      · rw [limb_nought, limb_nought, limb_nought, limb_nought]
        exact finv_zero g m hF w hM
      · have k := invert2_zero m 0 (has2_b m 0 true hm ha (decide_eq_true h)) hz w
        rw [limb_nought, limb_nought, limb_nought, limb_nought] at k ⊢
        exact k
    · have hz := zero2_any a ha
      rw [decide_eq_false h0] at hz
      exact ⟨a ^ (m - 2) % m, 0, fun g w hM => finv_in g m a _ hF h h0 rfl w hM, fun w => invert2_in m a _ (has2_b m a true hm ha (decide_eq_true h)) hz (inv2_any m a hF hS ha) w⟩
  · refine ⟨0, 20, fun g w hM => ?_, fun w => ?_⟩ <;> rw [limb_nought, limb_nought, limb_nought, limb_nought]
    · exact finv_bad (some ⟨g, 0, none⟩) a 20 (by decide) (fun w => FieldB w g m) (FB_alloc g m) (fun w h' => check_no g m a ha hm h w h') w hM
    · exact invert2_no m a (has2_b m a false hm ha (decide_eq_false h)) w
theorem sqrt2_P (a r s : Nat) (ok : Bool) (ha : a < PP) (hr : r = a ^ rootE % PP) (hok : ok = decide (r * r % PP = a)) (hs : s = evenR PP r) (w : World) :
    Calls Tryd.prog 30 #[.agg #[.int .u64 (limb (PP) 0 : Nat), .int .u64 (limb (PP) 1 : Nat), .int .u64 (limb (PP) 2 : Nat), .int .u64 (limb (PP) 3 : Nat), .int .u64 (limb (R256 - (PP)) 0 : Nat), .int .u64 (limb (R256 - (PP)) 1 : Nat), .int .u64 (limb (R256 - (PP)) 2 : Nat), .int .u64 (limb (R256 - (PP)) 3 : Nat)], .agg #[.int .u64 (limb (a) 0 : Nat), .int .u64 (limb (a) 1 : Nat), .int .u64 (limb (a) 2 : Nat), .int .u64 (limb (a) 3 : Nat)], .bool true] w fun e w' => e = .returned (cond ok (.tuple #[.agg #[.int .u64 (limb (s) 0 : Nat), .int .u64 (limb (s) 1 : Nat), .int .u64 (limb (s) 2 : Nat), .int .u64 (limb (s) 3 : Nat)], .int .i64 0]) (.tuple #[z4, .int .i64 22])) ∧ Below w.heap.size w w' := by
  have aR : a < R256 := Nat.lt_trans ha FM_P.2.1
  have rP : r < PP := by rw [hr]; exact Nat.mod_lt _ (by decide)
  have rR : r < R256 := Nat.lt_trans rP FM_P.2.1
  have k1 := has2_b PP a true FM_P.2.1 aR (decide_eq_true ha)
  have k2 : ∀ w, Calls Tryd.prog 46 #[.agg #[.int .u64 (limb (PP) 0 : Nat), .int .u64 (limb (PP) 1 : Nat), .int .u64 (limb (PP) 2 : Nat), .int .u64 (limb (PP) 3 : Nat)], .agg #[.int .u64 1, .int .u64 0, .int .u64 0, .int .u64 0]] w fun e w' => e = .returned (.tuple #[.agg #[.int .u64 (limb (PP + 1) 0 : Nat), .int .u64 (limb (PP + 1) 1 : Nat), .int .u64 (limb (PP + 1) 2 : Nat), .int .u64 (limb (PP + 1) 3 : Nat)], .bool false]) ∧ Below w.heap.size w w' := fun w => by
    have k := plus2_any PP 1 FM_P.2.1 (by decide) w
    rw [show addN PP 1 = PP + 1 from by decide, show decide (addK PP 1 = 1) = false from by decide, limb_one2.1, limb_one2.2.1, limb_one2.2.2.1, limb_one2.2.2.2] at k
    exact k
  have k3 : ∀ w, Calls Tryd.prog 31 #[.agg #[.int .u64 (limb (PP) 0 : Nat), .int .u64 (limb (PP) 1 : Nat), .int .u64 (limb (PP) 2 : Nat), .int .u64 (limb (PP) 3 : Nat), .int .u64 (limb (R256 - (PP)) 0 : Nat), .int .u64 (limb (R256 - (PP)) 1 : Nat), .int .u64 (limb (R256 - (PP)) 2 : Nat), .int .u64 (limb (R256 - (PP)) 3 : Nat)], .agg #[.int .u64 (limb (a) 0 : Nat), .int .u64 (limb (a) 1 : Nat), .int .u64 (limb (a) 2 : Nat), .int .u64 (limb (a) 3 : Nat)], .agg #[.int .u64 (limb (rootE) 0 : Nat), .int .u64 (limb (rootE) 1 : Nat), .int .u64 (limb (rootE) 2 : Nat), .int .u64 (limb (rootE) 3 : Nat)]] w fun e w' => e = .returned (.agg #[.int .u64 (limb (r) 0 : Nat), .int .u64 (limb (r) 1 : Nat), .int .u64 (limb (r) 2 : Nat), .int .u64 (limb (r) 3 : Nat)]) ∧ Below w.heap.size w w' := fun w => by rw [hr]; exact pow2_any PP a rootE FM_P FS_P aR rootE_lt w
  have k4 := mul2_any PP r r FM_P FS_P rR rR
  have sR : r * r % PP < R256 := Nat.lt_trans (Nat.mod_lt _ (by decide)) FM_P.2.1
  have he := eq4_num (r * r % PP) a sR aR
  rw [← hok] at he
  have lp : limb r 0 % 2 = r % 2 := by have h := limb_bit r 0 0 (by decide); unfold bitN at h; simpa using h
  cases ok
  · exact sqrt2_bad PP a (PP + 1) rootE r (r * r % PP) (limb (PP + 1) 0 / 4) (limb (PP + 1) 1 / 4) (limb (PP + 1) 2 / 4) (limb (PP + 1) 3 / 4) k1 k2 k3 k4 (by decide) (by decide) (by decide) (by decide) (by decide) (by decide) (by decide) (by decide) he w
  · rcases (show r % 2 = 0 ∨ r % 2 = 1 by omega) with h | h
    · rw [hs, evenR_even PP r h]
      exact sqrt2_even PP a (PP + 1) rootE r (r * r % PP) (limb (PP + 1) 0 / 4) (limb (PP + 1) 1 / 4) (limb (PP + 1) 2 / 4) (limb (PP + 1) 3 / 4) k1 k2 k3 k4 (by decide) (by decide) (by decide) (by decide) (by decide) (by decide) (by decide) (by decide) he (by rw [Int.tmod_eq_emod_of_nonneg (by omega)]; omega) w
    · rw [hs, evenR_odd PP r h]
      have k5 : ∀ w, Calls Tryd.prog 17 #[.agg #[.int .u64 (limb (PP) 0 : Nat), .int .u64 (limb (PP) 1 : Nat), .int .u64 (limb (PP) 2 : Nat), .int .u64 (limb (PP) 3 : Nat), .int .u64 (limb (R256 - (PP)) 0 : Nat), .int .u64 (limb (R256 - (PP)) 1 : Nat), .int .u64 (limb (R256 - (PP)) 2 : Nat), .int .u64 (limb (R256 - (PP)) 3 : Nat)], .agg #[.int .u64 0, .int .u64 0, .int .u64 0, .int .u64 0], .agg #[.int .u64 (limb (r) 0 : Nat), .int .u64 (limb (r) 1 : Nat), .int .u64 (limb (r) 2 : Nat), .int .u64 (limb (r) 3 : Nat)]] w fun e w' => e = .returned (.agg #[.int .u64 (limb (subM PP 0 r) 0 : Nat), .int .u64 (limb (subM PP 0 r) 1 : Nat), .int .u64 (limb (subM PP 0 r) 2 : Nat), .int .u64 (limb (subM PP 0 r) 3 : Nat)]) ∧ Below w.heap.size w w' := fun w => by
        have k := sub2_any PP 0 r FM_P.2.1 (by decide) rP w
        rw [limb_nought, limb_nought, limb_nought, limb_nought] at k
        exact k
      exact sqrt2_odd PP a (PP + 1) rootE r (r * r % PP) (subM PP 0 r) (limb (PP + 1) 0 / 4) (limb (PP + 1) 1 / 4) (limb (PP + 1) 2 / 4) (limb (PP + 1) 3 / 4) k1 k2 k3 k4 k5 (by decide) (by decide) (by decide) (by decide) (by decide) (by decide) (by decide) (by decide) he (by rw [Int.tmod_eq_emod_of_nonneg (by omega)]; omega) w
theorem sqrt_pair (base : Bool) (a : Nat) (ha : a < R256) : ∃ (v : Nat) (c : Int), (∀ (g : Nat) (w : World), Glob w → FieldB w g (mB base) → Calls Tryd.prog 29 #[.pointer (some ⟨g, 0, none⟩), .agg #[.int .u64 (limb (a) 0 : Nat), .int .u64 (limb (a) 1 : Nat), .int .u64 (limb (a) 2 : Nat), .int .u64 (limb (a) 3 : Nat)]] w fun e w' => e = .returned (.tuple #[.agg #[.int .u64 (limb (v) 0 : Nat), .int .u64 (limb (v) 1 : Nat), .int .u64 (limb (v) 2 : Nat), .int .u64 (limb (v) 3 : Nat)], .int .i64 c]) ∧ Below w.heap.size w w') ∧ (∀ w, Calls Tryd.prog 30 #[.agg #[.int .u64 (limb (mB base) 0 : Nat), .int .u64 (limb (mB base) 1 : Nat), .int .u64 (limb (mB base) 2 : Nat), .int .u64 (limb (mB base) 3 : Nat), .int .u64 (limb (R256 - (mB base)) 0 : Nat), .int .u64 (limb (R256 - (mB base)) 1 : Nat), .int .u64 (limb (R256 - (mB base)) 2 : Nat), .int .u64 (limb (R256 - (mB base)) 3 : Nat)], .agg #[.int .u64 (limb (a) 0 : Nat), .int .u64 (limb (a) 1 : Nat), .int .u64 (limb (a) 2 : Nat), .int .u64 (limb (a) 3 : Nat)], .bool base] w fun e w' => e = .returned (.tuple #[.agg #[.int .u64 (limb (v) 0 : Nat), .int .u64 (limb (v) 1 : Nat), .int .u64 (limb (v) 2 : Nat), .int .u64 (limb (v) 3 : Nat)], .int .i64 c]) ∧ Below w.heap.size w w') := by
  have hF := FM_B base
  have hm := hF.2.1
  by_cases h : a < mB base
  · cases base
    · refine ⟨0, 7, fun g w hG hM => ?_, fun w => ?_⟩ <;> rw [limb_nought, limb_nought, limb_nought, limb_nought]
      · exact fsqrt_state g _ a hF h (by decide) w hG hM
      · exact sqrt2_state _ a (has2_b _ a true hm ha (decide_eq_true h)) w
    · have k1 := fun (ok : Bool) (hok : ok = decide (a ^ rootE % PP * (a ^ rootE % PP) % PP = a)) (g : Nat) (w : World) (hG : Glob w) (hM : FieldB w g PP) => fsqrt_P g a (a ^ rootE % PP) (evenR PP (a ^ rootE % PP)) ok h rfl hok rfl w hG hM
      have k2 := fun (ok : Bool) (hok : ok = decide (a ^ rootE % PP * (a ^ rootE % PP) % PP = a)) (w : World) => sqrt2_P a (a ^ rootE % PP) (evenR PP (a ^ rootE % PP)) ok h rfl hok rfl w
      cases hok : decide (a ^ rootE % PP * (a ^ rootE % PP) % PP = a)
      · refine ⟨0, 22, fun g w hG hM => ?_, fun w => ?_⟩ <;> rw [limb_nought, limb_nought, limb_nought, limb_nought]
        · exact k1 false hok.symm g w hG hM
        · exact k2 false hok.symm w
      · exact ⟨evenR PP (a ^ rootE % PP), 0, fun g w hG hM => k1 true hok.symm g w hG hM, fun w => k2 true hok.symm w⟩
  · refine ⟨0, 20, fun g w hG hM => ?_, fun w => ?_⟩ <;> rw [limb_nought, limb_nought, limb_nought, limb_nought]
    · exact fsqrt_bad (some ⟨g, 0, none⟩) a 20 (by decide) (fun w => FieldB w g (mB base)) (FB_alloc g _) (fun w h' => check_no g _ a ha hm h w h') w hM
    · exact sqrt2_no _ a base (has2_b _ a false hm ha (decide_eq_false h)) w
theorem fieldPowers_any (base : Bool) (a b : Nat) (ha : a < R256) (hb : b < R256) (w : World) (hG : Glob w) (hQ : GlobQ w) : Calls Tryd.prog 6 #[.bool base, .agg #[.int .u64 (limb (a) 0 : Nat), .int .u64 (limb (a) 1 : Nat), .int .u64 (limb (a) 2 : Nat), .int .u64 (limb (a) 3 : Nat)], .agg #[.int .u64 (limb (b) 0 : Nat), .int .u64 (limb (b) 1 : Nat), .int .u64 (limb (b) 2 : Nat), .int .u64 (limb (b) 3 : Nat)]] w fun e w' => e = .returned (.bool true) ∧ Below w.heap.size w w' := by
  have hF := FM_B base
  have hS := FS_B base
  have hm := hF.2.1
  obtain ⟨v, c2, k3, k4⟩ := inv_pair _ a hF hS ha
  obtain ⟨y, c4, k5, k6⟩ := sqrt_pair base a ha
  have zz : eq4 (limb 0 0 : Nat) (limb 0 1 : Nat) (limb 0 2 : Nat) (limb 0 3 : Nat) 0 0 0 0 = true := by rw [limb_nought, limb_nought, limb_nought, limb_nought]; rfl
  by_cases h : a < mB base
  · exact powers_in base (mB base) a b _ v y c2 c4 (of_any base) (fun g w h' => fpow_in g _ a b _ hF h hb rfl w h') k3 k4 k5 k6 (has2_b _ a true hm ha (decide_eq_true h)) (pow2_any _ a b hF hS ha hb) w hG hQ
  · refine powers_no base (mB base) a b 0 v y c2 c4 (of_any base) (fun g w h' => ?_) k3 k4 k5 k6 (has2_b _ a false hm ha (decide_eq_false h)) zz w hG hQ
    rw [limb_nought, limb_nought, limb_nought, limb_nought]
    exact fpow_bad (some ⟨g, 0, none⟩) a b 20 (by decide) (fun w => FieldB w g (mB base)) (FB_alloc g _) (fun w h' => check_no g _ a ha hm h w h') w h'
end Go.Proofs.YtglifkfkcepllaaDoor
