/- The walk of the statement FieldSums. -/
import Derived.Test.YtglifkfkcepllaaDoorFieldH
import Derived.Test.YtglifkfkcepllaaDoorFieldM
import Derived.Test.YtglifkfkcepllaaDoorRef2F
import Derived.Test.YtglifkfkcepllaaDoorRef2G
import Derived.Test.YtglifkfkcepllaaDoorWalkW
import Derived.Test.YtglifkfkcepllaaDoorHeldR
namespace Go.Proofs.YtglifkfkcepllaaDoor
open Go.RowKit
attribute [local go_sem] run_eq4

set_option maxRecDepth 100000 in
set_option maxHeartbeats 8000000 in
theorem sums_in (base : Bool) (m a b p d n : Nat)
    (k1 : ∀ w, Glob w → GlobQ w → Calls Tryd.prog 9 #[.bool base] w fun e w' => ∃ g, e = .returned (.tuple #[.pointer (some ⟨g, 0, none⟩), .agg #[.int .u64 (limb m 0 : Nat), .int .u64 (limb m 1 : Nat), .int .u64 (limb m 2 : Nat), .int .u64 (limb m 3 : Nat), .int .u64 (limb (R256 - m) 0 : Nat), .int .u64 (limb (R256 - m) 1 : Nat), .int .u64 (limb (R256 - m) 2 : Nat), .int .u64 (limb (R256 - m) 3 : Nat)]]) ∧ FieldB w' g m ∧ Below w.heap.size w w')
    (k2 : ∀ (g : Nat) (w : World), FieldB w g m → Calls Tryd.prog 10 #[.pointer (some ⟨g, 0, none⟩), .agg #[.int .u64 (limb (a) 0 : Nat), .int .u64 (limb (a) 1 : Nat), .int .u64 (limb (a) 2 : Nat), .int .u64 (limb (a) 3 : Nat)], .agg #[.int .u64 (limb (b) 0 : Nat), .int .u64 (limb (b) 1 : Nat), .int .u64 (limb (b) 2 : Nat), .int .u64 (limb (b) 3 : Nat)]] w fun e w' => e = .returned (.tuple #[.agg #[.int .u64 (limb (p) 0 : Nat), .int .u64 (limb (p) 1 : Nat), .int .u64 (limb (p) 2 : Nat), .int .u64 (limb (p) 3 : Nat)], .int .i64 0]) ∧ Below w.heap.size w w')
    (k3 : ∀ (g : Nat) (w : World), FieldB w g m → Calls Tryd.prog 11 #[.pointer (some ⟨g, 0, none⟩), .agg #[.int .u64 (limb (a) 0 : Nat), .int .u64 (limb (a) 1 : Nat), .int .u64 (limb (a) 2 : Nat), .int .u64 (limb (a) 3 : Nat)], .agg #[.int .u64 (limb (b) 0 : Nat), .int .u64 (limb (b) 1 : Nat), .int .u64 (limb (b) 2 : Nat), .int .u64 (limb (b) 3 : Nat)]] w fun e w' => e = .returned (.tuple #[.agg #[.int .u64 (limb (d) 0 : Nat), .int .u64 (limb (d) 1 : Nat), .int .u64 (limb (d) 2 : Nat), .int .u64 (limb (d) 3 : Nat)], .int .i64 0]) ∧ Below w.heap.size w w')
    (k4 : ∀ (g : Nat) (w : World), FieldB w g m → Calls Tryd.prog 12 #[.pointer (some ⟨g, 0, none⟩), .agg #[.int .u64 (limb (a) 0 : Nat), .int .u64 (limb (a) 1 : Nat), .int .u64 (limb (a) 2 : Nat), .int .u64 (limb (a) 3 : Nat)]] w fun e w' => e = .returned (.tuple #[.agg #[.int .u64 (limb (n) 0 : Nat), .int .u64 (limb (n) 1 : Nat), .int .u64 (limb (n) 2 : Nat), .int .u64 (limb (n) 3 : Nat)], .int .i64 0]) ∧ Below w.heap.size w w')
    (k5 : ∀ w, Calls Tryd.prog 13 #[.agg #[.int .u64 (limb m 0 : Nat), .int .u64 (limb m 1 : Nat), .int .u64 (limb m 2 : Nat), .int .u64 (limb m 3 : Nat), .int .u64 (limb (R256 - m) 0 : Nat), .int .u64 (limb (R256 - m) 1 : Nat), .int .u64 (limb (R256 - m) 2 : Nat), .int .u64 (limb (R256 - m) 3 : Nat)], .agg #[.int .u64 (limb (a) 0 : Nat), .int .u64 (limb (a) 1 : Nat), .int .u64 (limb (a) 2 : Nat), .int .u64 (limb (a) 3 : Nat)], .agg #[.int .u64 (limb (b) 0 : Nat), .int .u64 (limb (b) 1 : Nat), .int .u64 (limb (b) 2 : Nat), .int .u64 (limb (b) 3 : Nat)]] w fun e w' => e = .returned (.int .i64 0) ∧ Below w.heap.size w w')
    (k6 : ∀ w, Calls Tryd.prog 14 #[.agg #[.int .u64 (limb m 0 : Nat), .int .u64 (limb m 1 : Nat), .int .u64 (limb m 2 : Nat), .int .u64 (limb m 3 : Nat), .int .u64 (limb (R256 - m) 0 : Nat), .int .u64 (limb (R256 - m) 1 : Nat), .int .u64 (limb (R256 - m) 2 : Nat), .int .u64 (limb (R256 - m) 3 : Nat)], .agg #[.int .u64 (limb (a) 0 : Nat), .int .u64 (limb (a) 1 : Nat), .int .u64 (limb (a) 2 : Nat), .int .u64 (limb (a) 3 : Nat)]] w fun e w' => e = .returned (.bool true) ∧ Below w.heap.size w w')
    (k7 : ∀ (g : Nat) (w : World), FieldB w g m → Calls Tryd.prog 15 #[.pointer (some ⟨g, 0, none⟩)] w fun e w' => e = .returned (.agg #[.int .u64 (limb (m) 0 : Nat), .int .u64 (limb (m) 1 : Nat), .int .u64 (limb (m) 2 : Nat), .int .u64 (limb (m) 3 : Nat)]) ∧ Below w.heap.size w w')
    (k8 : ∀ (g : Nat) (w : World), FieldB w g m → Calls Tryd.prog 16 #[.pointer (some ⟨g, 0, none⟩), .agg #[.int .u64 (limb (a) 0 : Nat), .int .u64 (limb (a) 1 : Nat), .int .u64 (limb (a) 2 : Nat), .int .u64 (limb (a) 3 : Nat)]] w fun e w' => e = .returned (.int .i64 0) ∧ Below w.heap.size w w')
    (k9 : ∀ w, Calls Tryd.prog 19 #[.agg #[.int .u64 (limb m 0 : Nat), .int .u64 (limb m 1 : Nat), .int .u64 (limb m 2 : Nat), .int .u64 (limb m 3 : Nat), .int .u64 (limb (R256 - m) 0 : Nat), .int .u64 (limb (R256 - m) 1 : Nat), .int .u64 (limb (R256 - m) 2 : Nat), .int .u64 (limb (R256 - m) 3 : Nat)], .agg #[.int .u64 (limb (a) 0 : Nat), .int .u64 (limb (a) 1 : Nat), .int .u64 (limb (a) 2 : Nat), .int .u64 (limb (a) 3 : Nat)], .agg #[.int .u64 (limb (b) 0 : Nat), .int .u64 (limb (b) 1 : Nat), .int .u64 (limb (b) 2 : Nat), .int .u64 (limb (b) 3 : Nat)]] w fun e w' => e = .returned (.agg #[.int .u64 (limb (p) 0 : Nat), .int .u64 (limb (p) 1 : Nat), .int .u64 (limb (p) 2 : Nat), .int .u64 (limb (p) 3 : Nat)]) ∧ Below w.heap.size w w')
    (k10 : ∀ w, Calls Tryd.prog 17 #[.agg #[.int .u64 (limb m 0 : Nat), .int .u64 (limb m 1 : Nat), .int .u64 (limb m 2 : Nat), .int .u64 (limb m 3 : Nat), .int .u64 (limb (R256 - m) 0 : Nat), .int .u64 (limb (R256 - m) 1 : Nat), .int .u64 (limb (R256 - m) 2 : Nat), .int .u64 (limb (R256 - m) 3 : Nat)], .agg #[.int .u64 (limb (a) 0 : Nat), .int .u64 (limb (a) 1 : Nat), .int .u64 (limb (a) 2 : Nat), .int .u64 (limb (a) 3 : Nat)], .agg #[.int .u64 (limb (b) 0 : Nat), .int .u64 (limb (b) 1 : Nat), .int .u64 (limb (b) 2 : Nat), .int .u64 (limb (b) 3 : Nat)]] w fun e w' => e = .returned (.agg #[.int .u64 (limb (d) 0 : Nat), .int .u64 (limb (d) 1 : Nat), .int .u64 (limb (d) 2 : Nat), .int .u64 (limb (d) 3 : Nat)]) ∧ Below w.heap.size w w')
    (k11 : ∀ w, Calls Tryd.prog 17 #[.agg #[.int .u64 (limb m 0 : Nat), .int .u64 (limb m 1 : Nat), .int .u64 (limb m 2 : Nat), .int .u64 (limb m 3 : Nat), .int .u64 (limb (R256 - m) 0 : Nat), .int .u64 (limb (R256 - m) 1 : Nat), .int .u64 (limb (R256 - m) 2 : Nat), .int .u64 (limb (R256 - m) 3 : Nat)], .agg #[.int .u64 0, .int .u64 0, .int .u64 0, .int .u64 0], .agg #[.int .u64 (limb (a) 0 : Nat), .int .u64 (limb (a) 1 : Nat), .int .u64 (limb (a) 2 : Nat), .int .u64 (limb (a) 3 : Nat)]] w fun e w' => e = .returned (.agg #[.int .u64 (limb (n) 0 : Nat), .int .u64 (limb (n) 1 : Nat), .int .u64 (limb (n) 2 : Nat), .int .u64 (limb (n) 3 : Nat)]) ∧ Below w.heap.size w w')
    (w : World) (hG : Glob w) (hQ : GlobQ w) : Calls Tryd.prog 3 #[.bool base, .agg #[.int .u64 (limb (a) 0 : Nat), .int .u64 (limb (a) 1 : Nat), .int .u64 (limb (a) 2 : Nat), .int .u64 (limb (a) 3 : Nat)], .agg #[.int .u64 (limb (b) 0 : Nat), .int .u64 (limb (b) 1 : Nat), .int .u64 (limb (b) 2 : Nat), .int .u64 (limb (b) 3 : Nat)]] w fun e w' => e = .returned (.bool true) ∧ Below w.heap.size w w' := by
  have HG : Hid (Glob w ∧ GlobQ w) := ⟨hG, hQ⟩
  have K1 : Hid _ := k1
  have K2 : Hid _ := k2
  have K3 : Hid _ := k3
  have K4 : Hid _ := k4
  have K5 : Hid _ := k5
  have K6 : Hid _ := k6
  have K7 : Hid _ := k7
  have K8 : Hid _ := k8
  have K9 : Hid _ := k9
  have K10 : Hid _ := k10
  have K11 : Hid _ := k11
  have em : eq4 (limb m 0 : Nat) (limb m 1 : Nat) (limb m 2 : Nat) (limb m 3 : Nat) (limb m 0 : Nat) (limb m 1 : Nat) (limb m 2 : Nat) (limb m 3 : Nat) = true := by simp [eq4]
  have ep : eq4 (limb p 0 : Nat) (limb p 1 : Nat) (limb p 2 : Nat) (limb p 3 : Nat) (limb p 0 : Nat) (limb p 1 : Nat) (limb p 2 : Nat) (limb p 3 : Nat) = true := by simp [eq4]
  have ed : eq4 (limb d 0 : Nat) (limb d 1 : Nat) (limb d 2 : Nat) (limb d 3 : Nat) (limb d 0 : Nat) (limb d 1 : Nat) (limb d 2 : Nat) (limb d 3 : Nat) = true := by simp [eq4]
  have en : eq4 (limb n 0 : Nat) (limb n 1 : Nat) (limb n 2 : Nat) (limb n 3 : Nat) (limb n 0 : Nat) (limb n 1 : Nat) (limb n 2 : Nat) (limb n 3 : Nat) = true := by simp [eq4]
  clear hG hQ k1 k2 k3 k4 k5 k6 k7 k8 k9 k10 k11
  go_enter Tryd.func3, Tryd.ntmps3
  go_wp2_with fail
  refine (K1.out _ (Glob.alloc (Glob.alloc HG.out.1)) (GlobQ.alloc (GlobQ.alloc HG.out.2))).mono ?_
  rintro e w1 ⟨g, rfl, hF1, hb1⟩
  have HA1 : Hid (NS w1 (w.heap.size) a) := by
    have t := NS.call (W := _) (NS.alloc (NS.new _ _ _)) hb1
    try simp only [World.size_alloc] at t
    exact t
  have HB1 : Hid (NS w1 (w.heap.size + 1) b) := by
    have t := NS.call (W := _) (NS.new _ _ _) hb1
    try simp only [World.size_alloc] at t
    exact t
  have HW1 : Hid (Below w.heap.size w w1) := below_call0 (below_alloc0 (below_alloc0 (Below.refl _ _) _) _) hb1
  have HG1 : Hid (Glob w1) := Glob.call (Glob.alloc (Glob.alloc HG.out.1)) hb1
  have HF1 : Hid (FieldB w1 g m) := hF1
  clear hb1
  clear hF1
  obtain ⟨⟨aa0, aa1, aa2, aa3⟩, aaz⟩ := HA1.out.facts
  obtain ⟨⟨bb0, bb1, bb2, bb3⟩, bbz⟩ := HB1.out.facts
  go_wp2_with fail
  refine (K2.out g _ (FieldB.alloc HF1.out)).mono ?_
  rintro e w2 ⟨rfl, hb2⟩
  have HA2 : Hid (NS w2 (w.heap.size) a) := NS.acall HA1.out hb2
  have HB2 : Hid (NS w2 (w.heap.size + 1) b) := NS.acall HB1.out hb2
  have HW2 : Hid (Below w.heap.size w w2) := below_acall HW1.out hb2
  have HG2 : Hid (Glob w2) := Glob.call (Glob.alloc HG1.out) hb2
  have HF2 : Hid (FieldB w2 g m) := FieldB.call (FieldB.alloc HF1.out) hb2
  have HS2 : Hid (FieldB w2 w1.heap.size m) := FieldB.call (FieldB.new w1 m _) hb2
  clear hb2
  clear HA1 HB1 HW1 HG1 HF1
  clear aa0 aa1 aa2 aa3 aaz bb0 bb1 bb2 bb3 bbz
  obtain ⟨⟨aa0, aa1, aa2, aa3⟩, aaz⟩ := HA2.out.facts
  obtain ⟨⟨bb0, bb1, bb2, bb3⟩, bbz⟩ := HB2.out.facts
  go_wp2_with fail
  refine (K3.out g _ (FieldB.alloc HF2.out)).mono ?_
  rintro e w3 ⟨rfl, hb3⟩
  have HA3 : Hid (NS w3 (w.heap.size) a) := NS.acall HA2.out hb3
  have HB3 : Hid (NS w3 (w.heap.size + 1) b) := NS.acall HB2.out hb3
  have HP3 : Hid (NS w3 w2.heap.size p) := NS.ncall hb3
  have HW3 : Hid (Below w.heap.size w w3) := below_acall HW2.out hb3
  have HG3 : Hid (Glob w3) := Glob.call (Glob.alloc HG2.out) hb3
  have HF3 : Hid (FieldB w3 g m) := FieldB.call (FieldB.alloc HF2.out) hb3
  have HS3 : Hid (FieldB w3 w1.heap.size m) := FieldB.call (FieldB.alloc HS2.out) hb3
  clear hb3
  clear HA2 HB2 HW2 HG2 HF2 HS2
  clear aa0 aa1 aa2 aa3 aaz bb0 bb1 bb2 bb3 bbz
  obtain ⟨⟨aa0, aa1, aa2, aa3⟩, aaz⟩ := HA3.out.facts
  go_wp2_with fail
  refine (K4.out g _ (FieldB.alloc HF3.out)).mono ?_
  rintro e w4 ⟨rfl, hb4⟩
  have HA4 : Hid (NS w4 (w.heap.size) a) := NS.acall HA3.out hb4
  have HB4 : Hid (NS w4 (w.heap.size + 1) b) := NS.acall HB3.out hb4
  have HP4 : Hid (NS w4 (w2.heap.size) p) := NS.acall HP3.out hb4
  have HD4 : Hid (NS w4 w3.heap.size d) := NS.ncall hb4
  have HW4 : Hid (Below w.heap.size w w4) := below_acall HW3.out hb4
  have HG4 : Hid (Glob w4) := Glob.call (Glob.alloc HG3.out) hb4
  have HF4 : Hid (FieldB w4 g m) := FieldB.call (FieldB.alloc HF3.out) hb4
  have HS4 : Hid (FieldB w4 w1.heap.size m) := FieldB.call (FieldB.alloc HS3.out) hb4
  clear hb4
  clear HA3 HB3 HP3 HW3 HG3 HF3 HS3
  clear aa0 aa1 aa2 aa3 aaz
  obtain ⟨⟨aa0, aa1, aa2, aa3⟩, aaz⟩ := HA4.out.facts
  obtain ⟨⟨bb0, bb1, bb2, bb3⟩, bbz⟩ := HB4.out.facts
  obtain ⟨sm0, sm1, sm2, sm3⟩ := (HS4.out).1.facts
  obtain ⟨sg0, sg1, sg2, sg3⟩ := (HS4.out).gap
  have sz := (HS4.out).2.2
  go_wp2_with fail
  refine (K5.out _).mono ?_
  rintro e w5 ⟨rfl, hb5⟩
  have HA5 : Hid (NS w5 (w.heap.size) a) := NS.acall HA4.out hb5
  have HB5 : Hid (NS w5 (w.heap.size + 1) b) := NS.acall HB4.out hb5
  have HP5 : Hid (NS w5 (w2.heap.size) p) := NS.acall HP4.out hb5
  have HD5 : Hid (NS w5 (w3.heap.size) d) := NS.acall HD4.out hb5
  have HN5 : Hid (NS w5 w4.heap.size n) := NS.ncall hb5
  have HW5 : Hid (Below w.heap.size w w5) := below_acall HW4.out hb5
  have HG5 : Hid (Glob w5) := Glob.call (Glob.alloc HG4.out) hb5
  have HF5 : Hid (FieldB w5 g m) := FieldB.call (FieldB.alloc HF4.out) hb5
  have HS5 : Hid (FieldB w5 w1.heap.size m) := FieldB.call (FieldB.alloc HS4.out) hb5
  clear hb5
  clear HA4 HB4 HP4 HD4 HW4 HG4 HF4 HS4
  clear aa0 aa1 aa2 aa3 aaz bb0 bb1 bb2 bb3 bbz sm0 sg0 sm1 sg1 sm2 sg2 sm3 sg3 sz
  go_wp2_with fail
  refine wp_region_H (fun w' => Below w5.heap.size w5 w') 33 rfl (by kernel_rfl) ?_
  refine wpAnyH_take (i := 0) (oi := ?o0_5) (v := ?v0_5) ?hi0_5 (by kernel_rfl) (by kernel_rfl) (by kernel_rfl) ?hQ0_5 ?hy0_5 (Below.drew (Below.refl _ _)) ?more0_5
  case hi0_5 => rw [List.getElem?_toArray]; exact rfl
  case hQ0_5 => exact fun _ _ _ h => h
  case hy0_5 =>
    refine Or.inl ⟨by rfl, ?_⟩
    intro w' hSw
    clear hSw
    go_simp
    try with_reducible rfl
  simp only [Act.put, List.setIfInBounds_toArray, List.set_cons_zero, List.set_cons_succ]
  refine wpAnyH_take (i := 1) (oi := ?o1_5) (v := ?v1_5) ?hi1_5 (by kernel_rfl) (by kernel_rfl) (by kernel_rfl) ?hQ1_5 ?hy1_5 (Below.drew (Below.refl _ _)) ?more1_5
  case hi1_5 => rw [List.getElem?_toArray]; exact rfl
  case hQ1_5 => exact fun _ _ _ h => h
  case hy1_5 =>
    refine Or.inl ⟨by rfl, ?_⟩
    intro w' hSw
    clear hSw
    go_simp
    try with_reducible rfl
  simp only [Act.put, List.setIfInBounds_toArray, List.set_cons_zero, List.set_cons_succ]
  refine wpAnyH_take (i := 2) (oi := ?o2_5) (v := ?v2_5) ?hi2_5 (by kernel_rfl) (by kernel_rfl) (by kernel_rfl) ?hQ2_5 ?hy2_5 (Below.drew (Below.refl _ _)) ?more2_5
  case hi2_5 => rw [List.getElem?_toArray]; exact rfl
  case hQ2_5 => exact fun _ _ _ h => h
  case hy2_5 =>
    refine Or.inl ⟨by rfl, ?_⟩
    intro w' hSw
    clear hSw
    go_simp
    try with_reducible rfl
  simp only [Act.put, List.setIfInBounds_toArray, List.set_cons_zero, List.set_cons_succ]
  refine wpAnyH_take (i := 3) (oi := ?o3_5) (v := ?v3_5) ?hi3_5 (by kernel_rfl) (by kernel_rfl) (by kernel_rfl) ?hQ3_5 ?hy3_5 (Below.drew (Below.refl _ _)) ?more3_5
  case hi3_5 => rw [List.getElem?_toArray]; exact rfl
  case hQ3_5 => exact fun _ _ _ h => h
  case hy3_5 =>
    refine Or.inl ⟨by rfl, ?_⟩
    intro w' hSw
    clear hSw
    go_simp
    try with_reducible rfl
  simp only [Act.put, List.setIfInBounds_toArray, List.set_cons_zero, List.set_cons_succ]
  refine wpAnyH_take (i := 4) (oi := ?o4_5) (v := ?v4_5) ?hi4_5 (by kernel_rfl) (by kernel_rfl) (by kernel_rfl) ?hQ4_5 ?hy4_5 (Below.drew (Below.refl _ _)) ?more4_5
  case hi4_5 => rw [List.getElem?_toArray]; exact rfl
  case hQ4_5 => exact fun _ _ _ h => h
  case hy4_5 =>
    refine Or.inl ⟨by rfl, ?_⟩
    intro w' hSw
    clear hSw
    go_simp
    try with_reducible rfl
  simp only [Act.put, List.setIfInBounds_toArray, List.set_cons_zero, List.set_cons_succ]
  refine wpAnyH_take (i := 5) (oi := ?o5_5) (v := ?v5_5) ?hi5_5 (by kernel_rfl) (by kernel_rfl) (by kernel_rfl) ?hQ5_5 ?hy5_5 (Below.drew (Below.refl _ _)) ?more5_5
  case hi5_5 => rw [List.getElem?_toArray]; exact rfl
  case hQ5_5 => exact fun _ _ _ h => h
  case hy5_5 =>
    refine Or.inl ⟨by rfl, ?_⟩
    intro w' hSw
    clear hSw
    go_simp
    try with_reducible rfl
  simp only [Act.put, List.setIfInBounds_toArray, List.set_cons_zero, List.set_cons_succ]
  refine wpAnyH_take (i := 6) (oi := ?o6_5) (v := ?v6_5) ?hi6_5 (by kernel_rfl) (by kernel_rfl) (by kernel_rfl) ?hQ6_5 ?hy6_5 (Below.drew (Below.refl _ _)) ?more6_5
  case hi6_5 => rw [List.getElem?_toArray]; exact rfl
  case hQ6_5 => exact fun _ _ _ h => h
  case hy6_5 =>
    refine Or.inl ⟨by rfl, ?_⟩
    intro w' hSw
    clear hSw
    go_simp
    try with_reducible rfl
  simp only [Act.put, List.setIfInBounds_toArray, List.set_cons_zero, List.set_cons_succ]
  refine wpAnyH_take (i := 7) (oi := ?o7_5) (v := ?v7_5) ?hi7_5 (by kernel_rfl) (by kernel_rfl) (by kernel_rfl) ?hQ7_5 ?hy7_5 (Below.drew (Below.refl _ _)) ?more7_5
  case hi7_5 => rw [List.getElem?_toArray]; exact rfl
  case hQ7_5 => exact fun _ _ _ h => h
  case hy7_5 =>
    refine Or.inl ⟨by rfl, ?_⟩
    intro w' hSw
    clear hSw
    go_simp
    try with_reducible rfl
  simp only [Act.put, List.setIfInBounds_toArray, List.set_cons_zero, List.set_cons_succ]
  refine wpAnyH_take (i := 8) (oi := ?o8_5) (v := ?v8_5) ?hi8_5 (by kernel_rfl) (by kernel_rfl) (by kernel_rfl) ?hQ8_5 ?hy8_5 (Below.drew (Below.refl _ _)) ?more8_5
  case hi8_5 => rw [List.getElem?_toArray]; exact rfl
  case hQ8_5 => exact fun _ _ _ h => h
  case hy8_5 =>
    refine Or.inl ⟨by rfl, ?_⟩
    intro w' hSw
    clear hSw
    go_simp
    try with_reducible rfl
  simp only [Act.put, List.setIfInBounds_toArray, List.set_cons_zero, List.set_cons_succ]
  refine wpAnyH_take (i := 9) (oi := ?o9_5) (v := ?v9_5) ?hi9_5 (by kernel_rfl) (by kernel_rfl) (by kernel_rfl) ?hQ9_5 ?hy9_5 (Below.drew (Below.refl _ _)) ?more9_5
  case hi9_5 => rw [List.getElem?_toArray]; exact rfl
  case hQ9_5 => exact fun _ _ _ h => h
  case hy9_5 =>
    refine Or.inl ⟨by rfl, ?_⟩
    intro w' hSw
    clear hSw
    go_simp
    try with_reducible rfl
  simp only [Act.put, List.setIfInBounds_toArray, List.set_cons_zero, List.set_cons_succ]
  refine wpAnyH_take (i := 10) (oi := ?o10_5) (v := ?v10_5) ?hi10_5 (by kernel_rfl) (by kernel_rfl) (by kernel_rfl) ?hQ10_5 ?hy10_5 (Below.drew (Below.refl _ _)) ?more10_5
  case hi10_5 => rw [List.getElem?_toArray]; exact rfl
  case hQ10_5 => exact fun _ _ _ h => h
  case hy10_5 =>
    refine Or.inl ⟨by rfl, ?_⟩
    intro w' hSw
    clear hSw
    go_simp
    try with_reducible rfl
  simp only [Act.put, List.setIfInBounds_toArray, List.set_cons_zero, List.set_cons_succ]
  refine wpAnyH_take (i := 11) (oi := ?o11_5) (v := ?v11_5) ?hi11_5 (by kernel_rfl) (by kernel_rfl) (by kernel_rfl) ?hQ11_5 ?hy11_5 (Below.drew (Below.refl _ _)) ?more11_5
  case hi11_5 => rw [List.getElem?_toArray]; exact rfl
  case hQ11_5 => exact fun _ _ _ h => h
  case hy11_5 =>
    refine Or.inl ⟨by rfl, ?_⟩
    intro w' hSw
    obtain ⟨sm0, sm1, sm2, sm3⟩ := (FieldB.call HS5.out hSw).1.facts
    obtain ⟨sg0, sg1, sg2, sg3⟩ := (FieldB.call HS5.out hSw).gap
    clear hSw
    go_simp
    try with_reducible rfl
  simp only [Act.put, List.setIfInBounds_toArray, List.set_cons_zero, List.set_cons_succ]
  refine wpAnyH_take (i := 12) (oi := ?o12_5) (v := ?v12_5) ?hi12_5 (by kernel_rfl) (by kernel_rfl) (by kernel_rfl) ?hQ12_5 ?hy12_5 (Below.drew (Below.refl _ _)) ?more12_5
  case hi12_5 => rw [List.getElem?_toArray]; exact rfl
  case hQ12_5 => exact fun _ _ _ h => h
  case hy12_5 =>
    refine Or.inl ⟨by rfl, ?_⟩
    intro w' hSw
    obtain ⟨⟨aa0, aa1, aa2, aa3⟩, aaz⟩ := (NS.call HA5.out hSw).facts
    clear hSw
    go_simp
    try with_reducible rfl
  simp only [Act.put, List.setIfInBounds_toArray, List.set_cons_zero, List.set_cons_succ]
  refine wpAnyH_one (i := 13) (o := ?o13_5) (by kernel_rfl) ?hi13_5 ?hw13_5 ?st13_5
  case hi13_5 => rw [List.getElem?_toArray]; exact rfl
  case hw13_5 => exact rfl
  intro K hK
  have HK13 : Hid _ := hK
  clear hK
  go_simp
  refine (K6.out _).mono ?_
  rintro e wr5_1 ⟨rfl, hq⟩
  have HB5_1 : Hid (Below w5.heap.size w5 wr5_1) := below_call0 (Below.drew (Below.refl _ _)) hq
  clear hq
  go_wp2_with fail
  refine HK13.out _ _ ⟨HB5_1.out, ?_⟩
  clear HK13 K
  try simp only [Act.put, List.setIfInBounds_toArray, List.set_cons_zero, List.set_cons_succ]
  refine wpAnyH_take (i := 14) (oi := ?o14_5) (v := ?v14_5) ?hi14_5 (by kernel_rfl) (by kernel_rfl) (by kernel_rfl) ?hQ14_5 ?hy14_5 HB5_1.out ?more14_5
  case hi14_5 => rw [List.getElem?_toArray]; exact rfl
  case hQ14_5 => exact fun _ _ _ h => h
  case hy14_5 =>
    refine Or.inl ⟨by rfl, ?_⟩
    intro w' hSw
    clear hSw
    go_simp
    try with_reducible rfl
  simp only [Act.put, List.setIfInBounds_toArray, List.set_cons_zero, List.set_cons_succ]
  refine wpAnyH_take (i := 15) (oi := ?o15_5) (v := ?v15_5) ?hi15_5 (by kernel_rfl) (by kernel_rfl) (by kernel_rfl) ?hQ15_5 ?hy15_5 HB5_1.out ?more15_5
  case hi15_5 => rw [List.getElem?_toArray]; exact rfl
  case hQ15_5 => exact fun _ _ _ h => h
  case hy15_5 =>
    refine Or.inl ⟨by rfl, ?_⟩
    intro w' hSw
    clear hSw
    go_simp
    try with_reducible rfl
  simp only [Act.put, List.setIfInBounds_toArray, List.set_cons_zero, List.set_cons_succ]
  refine wpAnyH_take (i := 16) (oi := ?o16_5) (v := ?v16_5) ?hi16_5 (by kernel_rfl) (by kernel_rfl) (by kernel_rfl) ?hQ16_5 ?hy16_5 HB5_1.out ?more16_5
  case hi16_5 => rw [List.getElem?_toArray]; exact rfl
  case hQ16_5 => exact fun _ _ _ h => h
  case hy16_5 =>
    refine Or.inl ⟨by rfl, ?_⟩
    intro w' hSw
    clear hSw
    go_simp
    try with_reducible rfl
  simp only [Act.put, List.setIfInBounds_toArray, List.set_cons_zero, List.set_cons_succ]
  refine wpAnyH_take (i := 17) (oi := ?o17_5) (v := ?v17_5) ?hi17_5 (by kernel_rfl) (by kernel_rfl) (by kernel_rfl) ?hQ17_5 ?hy17_5 HB5_1.out ?more17_5
  case hi17_5 => rw [List.getElem?_toArray]; exact rfl
  case hQ17_5 => exact fun _ _ _ h => h
  case hy17_5 =>
    refine Or.inl ⟨by rfl, ?_⟩
    intro w' hSw
    clear hSw
    go_simp
    try with_reducible rfl
  simp only [Act.put, List.setIfInBounds_toArray, List.set_cons_zero, List.set_cons_succ]
  refine wpAnyH_take (i := 19) (oi := ?o19_5) (v := ?v19_5) ?hi19_5 (by kernel_rfl) (by kernel_rfl) (by kernel_rfl) ?hQ19_5 ?hy19_5 HB5_1.out ?more19_5
  case hi19_5 => rw [List.getElem?_toArray]; exact rfl
  case hQ19_5 => exact fun _ _ _ h => h
  case hy19_5 =>
    refine Or.inl ⟨by rfl, ?_⟩
    intro w' hSw
    obtain ⟨sm0, sm1, sm2, sm3⟩ := (FieldB.call HS5.out hSw).1.facts
    obtain ⟨sg0, sg1, sg2, sg3⟩ := (FieldB.call HS5.out hSw).gap
    clear hSw
    go_simp
    try with_reducible rfl
  simp only [Act.put, List.setIfInBounds_toArray, List.set_cons_zero, List.set_cons_succ]
  refine wpAnyH_take (i := 20) (oi := ?o20_5) (v := ?v20_5) ?hi20_5 (by kernel_rfl) (by kernel_rfl) (by kernel_rfl) ?hQ20_5 ?hy20_5 HB5_1.out ?more20_5
  case hi20_5 => rw [List.getElem?_toArray]; exact rfl
  case hQ20_5 => exact fun _ _ _ h => h
  case hy20_5 =>
    refine Or.inl ⟨by rfl, ?_⟩
    intro w' hSw
    obtain ⟨sm0, sm1, sm2, sm3⟩ := (FieldB.call HS5.out hSw).1.facts
    obtain ⟨sg0, sg1, sg2, sg3⟩ := (FieldB.call HS5.out hSw).gap
    clear hSw
    go_simp
    try with_reducible rfl
  simp only [Act.put, List.setIfInBounds_toArray, List.set_cons_zero, List.set_cons_succ]
  refine wpAnyH_one (i := 18) (o := ?o18_5) (by kernel_rfl) ?hi18_5 ?hw18_5 ?st18_5
  case hi18_5 => rw [List.getElem?_toArray]; exact rfl
  case hw18_5 => exact rfl
  intro K hK
  have HK18 : Hid _ := hK
  clear hK
  go_simp
  refine (K7.out g _ (FieldB.call HF5.out HB5_1.out)).mono ?_
  rintro e wr5_2 ⟨rfl, hq⟩
  have HB5_2 : Hid (Below w5.heap.size w5 wr5_2) := below_call0 HB5_1.out hq
  clear hq
  go_wp2_with fail
  refine HK18.out _ _ ⟨HB5_2.out, ?_⟩
  clear HK18 K
  try simp only [Act.put, List.setIfInBounds_toArray, List.set_cons_zero, List.set_cons_succ]
  refine wpAnyH_take (i := 21) (oi := ?o21_5) (v := ?v21_5) ?hi21_5 (by kernel_rfl) (by kernel_rfl) (by kernel_rfl) ?hQ21_5 ?hy21_5 HB5_2.out ?more21_5
  case hi21_5 => rw [List.getElem?_toArray]; exact rfl
  case hQ21_5 => exact fun _ _ _ h => h
  case hy21_5 =>
    refine Or.inl ⟨by rfl, ?_⟩
    intro w' hSw
    clear hSw
    go_simp
    try with_reducible rfl
  simp only [Act.put, List.setIfInBounds_toArray, List.set_cons_zero, List.set_cons_succ]
  refine wpAnyH_take (i := 22) (oi := ?o22_5) (v := ?v22_5) ?hi22_5 (by kernel_rfl) (by kernel_rfl) (by kernel_rfl) ?hQ22_5 ?hy22_5 HB5_2.out ?more22_5
  case hi22_5 => rw [List.getElem?_toArray]; exact rfl
  case hQ22_5 => exact fun _ _ _ h => h
  case hy22_5 =>
    refine Or.inl ⟨by rfl, ?_⟩
    intro w' hSw
    clear hSw
    go_simp
    try with_reducible rfl
  simp only [Act.put, List.setIfInBounds_toArray, List.set_cons_zero, List.set_cons_succ]
  refine wpAnyH_take (i := 23) (oi := ?o23_5) (v := ?v23_5) ?hi23_5 (by kernel_rfl) (by kernel_rfl) (by kernel_rfl) ?hQ23_5 ?hy23_5 HB5_2.out ?more23_5
  case hi23_5 => rw [List.getElem?_toArray]; exact rfl
  case hQ23_5 => exact fun _ _ _ h => h
  case hy23_5 =>
    refine Or.inl ⟨by rfl, ?_⟩
    intro w' hSw
    clear hSw
    go_simp
    try with_reducible rfl
  simp only [Act.put, List.setIfInBounds_toArray, List.set_cons_zero, List.set_cons_succ]
  refine wpAnyH_take (i := 24) (oi := ?o24_5) (v := ?v24_5) ?hi24_5 (by kernel_rfl) (by kernel_rfl) (by kernel_rfl) ?hQ24_5 ?hy24_5 HB5_2.out ?more24_5
  case hi24_5 => rw [List.getElem?_toArray]; exact rfl
  case hQ24_5 => exact fun _ _ _ h => h
  case hy24_5 =>
    refine Or.inl ⟨by rfl, ?_⟩
    intro w' hSw
    clear hSw
    go_simp
    try with_reducible rfl
  simp only [Act.put, List.setIfInBounds_toArray, List.set_cons_zero, List.set_cons_succ]
  refine wpAnyH_take (i := 25) (oi := ?o25_5) (v := ?v25_5) ?hi25_5 (by kernel_rfl) (by kernel_rfl) (by kernel_rfl) ?hQ25_5 ?hy25_5 HB5_2.out ?more25_5
  case hi25_5 => rw [List.getElem?_toArray]; exact rfl
  case hQ25_5 => exact fun _ _ _ h => h
  case hy25_5 =>
    refine Or.inl ⟨by rfl, ?_⟩
    intro w' hSw
    obtain ⟨⟨aa0, aa1, aa2, aa3⟩, aaz⟩ := (NS.call HA5.out hSw).facts
    clear hSw
    go_simp
    try with_reducible rfl
  simp only [Act.put, List.setIfInBounds_toArray, List.set_cons_zero, List.set_cons_succ]
  refine wpAnyH_take (i := 28) (oi := ?o28_5) (v := ?v28_5) ?hi28_5 (by kernel_rfl) (by kernel_rfl) (by kernel_rfl) ?hQ28_5 ?hy28_5 HB5_2.out ?more28_5
  case hi28_5 => rw [List.getElem?_toArray]; exact rfl
  case hQ28_5 => exact fun _ _ _ h => h
  case hy28_5 =>
    refine Or.inl ⟨by rfl, ?_⟩
    intro w' hSw
    obtain ⟨sm0, sm1, sm2, sm3⟩ := (FieldB.call HS5.out hSw).1.facts
    obtain ⟨sg0, sg1, sg2, sg3⟩ := (FieldB.call HS5.out hSw).gap
    clear hSw
    go_simp
    try with_reducible rfl
  simp only [Act.put, List.setIfInBounds_toArray, List.set_cons_zero, List.set_cons_succ]
  refine wpAnyH_take (i := 29) (oi := ?o29_5) (v := ?v29_5) ?hi29_5 (by kernel_rfl) (by kernel_rfl) (by kernel_rfl) ?hQ29_5 ?hy29_5 HB5_2.out ?more29_5
  case hi29_5 => rw [List.getElem?_toArray]; exact rfl
  case hQ29_5 => exact fun _ _ _ h => h
  case hy29_5 =>
    refine Or.inl ⟨by rfl, ?_⟩
    intro w' hSw
    obtain ⟨⟨aa0, aa1, aa2, aa3⟩, aaz⟩ := (NS.call HA5.out hSw).facts
    clear hSw
    go_simp
    try with_reducible rfl
  simp only [Act.put, List.setIfInBounds_toArray, List.set_cons_zero, List.set_cons_succ]
  refine wpAnyH_one (i := 26) (o := ?o26_5) (by kernel_rfl) ?hi26_5 ?hw26_5 ?st26_5
  case hi26_5 => rw [List.getElem?_toArray]; exact rfl
  case hw26_5 => exact rfl
  intro K hK
  have HK26 : Hid _ := hK
  clear hK
  go_simp
  refine (K8.out g _ (FieldB.call HF5.out HB5_2.out)).mono ?_
  rintro e wr5_3 ⟨rfl, hq⟩
  have HB5_3 : Hid (Below w5.heap.size w5 wr5_3) := below_call0 HB5_2.out hq
  clear hq
  go_wp2_with fail
  refine HK26.out _ _ ⟨HB5_3.out, ?_⟩
  clear HK26 K
  try simp only [Act.put, List.setIfInBounds_toArray, List.set_cons_zero, List.set_cons_succ]
  refine wpAnyH_take (i := 27) (oi := ?o27_5) (v := ?v27_5) ?hi27_5 (by kernel_rfl) (by kernel_rfl) (by kernel_rfl) ?hQ27_5 ?hy27_5 HB5_3.out ?more27_5
  case hi27_5 => rw [List.getElem?_toArray]; exact rfl
  case hQ27_5 => exact fun _ _ _ h => h
  case hy27_5 =>
    refine Or.inl ⟨by rfl, ?_⟩
    intro w' hSw
    clear hSw
    go_simp
    try with_reducible rfl
  simp only [Act.put, List.setIfInBounds_toArray, List.set_cons_zero, List.set_cons_succ]
  refine wpAnyH_one (i := 30) (o := ?o30_5) (by kernel_rfl) ?hi30_5 ?hw30_5 ?st30_5
  case hi30_5 => rw [List.getElem?_toArray]; exact rfl
  case hw30_5 => exact rfl
  intro K hK
  have HK30 : Hid _ := hK
  clear hK
  go_simp
  refine (K6.out _).mono ?_
  rintro e w6 ⟨rfl, hq⟩
  have HB5_4 : Hid (Below w5.heap.size w5 w6) := below_call0 HB5_3.out hq
  clear hq
  go_wp2_with fail
  refine HK30.out _ _ ⟨HB5_4.out, ?_⟩
  clear HK30 K
  try simp only [Act.put, List.setIfInBounds_toArray, List.set_cons_zero, List.set_cons_succ]
  refine wpAnyH_take (i := 31) (oi := ?o31_5) (v := ?v31_5) ?hi31_5 (by kernel_rfl) (by kernel_rfl) (by kernel_rfl) ?hQ31_5 ?hy31_5 HB5_4.out ?more31_5
  case hi31_5 => rw [List.getElem?_toArray]; exact rfl
  case hQ31_5 => exact fun _ _ _ h => h
  case hy31_5 =>
    refine Or.inl ⟨by rfl, ?_⟩
    intro w' hSw
    clear hSw
    go_simp
    try with_reducible rfl
  simp only [Act.put, List.setIfInBounds_toArray, List.set_cons_zero, List.set_cons_succ]
  refine wpAnyH_take (i := 32) (oi := ?o32_5) (v := ?v32_5) ?hi32_5 (by kernel_rfl) (by kernel_rfl) (by kernel_rfl) ?hQ32_5 ?hy32_5 HB5_4.out ?more32_5
  case hi32_5 => rw [List.getElem?_toArray]; exact rfl
  case hQ32_5 => exact fun _ _ _ h => h
  case hy32_5 =>
    refine Or.inl ⟨by rfl, ?_⟩
    intro w' hSw
    clear hSw
    go_simp
    try with_reducible rfl
  simp only [Act.put, List.setIfInBounds_toArray, List.set_cons_zero, List.set_cons_succ]
  refine wpAnyH_done (by kernel_rfl) ?_ _
  have HA6 : Hid (NS w6 (w.heap.size) a) := NS.call HA5.out HB5_4.out
  have HB6 : Hid (NS w6 (w.heap.size + 1) b) := NS.call HB5.out HB5_4.out
  have HP6 : Hid (NS w6 (w2.heap.size) p) := NS.call HP5.out HB5_4.out
  have HD6 : Hid (NS w6 (w3.heap.size) d) := NS.call HD5.out HB5_4.out
  have HN6 : Hid (NS w6 (w4.heap.size) n) := NS.call HN5.out HB5_4.out
  have HG6 : Hid (Glob w6) := Glob.call HG5.out HB5_4.out
  have HF6 : Hid (FieldB w6 g m) := FieldB.call HF5.out HB5_4.out
  have HS6 : Hid (FieldB w6 w1.heap.size m) := FieldB.call HS5.out HB5_4.out
  have HW6 : Hid (Below w.heap.size w w6) := below_call0 HW5.out HB5_4.out
  clear HA5 HB5 HP5 HD5 HN5 HW5 HG5 HF5 HS5 HB5_1 HB5_2 HB5_3 HB5_4
  go_wp2_with fail
  refine wp_region_H (fun w' => Below w6.heap.size w6 w') 26 rfl (by kernel_rfl) ?_
  refine wpAnyH_take (i := 0) (oi := ?o0_6) (v := ?v0_6) ?hi0_6 (by kernel_rfl) (by kernel_rfl) (by kernel_rfl) ?hQ0_6 ?hy0_6 (Below.drew (Below.refl _ _)) ?more0_6
  case hi0_6 => rw [List.getElem?_toArray]; exact rfl
  case hQ0_6 => exact fun _ _ _ h => h
  case hy0_6 =>
    refine Or.inl ⟨by rfl, ?_⟩
    intro w' hSw
    obtain ⟨⟨pp0, pp1, pp2, pp3⟩, ppz⟩ := (NS.call HP6.out hSw).facts
    clear hSw
    go_simp
    try with_reducible rfl
  simp only [Act.put, List.setIfInBounds_toArray, List.set_cons_zero, List.set_cons_succ]
  refine wpAnyH_take (i := 1) (oi := ?o1_6) (v := ?v1_6) ?hi1_6 (by kernel_rfl) (by kernel_rfl) (by kernel_rfl) ?hQ1_6 ?hy1_6 (Below.drew (Below.refl _ _)) ?more1_6
  case hi1_6 => rw [List.getElem?_toArray]; exact rfl
  case hQ1_6 => exact fun _ _ _ h => h
  case hy1_6 =>
    refine Or.inl ⟨by rfl, ?_⟩
    intro w' hSw
    obtain ⟨sm0, sm1, sm2, sm3⟩ := (FieldB.call HS6.out hSw).1.facts
    obtain ⟨sg0, sg1, sg2, sg3⟩ := (FieldB.call HS6.out hSw).gap
    clear hSw
    go_simp
    try with_reducible rfl
  simp only [Act.put, List.setIfInBounds_toArray, List.set_cons_zero, List.set_cons_succ]
  refine wpAnyH_take (i := 2) (oi := ?o2_6) (v := ?v2_6) ?hi2_6 (by kernel_rfl) (by kernel_rfl) (by kernel_rfl) ?hQ2_6 ?hy2_6 (Below.drew (Below.refl _ _)) ?more2_6
  case hi2_6 => rw [List.getElem?_toArray]; exact rfl
  case hQ2_6 => exact fun _ _ _ h => h
  case hy2_6 =>
    refine Or.inl ⟨by rfl, ?_⟩
    intro w' hSw
    obtain ⟨⟨aa0, aa1, aa2, aa3⟩, aaz⟩ := (NS.call HA6.out hSw).facts
    clear hSw
    go_simp
    try with_reducible rfl
  simp only [Act.put, List.setIfInBounds_toArray, List.set_cons_zero, List.set_cons_succ]
  refine wpAnyH_take (i := 3) (oi := ?o3_6) (v := ?v3_6) ?hi3_6 (by kernel_rfl) (by kernel_rfl) (by kernel_rfl) ?hQ3_6 ?hy3_6 (Below.drew (Below.refl _ _)) ?more3_6
  case hi3_6 => rw [List.getElem?_toArray]; exact rfl
  case hQ3_6 => exact fun _ _ _ h => h
  case hy3_6 =>
    refine Or.inl ⟨by rfl, ?_⟩
    intro w' hSw
    obtain ⟨⟨bb0, bb1, bb2, bb3⟩, bbz⟩ := (NS.call HB6.out hSw).facts
    clear hSw
    go_simp
    try with_reducible rfl
  simp only [Act.put, List.setIfInBounds_toArray, List.set_cons_zero, List.set_cons_succ]
  refine wpAnyH_one (i := 4) (o := ?o4_6) (by kernel_rfl) ?hi4_6 ?hw4_6 ?st4_6
  case hi4_6 => rw [List.getElem?_toArray]; exact rfl
  case hw4_6 => exact rfl
  intro K hK
  have HK4 : Hid _ := hK
  clear hK
  go_simp
  refine (K9.out _).mono ?_
  rintro e wr6_1 ⟨rfl, hq⟩
  have HB6_1 : Hid (Below w6.heap.size w6 wr6_1) := below_call0 (Below.drew (Below.refl _ _)) hq
  clear hq
  go_wp2_with fail
  refine HK4.out _ _ ⟨HB6_1.out, ?_⟩
  clear HK4 K
  try simp only [Act.put, List.setIfInBounds_toArray, List.set_cons_zero, List.set_cons_succ]
  refine wpAnyH_take (i := 5) (oi := ?o5_6) (v := ?v5_6) ?hi5_6 (by kernel_rfl) (by kernel_rfl) (by kernel_rfl) ?hQ5_6 ?hy5_6 HB6_1.out ?more5_6
  case hi5_6 => rw [List.getElem?_toArray]; exact rfl
  case hQ5_6 => exact fun _ _ _ h => h
  case hy5_6 =>
    refine Or.inl ⟨by rfl, ?_⟩
    intro w' hSw
    clear hSw
    go_simp
    try with_reducible rfl
  simp only [Act.put, List.setIfInBounds_toArray, List.set_cons_zero, List.set_cons_succ]
  refine wpAnyH_take (i := 6) (oi := ?o6_6) (v := ?v6_6) ?hi6_6 (by kernel_rfl) (by kernel_rfl) (by kernel_rfl) ?hQ6_6 ?hy6_6 HB6_1.out ?more6_6
  case hi6_6 => rw [List.getElem?_toArray]; exact rfl
  case hQ6_6 => exact fun _ _ _ h => h
  case hy6_6 =>
    refine Or.inl ⟨by rfl, ?_⟩
    intro w' hSw
    clear hSw
    go_simp
    try with_reducible rfl
  simp only [Act.put, List.setIfInBounds_toArray, List.set_cons_zero, List.set_cons_succ]
  refine wpAnyH_take (i := 7) (oi := ?o7_6) (v := ?v7_6) ?hi7_6 (by kernel_rfl) (by kernel_rfl) (by kernel_rfl) ?hQ7_6 ?hy7_6 HB6_1.out ?more7_6
  case hi7_6 => rw [List.getElem?_toArray]; exact rfl
  case hQ7_6 => exact fun _ _ _ h => h
  case hy7_6 =>
    refine Or.inl ⟨by rfl, ?_⟩
    intro w' hSw
    obtain ⟨⟨dd0, dd1, dd2, dd3⟩, ddz⟩ := (NS.call HD6.out hSw).facts
    clear hSw
    go_simp
    try with_reducible rfl
  simp only [Act.put, List.setIfInBounds_toArray, List.set_cons_zero, List.set_cons_succ]
  refine wpAnyH_take (i := 8) (oi := ?o8_6) (v := ?v8_6) ?hi8_6 (by kernel_rfl) (by kernel_rfl) (by kernel_rfl) ?hQ8_6 ?hy8_6 HB6_1.out ?more8_6
  case hi8_6 => rw [List.getElem?_toArray]; exact rfl
  case hQ8_6 => exact fun _ _ _ h => h
  case hy8_6 =>
    refine Or.inl ⟨by rfl, ?_⟩
    intro w' hSw
    obtain ⟨sm0, sm1, sm2, sm3⟩ := (FieldB.call HS6.out hSw).1.facts
    obtain ⟨sg0, sg1, sg2, sg3⟩ := (FieldB.call HS6.out hSw).gap
    clear hSw
    go_simp
    try with_reducible rfl
  simp only [Act.put, List.setIfInBounds_toArray, List.set_cons_zero, List.set_cons_succ]
  refine wpAnyH_take (i := 9) (oi := ?o9_6) (v := ?v9_6) ?hi9_6 (by kernel_rfl) (by kernel_rfl) (by kernel_rfl) ?hQ9_6 ?hy9_6 HB6_1.out ?more9_6
  case hi9_6 => rw [List.getElem?_toArray]; exact rfl
  case hQ9_6 => exact fun _ _ _ h => h
  case hy9_6 =>
    refine Or.inl ⟨by rfl, ?_⟩
    intro w' hSw
    obtain ⟨⟨aa0, aa1, aa2, aa3⟩, aaz⟩ := (NS.call HA6.out hSw).facts
    clear hSw
    go_simp
    try with_reducible rfl
  simp only [Act.put, List.setIfInBounds_toArray, List.set_cons_zero, List.set_cons_succ]
  refine wpAnyH_take (i := 10) (oi := ?o10_6) (v := ?v10_6) ?hi10_6 (by kernel_rfl) (by kernel_rfl) (by kernel_rfl) ?hQ10_6 ?hy10_6 HB6_1.out ?more10_6
  case hi10_6 => rw [List.getElem?_toArray]; exact rfl
  case hQ10_6 => exact fun _ _ _ h => h
  case hy10_6 =>
    refine Or.inl ⟨by rfl, ?_⟩
    intro w' hSw
    obtain ⟨⟨bb0, bb1, bb2, bb3⟩, bbz⟩ := (NS.call HB6.out hSw).facts
    clear hSw
    go_simp
    try with_reducible rfl
  simp only [Act.put, List.setIfInBounds_toArray, List.set_cons_zero, List.set_cons_succ]
  refine wpAnyH_one (i := 11) (o := ?o11_6) (by kernel_rfl) ?hi11_6 ?hw11_6 ?st11_6
  case hi11_6 => rw [List.getElem?_toArray]; exact rfl
  case hw11_6 => exact rfl
  intro K hK
  have HK11 : Hid _ := hK
  clear hK
  go_simp
  refine (K10.out _).mono ?_
  rintro e wr6_2 ⟨rfl, hq⟩
  have HB6_2 : Hid (Below w6.heap.size w6 wr6_2) := below_call0 HB6_1.out hq
  clear hq
  go_wp2_with fail
  refine HK11.out _ _ ⟨HB6_2.out, ?_⟩
  clear HK11 K
  try simp only [Act.put, List.setIfInBounds_toArray, List.set_cons_zero, List.set_cons_succ]
  refine wpAnyH_take (i := 12) (oi := ?o12_6) (v := ?v12_6) ?hi12_6 (by kernel_rfl) (by kernel_rfl) (by kernel_rfl) ?hQ12_6 ?hy12_6 HB6_2.out ?more12_6
  case hi12_6 => rw [List.getElem?_toArray]; exact rfl
  case hQ12_6 => exact fun _ _ _ h => h
  case hy12_6 =>
    refine Or.inl ⟨by rfl, ?_⟩
    intro w' hSw
    clear hSw
    go_simp
    try with_reducible rfl
  simp only [Act.put, List.setIfInBounds_toArray, List.set_cons_zero, List.set_cons_succ]
  refine wpAnyH_take (i := 13) (oi := ?o13_6) (v := ?v13_6) ?hi13_6 (by kernel_rfl) (by kernel_rfl) (by kernel_rfl) ?hQ13_6 ?hy13_6 HB6_2.out ?more13_6
  case hi13_6 => rw [List.getElem?_toArray]; exact rfl
  case hQ13_6 => exact fun _ _ _ h => h
  case hy13_6 =>
    refine Or.inl ⟨by rfl, ?_⟩
    intro w' hSw
    clear hSw
    go_simp
    try with_reducible rfl
  simp only [Act.put, List.setIfInBounds_toArray, List.set_cons_zero, List.set_cons_succ]
  refine wpAnyH_take (i := 14) (oi := ?o14_6) (v := ?v14_6) ?hi14_6 (by kernel_rfl) (by kernel_rfl) (by kernel_rfl) ?hQ14_6 ?hy14_6 HB6_2.out ?more14_6
  case hi14_6 => rw [List.getElem?_toArray]; exact rfl
  case hQ14_6 => exact fun _ _ _ h => h
  case hy14_6 =>
    refine Or.inl ⟨by rfl, ?_⟩
    intro w' hSw
    clear hSw
    go_simp
    try with_reducible rfl
  simp only [Act.put, List.setIfInBounds_toArray, List.set_cons_zero, List.set_cons_succ]
  refine wpAnyH_take (i := 15) (oi := ?o15_6) (v := ?v15_6) ?hi15_6 (by kernel_rfl) (by kernel_rfl) (by kernel_rfl) ?hQ15_6 ?hy15_6 HB6_2.out ?more15_6
  case hi15_6 => rw [List.getElem?_toArray]; exact rfl
  case hQ15_6 => exact fun _ _ _ h => h
  case hy15_6 =>
    refine Or.inl ⟨by rfl, ?_⟩
    intro w' hSw
    obtain ⟨⟨nn0, nn1, nn2, nn3⟩, nnz⟩ := (NS.call HN6.out hSw).facts
    clear hSw
    go_simp
    try with_reducible rfl
  simp only [Act.put, List.setIfInBounds_toArray, List.set_cons_zero, List.set_cons_succ]
  refine wpAnyH_take (i := 16) (oi := ?o16_6) (v := ?v16_6) ?hi16_6 (by kernel_rfl) (by kernel_rfl) (by kernel_rfl) ?hQ16_6 ?hy16_6 HB6_2.out ?more16_6
  case hi16_6 => rw [List.getElem?_toArray]; exact rfl
  case hQ16_6 => exact fun _ _ _ h => h
  case hy16_6 =>
    refine Or.inl ⟨by rfl, ?_⟩
    intro w' hSw
    obtain ⟨sm0, sm1, sm2, sm3⟩ := (FieldB.call HS6.out hSw).1.facts
    obtain ⟨sg0, sg1, sg2, sg3⟩ := (FieldB.call HS6.out hSw).gap
    clear hSw
    go_simp
    try with_reducible rfl
  simp only [Act.put, List.setIfInBounds_toArray, List.set_cons_zero, List.set_cons_succ]
  refine wpAnyH_take (i := 17) (oi := ?o17_6) (v := ?v17_6) ?hi17_6 (by kernel_rfl) (by kernel_rfl) (by kernel_rfl) ?hQ17_6 ?hy17_6 HB6_2.out ?more17_6
  case hi17_6 => rw [List.getElem?_toArray]; exact rfl
  case hQ17_6 => exact fun _ _ _ h => h
  case hy17_6 =>
    refine Or.inl ⟨by rfl, ?_⟩
    intro w' hSw
    clear hSw
    go_simp
    try with_reducible rfl
  simp only [Act.put, List.setIfInBounds_toArray, List.set_cons_zero, List.set_cons_succ]
  refine wpAnyH_take (i := 18) (oi := ?o18_6) (v := ?v18_6) ?hi18_6 (by kernel_rfl) (by kernel_rfl) (by kernel_rfl) ?hQ18_6 ?hy18_6 HB6_2.out ?more18_6
  case hi18_6 => rw [List.getElem?_toArray]; exact rfl
  case hQ18_6 => exact fun _ _ _ h => h
  case hy18_6 =>
    refine Or.inl ⟨by rfl, ?_⟩
    intro w' hSw
    obtain ⟨⟨aa0, aa1, aa2, aa3⟩, aaz⟩ := (NS.call HA6.out hSw).facts
    clear hSw
    go_simp
    try with_reducible rfl
  simp only [Act.put, List.setIfInBounds_toArray, List.set_cons_zero, List.set_cons_succ]
  refine wpAnyH_one (i := 19) (o := ?o19_6) (by kernel_rfl) ?hi19_6 ?hw19_6 ?st19_6
  case hi19_6 => rw [List.getElem?_toArray]; exact rfl
  case hw19_6 => exact rfl
  intro K hK
  have HK19 : Hid _ := hK
  clear hK
  go_simp
  refine (K11.out _).mono ?_
  rintro e wr6_3 ⟨rfl, hq⟩
  have HB6_3 : Hid (Below w6.heap.size w6 wr6_3) := below_call0 HB6_2.out hq
  clear hq
  go_wp2_with fail
  refine HK19.out _ _ ⟨HB6_3.out, ?_⟩
  clear HK19 K
  try simp only [Act.put, List.setIfInBounds_toArray, List.set_cons_zero, List.set_cons_succ]
  refine wpAnyH_take (i := 20) (oi := ?o20_6) (v := ?v20_6) ?hi20_6 (by kernel_rfl) (by kernel_rfl) (by kernel_rfl) ?hQ20_6 ?hy20_6 HB6_3.out ?more20_6
  case hi20_6 => rw [List.getElem?_toArray]; exact rfl
  case hQ20_6 => exact fun _ _ _ h => h
  case hy20_6 =>
    refine Or.inl ⟨by rfl, ?_⟩
    intro w' hSw
    clear hSw
    go_simp
    try with_reducible rfl
  simp only [Act.put, List.setIfInBounds_toArray, List.set_cons_zero, List.set_cons_succ]
  refine wpAnyH_take (i := 21) (oi := ?o21_6) (v := ?v21_6) ?hi21_6 (by kernel_rfl) (by kernel_rfl) (by kernel_rfl) ?hQ21_6 ?hy21_6 HB6_3.out ?more21_6
  case hi21_6 => rw [List.getElem?_toArray]; exact rfl
  case hQ21_6 => exact fun _ _ _ h => h
  case hy21_6 =>
    refine Or.inl ⟨by rfl, ?_⟩
    intro w' hSw
    clear hSw
    go_simp
    try with_reducible rfl
  simp only [Act.put, List.setIfInBounds_toArray, List.set_cons_zero, List.set_cons_succ]
  refine wpAnyH_take (i := 22) (oi := ?o22_6) (v := ?v22_6) ?hi22_6 (by kernel_rfl) (by kernel_rfl) (by kernel_rfl) ?hQ22_6 ?hy22_6 HB6_3.out ?more22_6
  case hi22_6 => rw [List.getElem?_toArray]; exact rfl
  case hQ22_6 => exact fun _ _ _ h => h
  case hy22_6 =>
    refine Or.inl ⟨by rfl, ?_⟩
    intro w' hSw
    clear hSw
    go_simp
    try with_reducible rfl
  simp only [Act.put, List.setIfInBounds_toArray, List.set_cons_zero, List.set_cons_succ]
  refine wpAnyH_one (i := 23) (o := ?o23_6) (by kernel_rfl) ?hi23_6 ?hw23_6 ?st23_6
  case hi23_6 => rw [List.getElem?_toArray]; exact rfl
  case hw23_6 => exact rfl
  intro K hK
  have HK23 : Hid _ := hK
  clear hK
  go_simp
  refine (half_any _ (Glob.call HG6.out HB6_3.out)).mono ?_
  rintro e w7 ⟨rfl, hq⟩
  have HB6_4 : Hid (Below w6.heap.size w6 w7) := below_call0 HB6_3.out hq
  clear hq
  go_wp2_with fail
  refine HK23.out _ _ ⟨HB6_4.out, ?_⟩
  clear HK23 K
  try simp only [Act.put, List.setIfInBounds_toArray, List.set_cons_zero, List.set_cons_succ]
  refine wpAnyH_take (i := 24) (oi := ?o24_6) (v := ?v24_6) ?hi24_6 (by kernel_rfl) (by kernel_rfl) (by kernel_rfl) ?hQ24_6 ?hy24_6 HB6_4.out ?more24_6
  case hi24_6 => rw [List.getElem?_toArray]; exact rfl
  case hQ24_6 => exact fun _ _ _ h => h
  case hy24_6 =>
    refine Or.inl ⟨by rfl, ?_⟩
    intro w' hSw
    clear hSw
    go_simp
    try with_reducible rfl
  simp only [Act.put, List.setIfInBounds_toArray, List.set_cons_zero, List.set_cons_succ]
  refine wpAnyH_take (i := 25) (oi := ?o25_6) (v := ?v25_6) ?hi25_6 (by kernel_rfl) (by kernel_rfl) (by kernel_rfl) ?hQ25_6 ?hy25_6 HB6_4.out ?more25_6
  case hi25_6 => rw [List.getElem?_toArray]; exact rfl
  case hQ25_6 => exact fun _ _ _ h => h
  case hy25_6 =>
    refine Or.inl ⟨by rfl, ?_⟩
    intro w' hSw
    clear hSw
    go_simp
    try with_reducible rfl
  simp only [Act.put, List.setIfInBounds_toArray, List.set_cons_zero, List.set_cons_succ]
  refine wpAnyH_done (by kernel_rfl) ?_ _
  have HA7 : Hid (NS w7 (w.heap.size) a) := NS.call HA6.out HB6_4.out
  have HB7 : Hid (NS w7 (w.heap.size + 1) b) := NS.call HB6.out HB6_4.out
  have HP7 : Hid (NS w7 (w2.heap.size) p) := NS.call HP6.out HB6_4.out
  have HD7 : Hid (NS w7 (w3.heap.size) d) := NS.call HD6.out HB6_4.out
  have HN7 : Hid (NS w7 (w4.heap.size) n) := NS.call HN6.out HB6_4.out
  have HG7 : Hid (Glob w7) := Glob.call HG6.out HB6_4.out
  have HF7 : Hid (FieldB w7 g m) := FieldB.call HF6.out HB6_4.out
  have HS7 : Hid (FieldB w7 w1.heap.size m) := FieldB.call HS6.out HB6_4.out
  have HW7 : Hid (Below w.heap.size w w7) := below_call0 HW6.out HB6_4.out
  clear HA6 HB6 HP6 HD6 HN6 HW6 HG6 HF6 HS6 HB6_1 HB6_2 HB6_3 HB6_4
  go_wp2_with fail
  go_ret
  exact ⟨rfl, HW7.out⟩

set_option maxRecDepth 100000 in
set_option maxHeartbeats 8000000 in
theorem sums_nb (base : Bool) (m a b p d n : Nat)
    (k1 : ∀ w, Glob w → GlobQ w → Calls Tryd.prog 9 #[.bool base] w fun e w' => ∃ g, e = .returned (.tuple #[.pointer (some ⟨g, 0, none⟩), .agg #[.int .u64 (limb m 0 : Nat), .int .u64 (limb m 1 : Nat), .int .u64 (limb m 2 : Nat), .int .u64 (limb m 3 : Nat), .int .u64 (limb (R256 - m) 0 : Nat), .int .u64 (limb (R256 - m) 1 : Nat), .int .u64 (limb (R256 - m) 2 : Nat), .int .u64 (limb (R256 - m) 3 : Nat)]]) ∧ FieldB w' g m ∧ Below w.heap.size w w')
    (k2 : ∀ (g : Nat) (w : World), FieldB w g m → Calls Tryd.prog 10 #[.pointer (some ⟨g, 0, none⟩), .agg #[.int .u64 (limb (a) 0 : Nat), .int .u64 (limb (a) 1 : Nat), .int .u64 (limb (a) 2 : Nat), .int .u64 (limb (a) 3 : Nat)], .agg #[.int .u64 (limb (b) 0 : Nat), .int .u64 (limb (b) 1 : Nat), .int .u64 (limb (b) 2 : Nat), .int .u64 (limb (b) 3 : Nat)]] w fun e w' => e = .returned (.tuple #[.agg #[.int .u64 (limb (p) 0 : Nat), .int .u64 (limb (p) 1 : Nat), .int .u64 (limb (p) 2 : Nat), .int .u64 (limb (p) 3 : Nat)], .int .i64 20]) ∧ Below w.heap.size w w')
    (k3 : ∀ (g : Nat) (w : World), FieldB w g m → Calls Tryd.prog 11 #[.pointer (some ⟨g, 0, none⟩), .agg #[.int .u64 (limb (a) 0 : Nat), .int .u64 (limb (a) 1 : Nat), .int .u64 (limb (a) 2 : Nat), .int .u64 (limb (a) 3 : Nat)], .agg #[.int .u64 (limb (b) 0 : Nat), .int .u64 (limb (b) 1 : Nat), .int .u64 (limb (b) 2 : Nat), .int .u64 (limb (b) 3 : Nat)]] w fun e w' => e = .returned (.tuple #[.agg #[.int .u64 (limb (d) 0 : Nat), .int .u64 (limb (d) 1 : Nat), .int .u64 (limb (d) 2 : Nat), .int .u64 (limb (d) 3 : Nat)], .int .i64 20]) ∧ Below w.heap.size w w')
    (k4 : ∀ (g : Nat) (w : World), FieldB w g m → Calls Tryd.prog 12 #[.pointer (some ⟨g, 0, none⟩), .agg #[.int .u64 (limb (a) 0 : Nat), .int .u64 (limb (a) 1 : Nat), .int .u64 (limb (a) 2 : Nat), .int .u64 (limb (a) 3 : Nat)]] w fun e w' => e = .returned (.tuple #[.agg #[.int .u64 (limb (n) 0 : Nat), .int .u64 (limb (n) 1 : Nat), .int .u64 (limb (n) 2 : Nat), .int .u64 (limb (n) 3 : Nat)], .int .i64 0]) ∧ Below w.heap.size w w')
    (k5 : ∀ w, Calls Tryd.prog 13 #[.agg #[.int .u64 (limb m 0 : Nat), .int .u64 (limb m 1 : Nat), .int .u64 (limb m 2 : Nat), .int .u64 (limb m 3 : Nat), .int .u64 (limb (R256 - m) 0 : Nat), .int .u64 (limb (R256 - m) 1 : Nat), .int .u64 (limb (R256 - m) 2 : Nat), .int .u64 (limb (R256 - m) 3 : Nat)], .agg #[.int .u64 (limb (a) 0 : Nat), .int .u64 (limb (a) 1 : Nat), .int .u64 (limb (a) 2 : Nat), .int .u64 (limb (a) 3 : Nat)], .agg #[.int .u64 (limb (b) 0 : Nat), .int .u64 (limb (b) 1 : Nat), .int .u64 (limb (b) 2 : Nat), .int .u64 (limb (b) 3 : Nat)]] w fun e w' => e = .returned (.int .i64 20) ∧ Below w.heap.size w w')
    (k6 : ∀ w, Calls Tryd.prog 14 #[.agg #[.int .u64 (limb m 0 : Nat), .int .u64 (limb m 1 : Nat), .int .u64 (limb m 2 : Nat), .int .u64 (limb m 3 : Nat), .int .u64 (limb (R256 - m) 0 : Nat), .int .u64 (limb (R256 - m) 1 : Nat), .int .u64 (limb (R256 - m) 2 : Nat), .int .u64 (limb (R256 - m) 3 : Nat)], .agg #[.int .u64 (limb (a) 0 : Nat), .int .u64 (limb (a) 1 : Nat), .int .u64 (limb (a) 2 : Nat), .int .u64 (limb (a) 3 : Nat)]] w fun e w' => e = .returned (.bool true) ∧ Below w.heap.size w w')
    (k7 : ∀ (g : Nat) (w : World), FieldB w g m → Calls Tryd.prog 15 #[.pointer (some ⟨g, 0, none⟩)] w fun e w' => e = .returned (.agg #[.int .u64 (limb (m) 0 : Nat), .int .u64 (limb (m) 1 : Nat), .int .u64 (limb (m) 2 : Nat), .int .u64 (limb (m) 3 : Nat)]) ∧ Below w.heap.size w w')
    (k8 : ∀ (g : Nat) (w : World), FieldB w g m → Calls Tryd.prog 16 #[.pointer (some ⟨g, 0, none⟩), .agg #[.int .u64 (limb (a) 0 : Nat), .int .u64 (limb (a) 1 : Nat), .int .u64 (limb (a) 2 : Nat), .int .u64 (limb (a) 3 : Nat)]] w fun e w' => e = .returned (.int .i64 0) ∧ Below w.heap.size w w')
    (k11 : ∀ w, Calls Tryd.prog 17 #[.agg #[.int .u64 (limb m 0 : Nat), .int .u64 (limb m 1 : Nat), .int .u64 (limb m 2 : Nat), .int .u64 (limb m 3 : Nat), .int .u64 (limb (R256 - m) 0 : Nat), .int .u64 (limb (R256 - m) 1 : Nat), .int .u64 (limb (R256 - m) 2 : Nat), .int .u64 (limb (R256 - m) 3 : Nat)], .agg #[.int .u64 0, .int .u64 0, .int .u64 0, .int .u64 0], .agg #[.int .u64 (limb (a) 0 : Nat), .int .u64 (limb (a) 1 : Nat), .int .u64 (limb (a) 2 : Nat), .int .u64 (limb (a) 3 : Nat)]] w fun e w' => e = .returned (.agg #[.int .u64 (limb (n) 0 : Nat), .int .u64 (limb (n) 1 : Nat), .int .u64 (limb (n) 2 : Nat), .int .u64 (limb (n) 3 : Nat)]) ∧ Below w.heap.size w w')
    (zp : eq4 (limb p 0 : Nat) (limb p 1 : Nat) (limb p 2 : Nat) (limb p 3 : Nat) 0 0 0 0 = true)
    (zd : eq4 (limb d 0 : Nat) (limb d 1 : Nat) (limb d 2 : Nat) (limb d 3 : Nat) 0 0 0 0 = true)
    (w : World) (hG : Glob w) (hQ : GlobQ w) : Calls Tryd.prog 3 #[.bool base, .agg #[.int .u64 (limb (a) 0 : Nat), .int .u64 (limb (a) 1 : Nat), .int .u64 (limb (a) 2 : Nat), .int .u64 (limb (a) 3 : Nat)], .agg #[.int .u64 (limb (b) 0 : Nat), .int .u64 (limb (b) 1 : Nat), .int .u64 (limb (b) 2 : Nat), .int .u64 (limb (b) 3 : Nat)]] w fun e w' => e = .returned (.bool true) ∧ Below w.heap.size w w' := by
  have HG : Hid (Glob w ∧ GlobQ w) := ⟨hG, hQ⟩
  have K1 : Hid _ := k1
  have K2 : Hid _ := k2
  have K3 : Hid _ := k3
  have K4 : Hid _ := k4
  have K5 : Hid _ := k5
  have K6 : Hid _ := k6
  have K7 : Hid _ := k7
  have K8 : Hid _ := k8
  have K11 : Hid _ := k11
  have em : eq4 (limb m 0 : Nat) (limb m 1 : Nat) (limb m 2 : Nat) (limb m 3 : Nat) (limb m 0 : Nat) (limb m 1 : Nat) (limb m 2 : Nat) (limb m 3 : Nat) = true := by simp [eq4]
  have ep : eq4 (limb p 0 : Nat) (limb p 1 : Nat) (limb p 2 : Nat) (limb p 3 : Nat) (limb p 0 : Nat) (limb p 1 : Nat) (limb p 2 : Nat) (limb p 3 : Nat) = true := by simp [eq4]
  have ed : eq4 (limb d 0 : Nat) (limb d 1 : Nat) (limb d 2 : Nat) (limb d 3 : Nat) (limb d 0 : Nat) (limb d 1 : Nat) (limb d 2 : Nat) (limb d 3 : Nat) = true := by simp [eq4]
  have en : eq4 (limb n 0 : Nat) (limb n 1 : Nat) (limb n 2 : Nat) (limb n 3 : Nat) (limb n 0 : Nat) (limb n 1 : Nat) (limb n 2 : Nat) (limb n 3 : Nat) = true := by simp [eq4]
  clear hG hQ k1 k2 k3 k4 k5 k6 k7 k8 k11
  go_enter Tryd.func3, Tryd.ntmps3
  go_wp2_with fail
  refine (K1.out _ (Glob.alloc (Glob.alloc HG.out.1)) (GlobQ.alloc (GlobQ.alloc HG.out.2))).mono ?_
  rintro e w1 ⟨g, rfl, hF1, hb1⟩
  have HA1 : Hid (NS w1 (w.heap.size) a) := by
    have t := NS.call (W := _) (NS.alloc (NS.new _ _ _)) hb1
    try simp only [World.size_alloc] at t
    exact t
  have HB1 : Hid (NS w1 (w.heap.size + 1) b) := by
    have t := NS.call (W := _) (NS.new _ _ _) hb1
    try simp only [World.size_alloc] at t
    exact t
  have HW1 : Hid (Below w.heap.size w w1) := below_call0 (below_alloc0 (below_alloc0 (Below.refl _ _) _) _) hb1
  have HG1 : Hid (Glob w1) := Glob.call (Glob.alloc (Glob.alloc HG.out.1)) hb1
  have HF1 : Hid (FieldB w1 g m) := hF1
  clear hb1
  clear hF1
  obtain ⟨⟨aa0, aa1, aa2, aa3⟩, aaz⟩ := HA1.out.facts
  obtain ⟨⟨bb0, bb1, bb2, bb3⟩, bbz⟩ := HB1.out.facts
  go_wp2_with fail
  refine (K2.out g _ (FieldB.alloc HF1.out)).mono ?_
  rintro e w2 ⟨rfl, hb2⟩
  have HA2 : Hid (NS w2 (w.heap.size) a) := NS.acall HA1.out hb2
  have HB2 : Hid (NS w2 (w.heap.size + 1) b) := NS.acall HB1.out hb2
  have HW2 : Hid (Below w.heap.size w w2) := below_acall HW1.out hb2
  have HG2 : Hid (Glob w2) := Glob.call (Glob.alloc HG1.out) hb2
  have HF2 : Hid (FieldB w2 g m) := FieldB.call (FieldB.alloc HF1.out) hb2
  have HS2 : Hid (FieldB w2 w1.heap.size m) := FieldB.call (FieldB.new w1 m _) hb2
  clear hb2
  clear HA1 HB1 HW1 HG1 HF1
  clear aa0 aa1 aa2 aa3 aaz bb0 bb1 bb2 bb3 bbz
  obtain ⟨⟨aa0, aa1, aa2, aa3⟩, aaz⟩ := HA2.out.facts
  obtain ⟨⟨bb0, bb1, bb2, bb3⟩, bbz⟩ := HB2.out.facts
  go_wp2_with fail
  refine (K3.out g _ (FieldB.alloc HF2.out)).mono ?_
  rintro e w3 ⟨rfl, hb3⟩
  have HA3 : Hid (NS w3 (w.heap.size) a) := NS.acall HA2.out hb3
  have HB3 : Hid (NS w3 (w.heap.size + 1) b) := NS.acall HB2.out hb3
  have HP3 : Hid (NS w3 w2.heap.size p) := NS.ncall hb3
  have HW3 : Hid (Below w.heap.size w w3) := below_acall HW2.out hb3
  have HG3 : Hid (Glob w3) := Glob.call (Glob.alloc HG2.out) hb3
  have HF3 : Hid (FieldB w3 g m) := FieldB.call (FieldB.alloc HF2.out) hb3
  have HS3 : Hid (FieldB w3 w1.heap.size m) := FieldB.call (FieldB.alloc HS2.out) hb3
  clear hb3
  clear HA2 HB2 HW2 HG2 HF2 HS2
  clear aa0 aa1 aa2 aa3 aaz bb0 bb1 bb2 bb3 bbz
  obtain ⟨⟨aa0, aa1, aa2, aa3⟩, aaz⟩ := HA3.out.facts
  go_wp2_with fail
  refine (K4.out g _ (FieldB.alloc HF3.out)).mono ?_
  rintro e w4 ⟨rfl, hb4⟩
  have HA4 : Hid (NS w4 (w.heap.size) a) := NS.acall HA3.out hb4
  have HB4 : Hid (NS w4 (w.heap.size + 1) b) := NS.acall HB3.out hb4
  have HP4 : Hid (NS w4 (w2.heap.size) p) := NS.acall HP3.out hb4
  have HD4 : Hid (NS w4 w3.heap.size d) := NS.ncall hb4
  have HW4 : Hid (Below w.heap.size w w4) := below_acall HW3.out hb4
  have HG4 : Hid (Glob w4) := Glob.call (Glob.alloc HG3.out) hb4
  have HF4 : Hid (FieldB w4 g m) := FieldB.call (FieldB.alloc HF3.out) hb4
  have HS4 : Hid (FieldB w4 w1.heap.size m) := FieldB.call (FieldB.alloc HS3.out) hb4
  clear hb4
  clear HA3 HB3 HP3 HW3 HG3 HF3 HS3
  clear aa0 aa1 aa2 aa3 aaz
  obtain ⟨⟨aa0, aa1, aa2, aa3⟩, aaz⟩ := HA4.out.facts
  obtain ⟨⟨bb0, bb1, bb2, bb3⟩, bbz⟩ := HB4.out.facts
  obtain ⟨sm0, sm1, sm2, sm3⟩ := (HS4.out).1.facts
  obtain ⟨sg0, sg1, sg2, sg3⟩ := (HS4.out).gap
  have sz := (HS4.out).2.2
  go_wp2_with fail
  refine (K5.out _).mono ?_
  rintro e w5 ⟨rfl, hb5⟩
  have HA5 : Hid (NS w5 (w.heap.size) a) := NS.acall HA4.out hb5
  have HB5 : Hid (NS w5 (w.heap.size + 1) b) := NS.acall HB4.out hb5
  have HP5 : Hid (NS w5 (w2.heap.size) p) := NS.acall HP4.out hb5
  have HD5 : Hid (NS w5 (w3.heap.size) d) := NS.acall HD4.out hb5
  have HN5 : Hid (NS w5 w4.heap.size n) := NS.ncall hb5
  have HW5 : Hid (Below w.heap.size w w5) := below_acall HW4.out hb5
  have HG5 : Hid (Glob w5) := Glob.call (Glob.alloc HG4.out) hb5
  have HF5 : Hid (FieldB w5 g m) := FieldB.call (FieldB.alloc HF4.out) hb5
  have HS5 : Hid (FieldB w5 w1.heap.size m) := FieldB.call (FieldB.alloc HS4.out) hb5
  clear hb5
  clear HA4 HB4 HP4 HD4 HW4 HG4 HF4 HS4
  clear aa0 aa1 aa2 aa3 aaz bb0 bb1 bb2 bb3 bbz sm0 sg0 sm1 sg1 sm2 sg2 sm3 sg3 sz
  go_wp2_with fail
  refine wp_region_H (fun w' => Below w5.heap.size w5 w') 33 rfl (by kernel_rfl) ?_
  refine wpAnyH_take (i := 0) (oi := ?o0_5) (v := ?v0_5) ?hi0_5 (by kernel_rfl) (by kernel_rfl) (by kernel_rfl) ?hQ0_5 ?hy0_5 (Below.drew (Below.refl _ _)) ?more0_5
  case hi0_5 => rw [List.getElem?_toArray]; exact rfl
  case hQ0_5 => exact fun _ _ _ h => h
  case hy0_5 =>
    refine Or.inl ⟨by rfl, ?_⟩
    intro w' hSw
    clear hSw
    go_simp
    try with_reducible rfl
  simp only [Act.put, List.setIfInBounds_toArray, List.set_cons_zero, List.set_cons_succ]
  refine wpAnyH_take (i := 1) (oi := ?o1_5) (v := ?v1_5) ?hi1_5 (by kernel_rfl) (by kernel_rfl) (by kernel_rfl) ?hQ1_5 ?hy1_5 (Below.drew (Below.refl _ _)) ?more1_5
  case hi1_5 => rw [List.getElem?_toArray]; exact rfl
  case hQ1_5 => exact fun _ _ _ h => h
  case hy1_5 =>
    refine Or.inl ⟨by rfl, ?_⟩
    intro w' hSw
    clear hSw
    go_simp
    try with_reducible rfl
  simp only [Act.put, List.setIfInBounds_toArray, List.set_cons_zero, List.set_cons_succ]
  refine wpAnyH_take (i := 2) (oi := ?o2_5) (v := ?v2_5) ?hi2_5 (by kernel_rfl) (by kernel_rfl) (by kernel_rfl) ?hQ2_5 ?hy2_5 (Below.drew (Below.refl _ _)) ?more2_5
  case hi2_5 => rw [List.getElem?_toArray]; exact rfl
  case hQ2_5 => exact fun _ _ _ h => h
  case hy2_5 =>
    refine Or.inl ⟨by rfl, ?_⟩
    intro w' hSw
    clear hSw
    go_simp
    try with_reducible rfl
  simp only [Act.put, List.setIfInBounds_toArray, List.set_cons_zero, List.set_cons_succ]
  refine wpAnyH_take (i := 3) (oi := ?o3_5) (v := ?v3_5) ?hi3_5 (by kernel_rfl) (by kernel_rfl) (by kernel_rfl) ?hQ3_5 ?hy3_5 (Below.drew (Below.refl _ _)) ?more3_5
  case hi3_5 => rw [List.getElem?_toArray]; exact rfl
  case hQ3_5 => exact fun _ _ _ h => h
  case hy3_5 =>
    refine Or.inl ⟨by rfl, ?_⟩
    intro w' hSw
    clear hSw
    go_simp
    try with_reducible rfl
  simp only [Act.put, List.setIfInBounds_toArray, List.set_cons_zero, List.set_cons_succ]
  refine wpAnyH_take (i := 4) (oi := ?o4_5) (v := ?v4_5) ?hi4_5 (by kernel_rfl) (by kernel_rfl) (by kernel_rfl) ?hQ4_5 ?hy4_5 (Below.drew (Below.refl _ _)) ?more4_5
  case hi4_5 => rw [List.getElem?_toArray]; exact rfl
  case hQ4_5 => exact fun _ _ _ h => h
  case hy4_5 =>
    refine Or.inl ⟨by rfl, ?_⟩
    intro w' hSw
    clear hSw
    go_simp
    try with_reducible rfl
  simp only [Act.put, List.setIfInBounds_toArray, List.set_cons_zero, List.set_cons_succ]
  refine wpAnyH_take (i := 5) (oi := ?o5_5) (v := ?v5_5) ?hi5_5 (by kernel_rfl) (by kernel_rfl) (by kernel_rfl) ?hQ5_5 ?hy5_5 (Below.drew (Below.refl _ _)) ?more5_5
  case hi5_5 => rw [List.getElem?_toArray]; exact rfl
  case hQ5_5 => exact fun _ _ _ h => h
  case hy5_5 =>
    refine Or.inl ⟨by rfl, ?_⟩
    intro w' hSw
    clear hSw
    go_simp
    try with_reducible rfl
  simp only [Act.put, List.setIfInBounds_toArray, List.set_cons_zero, List.set_cons_succ]
  refine wpAnyH_take (i := 6) (oi := ?o6_5) (v := ?v6_5) ?hi6_5 (by kernel_rfl) (by kernel_rfl) (by kernel_rfl) ?hQ6_5 ?hy6_5 (Below.drew (Below.refl _ _)) ?more6_5
  case hi6_5 => rw [List.getElem?_toArray]; exact rfl
  case hQ6_5 => exact fun _ _ _ h => h
  case hy6_5 =>
    refine Or.inl ⟨by rfl, ?_⟩
    intro w' hSw
    clear hSw
    go_simp
    try with_reducible rfl
  simp only [Act.put, List.setIfInBounds_toArray, List.set_cons_zero, List.set_cons_succ]
  refine wpAnyH_take (i := 7) (oi := ?o7_5) (v := ?v7_5) ?hi7_5 (by kernel_rfl) (by kernel_rfl) (by kernel_rfl) ?hQ7_5 ?hy7_5 (Below.drew (Below.refl _ _)) ?more7_5
  case hi7_5 => rw [List.getElem?_toArray]; exact rfl
  case hQ7_5 => exact fun _ _ _ h => h
  case hy7_5 =>
    refine Or.inl ⟨by rfl, ?_⟩
    intro w' hSw
    clear hSw
    go_simp
    try with_reducible rfl
  simp only [Act.put, List.setIfInBounds_toArray, List.set_cons_zero, List.set_cons_succ]
  refine wpAnyH_take (i := 8) (oi := ?o8_5) (v := ?v8_5) ?hi8_5 (by kernel_rfl) (by kernel_rfl) (by kernel_rfl) ?hQ8_5 ?hy8_5 (Below.drew (Below.refl _ _)) ?more8_5
  case hi8_5 => rw [List.getElem?_toArray]; exact rfl
  case hQ8_5 => exact fun _ _ _ h => h
  case hy8_5 =>
    refine Or.inl ⟨by rfl, ?_⟩
    intro w' hSw
    clear hSw
    go_simp
    try with_reducible rfl
  simp only [Act.put, List.setIfInBounds_toArray, List.set_cons_zero, List.set_cons_succ]
  refine wpAnyH_take (i := 9) (oi := ?o9_5) (v := ?v9_5) ?hi9_5 (by kernel_rfl) (by kernel_rfl) (by kernel_rfl) ?hQ9_5 ?hy9_5 (Below.drew (Below.refl _ _)) ?more9_5
  case hi9_5 => rw [List.getElem?_toArray]; exact rfl
  case hQ9_5 => exact fun _ _ _ h => h
  case hy9_5 =>
    refine Or.inl ⟨by rfl, ?_⟩
    intro w' hSw
    clear hSw
    go_simp
    try with_reducible rfl
  simp only [Act.put, List.setIfInBounds_toArray, List.set_cons_zero, List.set_cons_succ]
  refine wpAnyH_take (i := 10) (oi := ?o10_5) (v := ?v10_5) ?hi10_5 (by kernel_rfl) (by kernel_rfl) (by kernel_rfl) ?hQ10_5 ?hy10_5 (Below.drew (Below.refl _ _)) ?more10_5
  case hi10_5 => rw [List.getElem?_toArray]; exact rfl
  case hQ10_5 => exact fun _ _ _ h => h
  case hy10_5 =>
    refine Or.inl ⟨by rfl, ?_⟩
    intro w' hSw
    clear hSw
    go_simp
    try with_reducible rfl
  simp only [Act.put, List.setIfInBounds_toArray, List.set_cons_zero, List.set_cons_succ]
  refine wpAnyH_take (i := 11) (oi := ?o11_5) (v := ?v11_5) ?hi11_5 (by kernel_rfl) (by kernel_rfl) (by kernel_rfl) ?hQ11_5 ?hy11_5 (Below.drew (Below.refl _ _)) ?more11_5
  case hi11_5 => rw [List.getElem?_toArray]; exact rfl
  case hQ11_5 => exact fun _ _ _ h => h
  case hy11_5 =>
    refine Or.inl ⟨by rfl, ?_⟩
    intro w' hSw
    obtain ⟨sm0, sm1, sm2, sm3⟩ := (FieldB.call HS5.out hSw).1.facts
    obtain ⟨sg0, sg1, sg2, sg3⟩ := (FieldB.call HS5.out hSw).gap
    clear hSw
    go_simp
    try with_reducible rfl
  simp only [Act.put, List.setIfInBounds_toArray, List.set_cons_zero, List.set_cons_succ]
  refine wpAnyH_take (i := 12) (oi := ?o12_5) (v := ?v12_5) ?hi12_5 (by kernel_rfl) (by kernel_rfl) (by kernel_rfl) ?hQ12_5 ?hy12_5 (Below.drew (Below.refl _ _)) ?more12_5
  case hi12_5 => rw [List.getElem?_toArray]; exact rfl
  case hQ12_5 => exact fun _ _ _ h => h
  case hy12_5 =>
    refine Or.inl ⟨by rfl, ?_⟩
    intro w' hSw
    obtain ⟨⟨aa0, aa1, aa2, aa3⟩, aaz⟩ := (NS.call HA5.out hSw).facts
    clear hSw
    go_simp
    try with_reducible rfl
  simp only [Act.put, List.setIfInBounds_toArray, List.set_cons_zero, List.set_cons_succ]
  refine wpAnyH_one (i := 13) (o := ?o13_5) (by kernel_rfl) ?hi13_5 ?hw13_5 ?st13_5
  case hi13_5 => rw [List.getElem?_toArray]; exact rfl
  case hw13_5 => exact rfl
  intro K hK
  have HK13 : Hid _ := hK
  clear hK
  go_simp
  refine (K6.out _).mono ?_
  rintro e wr5_1 ⟨rfl, hq⟩
  have HB5_1 : Hid (Below w5.heap.size w5 wr5_1) := below_call0 (Below.drew (Below.refl _ _)) hq
  clear hq
  go_wp2_with fail
  refine HK13.out _ _ ⟨HB5_1.out, ?_⟩
  clear HK13 K
  try simp only [Act.put, List.setIfInBounds_toArray, List.set_cons_zero, List.set_cons_succ]
  refine wpAnyH_take (i := 14) (oi := ?o14_5) (v := ?v14_5) ?hi14_5 (by kernel_rfl) (by kernel_rfl) (by kernel_rfl) ?hQ14_5 ?hy14_5 HB5_1.out ?more14_5
  case hi14_5 => rw [List.getElem?_toArray]; exact rfl
  case hQ14_5 => exact fun _ _ _ h => h
  case hy14_5 =>
    refine Or.inl ⟨by rfl, ?_⟩
    intro w' hSw
    clear hSw
    go_simp
    try with_reducible rfl
  simp only [Act.put, List.setIfInBounds_toArray, List.set_cons_zero, List.set_cons_succ]
  refine wpAnyH_take (i := 15) (oi := ?o15_5) (v := ?v15_5) ?hi15_5 (by kernel_rfl) (by kernel_rfl) (by kernel_rfl) ?hQ15_5 ?hy15_5 HB5_1.out ?more15_5
  case hi15_5 => rw [List.getElem?_toArray]; exact rfl
  case hQ15_5 => exact fun _ _ _ h => h
  case hy15_5 =>
    refine Or.inl ⟨by rfl, ?_⟩
    intro w' hSw
    clear hSw
    go_simp
    try with_reducible rfl
  simp only [Act.put, List.setIfInBounds_toArray, List.set_cons_zero, List.set_cons_succ]
  refine wpAnyH_take (i := 16) (oi := ?o16_5) (v := ?v16_5) ?hi16_5 (by kernel_rfl) (by kernel_rfl) (by kernel_rfl) ?hQ16_5 ?hy16_5 HB5_1.out ?more16_5
  case hi16_5 => rw [List.getElem?_toArray]; exact rfl
  case hQ16_5 => exact fun _ _ _ h => h
  case hy16_5 =>
    refine Or.inl ⟨by rfl, ?_⟩
    intro w' hSw
    clear hSw
    go_simp
    try with_reducible rfl
  simp only [Act.put, List.setIfInBounds_toArray, List.set_cons_zero, List.set_cons_succ]
  refine wpAnyH_take (i := 17) (oi := ?o17_5) (v := ?v17_5) ?hi17_5 (by kernel_rfl) (by kernel_rfl) (by kernel_rfl) ?hQ17_5 ?hy17_5 HB5_1.out ?more17_5
  case hi17_5 => rw [List.getElem?_toArray]; exact rfl
  case hQ17_5 => exact fun _ _ _ h => h
  case hy17_5 =>
    refine Or.inl ⟨by rfl, ?_⟩
    intro w' hSw
    clear hSw
    go_simp
    try with_reducible rfl
  simp only [Act.put, List.setIfInBounds_toArray, List.set_cons_zero, List.set_cons_succ]
  refine wpAnyH_take (i := 19) (oi := ?o19_5) (v := ?v19_5) ?hi19_5 (by kernel_rfl) (by kernel_rfl) (by kernel_rfl) ?hQ19_5 ?hy19_5 HB5_1.out ?more19_5
  case hi19_5 => rw [List.getElem?_toArray]; exact rfl
  case hQ19_5 => exact fun _ _ _ h => h
  case hy19_5 =>
    refine Or.inl ⟨by rfl, ?_⟩
    intro w' hSw
    obtain ⟨sm0, sm1, sm2, sm3⟩ := (FieldB.call HS5.out hSw).1.facts
    obtain ⟨sg0, sg1, sg2, sg3⟩ := (FieldB.call HS5.out hSw).gap
    clear hSw
    go_simp
    try with_reducible rfl
  simp only [Act.put, List.setIfInBounds_toArray, List.set_cons_zero, List.set_cons_succ]
  refine wpAnyH_take (i := 20) (oi := ?o20_5) (v := ?v20_5) ?hi20_5 (by kernel_rfl) (by kernel_rfl) (by kernel_rfl) ?hQ20_5 ?hy20_5 HB5_1.out ?more20_5
  case hi20_5 => rw [List.getElem?_toArray]; exact rfl
  case hQ20_5 => exact fun _ _ _ h => h
  case hy20_5 =>
    refine Or.inl ⟨by rfl, ?_⟩
    intro w' hSw
    obtain ⟨sm0, sm1, sm2, sm3⟩ := (FieldB.call HS5.out hSw).1.facts
    obtain ⟨sg0, sg1, sg2, sg3⟩ := (FieldB.call HS5.out hSw).gap
    clear hSw
    go_simp
    try with_reducible rfl
  simp only [Act.put, List.setIfInBounds_toArray, List.set_cons_zero, List.set_cons_succ]
  refine wpAnyH_one (i := 18) (o := ?o18_5) (by kernel_rfl) ?hi18_5 ?hw18_5 ?st18_5
  case hi18_5 => rw [List.getElem?_toArray]; exact rfl
  case hw18_5 => exact rfl
  intro K hK
  have HK18 : Hid _ := hK
  clear hK
  go_simp
  refine (K7.out g _ (FieldB.call HF5.out HB5_1.out)).mono ?_
  rintro e wr5_2 ⟨rfl, hq⟩
  have HB5_2 : Hid (Below w5.heap.size w5 wr5_2) := below_call0 HB5_1.out hq
  clear hq
  go_wp2_with fail
  refine HK18.out _ _ ⟨HB5_2.out, ?_⟩
  clear HK18 K
  try simp only [Act.put, List.setIfInBounds_toArray, List.set_cons_zero, List.set_cons_succ]
  refine wpAnyH_take (i := 21) (oi := ?o21_5) (v := ?v21_5) ?hi21_5 (by kernel_rfl) (by kernel_rfl) (by kernel_rfl) ?hQ21_5 ?hy21_5 HB5_2.out ?more21_5
  case hi21_5 => rw [List.getElem?_toArray]; exact rfl
  case hQ21_5 => exact fun _ _ _ h => h
  case hy21_5 =>
    refine Or.inl ⟨by rfl, ?_⟩
    intro w' hSw
    clear hSw
    go_simp
    try with_reducible rfl
  simp only [Act.put, List.setIfInBounds_toArray, List.set_cons_zero, List.set_cons_succ]
  refine wpAnyH_take (i := 22) (oi := ?o22_5) (v := ?v22_5) ?hi22_5 (by kernel_rfl) (by kernel_rfl) (by kernel_rfl) ?hQ22_5 ?hy22_5 HB5_2.out ?more22_5
  case hi22_5 => rw [List.getElem?_toArray]; exact rfl
  case hQ22_5 => exact fun _ _ _ h => h
  case hy22_5 =>
    refine Or.inl ⟨by rfl, ?_⟩
    intro w' hSw
    clear hSw
    go_simp
    try with_reducible rfl
  simp only [Act.put, List.setIfInBounds_toArray, List.set_cons_zero, List.set_cons_succ]
  refine wpAnyH_take (i := 23) (oi := ?o23_5) (v := ?v23_5) ?hi23_5 (by kernel_rfl) (by kernel_rfl) (by kernel_rfl) ?hQ23_5 ?hy23_5 HB5_2.out ?more23_5
  case hi23_5 => rw [List.getElem?_toArray]; exact rfl
  case hQ23_5 => exact fun _ _ _ h => h
  case hy23_5 =>
    refine Or.inl ⟨by rfl, ?_⟩
    intro w' hSw
    clear hSw
    go_simp
    try with_reducible rfl
  simp only [Act.put, List.setIfInBounds_toArray, List.set_cons_zero, List.set_cons_succ]
  refine wpAnyH_take (i := 24) (oi := ?o24_5) (v := ?v24_5) ?hi24_5 (by kernel_rfl) (by kernel_rfl) (by kernel_rfl) ?hQ24_5 ?hy24_5 HB5_2.out ?more24_5
  case hi24_5 => rw [List.getElem?_toArray]; exact rfl
  case hQ24_5 => exact fun _ _ _ h => h
  case hy24_5 =>
    refine Or.inl ⟨by rfl, ?_⟩
    intro w' hSw
    clear hSw
    go_simp
    try with_reducible rfl
  simp only [Act.put, List.setIfInBounds_toArray, List.set_cons_zero, List.set_cons_succ]
  refine wpAnyH_take (i := 25) (oi := ?o25_5) (v := ?v25_5) ?hi25_5 (by kernel_rfl) (by kernel_rfl) (by kernel_rfl) ?hQ25_5 ?hy25_5 HB5_2.out ?more25_5
  case hi25_5 => rw [List.getElem?_toArray]; exact rfl
  case hQ25_5 => exact fun _ _ _ h => h
  case hy25_5 =>
    refine Or.inl ⟨by rfl, ?_⟩
    intro w' hSw
    obtain ⟨⟨aa0, aa1, aa2, aa3⟩, aaz⟩ := (NS.call HA5.out hSw).facts
    clear hSw
    go_simp
    try with_reducible rfl
  simp only [Act.put, List.setIfInBounds_toArray, List.set_cons_zero, List.set_cons_succ]
  refine wpAnyH_take (i := 28) (oi := ?o28_5) (v := ?v28_5) ?hi28_5 (by kernel_rfl) (by kernel_rfl) (by kernel_rfl) ?hQ28_5 ?hy28_5 HB5_2.out ?more28_5
  case hi28_5 => rw [List.getElem?_toArray]; exact rfl
  case hQ28_5 => exact fun _ _ _ h => h
  case hy28_5 =>
    refine Or.inl ⟨by rfl, ?_⟩
    intro w' hSw
    obtain ⟨sm0, sm1, sm2, sm3⟩ := (FieldB.call HS5.out hSw).1.facts
    obtain ⟨sg0, sg1, sg2, sg3⟩ := (FieldB.call HS5.out hSw).gap
    clear hSw
    go_simp
    try with_reducible rfl
  simp only [Act.put, List.setIfInBounds_toArray, List.set_cons_zero, List.set_cons_succ]
  refine wpAnyH_take (i := 29) (oi := ?o29_5) (v := ?v29_5) ?hi29_5 (by kernel_rfl) (by kernel_rfl) (by kernel_rfl) ?hQ29_5 ?hy29_5 HB5_2.out ?more29_5
  case hi29_5 => rw [List.getElem?_toArray]; exact rfl
  case hQ29_5 => exact fun _ _ _ h => h
  case hy29_5 =>
    refine Or.inl ⟨by rfl, ?_⟩
    intro w' hSw
    obtain ⟨⟨aa0, aa1, aa2, aa3⟩, aaz⟩ := (NS.call HA5.out hSw).facts
    clear hSw
    go_simp
    try with_reducible rfl
  simp only [Act.put, List.setIfInBounds_toArray, List.set_cons_zero, List.set_cons_succ]
  refine wpAnyH_one (i := 26) (o := ?o26_5) (by kernel_rfl) ?hi26_5 ?hw26_5 ?st26_5
  case hi26_5 => rw [List.getElem?_toArray]; exact rfl
  case hw26_5 => exact rfl
  intro K hK
  have HK26 : Hid _ := hK
  clear hK
  go_simp
  refine (K8.out g _ (FieldB.call HF5.out HB5_2.out)).mono ?_
  rintro e wr5_3 ⟨rfl, hq⟩
  have HB5_3 : Hid (Below w5.heap.size w5 wr5_3) := below_call0 HB5_2.out hq
  clear hq
  go_wp2_with fail
  refine HK26.out _ _ ⟨HB5_3.out, ?_⟩
  clear HK26 K
  try simp only [Act.put, List.setIfInBounds_toArray, List.set_cons_zero, List.set_cons_succ]
  refine wpAnyH_take (i := 27) (oi := ?o27_5) (v := ?v27_5) ?hi27_5 (by kernel_rfl) (by kernel_rfl) (by kernel_rfl) ?hQ27_5 ?hy27_5 HB5_3.out ?more27_5
  case hi27_5 => rw [List.getElem?_toArray]; exact rfl
  case hQ27_5 => exact fun _ _ _ h => h
  case hy27_5 =>
    refine Or.inl ⟨by rfl, ?_⟩
    intro w' hSw
    clear hSw
    go_simp
    try with_reducible rfl
  simp only [Act.put, List.setIfInBounds_toArray, List.set_cons_zero, List.set_cons_succ]
  refine wpAnyH_one (i := 30) (o := ?o30_5) (by kernel_rfl) ?hi30_5 ?hw30_5 ?st30_5
  case hi30_5 => rw [List.getElem?_toArray]; exact rfl
  case hw30_5 => exact rfl
  intro K hK
  have HK30 : Hid _ := hK
  clear hK
  go_simp
  refine (K6.out _).mono ?_
  rintro e w6 ⟨rfl, hq⟩
  have HB5_4 : Hid (Below w5.heap.size w5 w6) := below_call0 HB5_3.out hq
  clear hq
  go_wp2_with fail
  refine HK30.out _ _ ⟨HB5_4.out, ?_⟩
  clear HK30 K
  try simp only [Act.put, List.setIfInBounds_toArray, List.set_cons_zero, List.set_cons_succ]
  refine wpAnyH_take (i := 31) (oi := ?o31_5) (v := ?v31_5) ?hi31_5 (by kernel_rfl) (by kernel_rfl) (by kernel_rfl) ?hQ31_5 ?hy31_5 HB5_4.out ?more31_5
  case hi31_5 => rw [List.getElem?_toArray]; exact rfl
  case hQ31_5 => exact fun _ _ _ h => h
  case hy31_5 =>
    refine Or.inl ⟨by rfl, ?_⟩
    intro w' hSw
    clear hSw
    go_simp
    try with_reducible rfl
  simp only [Act.put, List.setIfInBounds_toArray, List.set_cons_zero, List.set_cons_succ]
  refine wpAnyH_take (i := 32) (oi := ?o32_5) (v := ?v32_5) ?hi32_5 (by kernel_rfl) (by kernel_rfl) (by kernel_rfl) ?hQ32_5 ?hy32_5 HB5_4.out ?more32_5
  case hi32_5 => rw [List.getElem?_toArray]; exact rfl
  case hQ32_5 => exact fun _ _ _ h => h
  case hy32_5 =>
    refine Or.inl ⟨by rfl, ?_⟩
    intro w' hSw
    clear hSw
    go_simp
    try with_reducible rfl
  simp only [Act.put, List.setIfInBounds_toArray, List.set_cons_zero, List.set_cons_succ]
  refine wpAnyH_done (by kernel_rfl) ?_ _
  have HA6 : Hid (NS w6 (w.heap.size) a) := NS.call HA5.out HB5_4.out
  have HB6 : Hid (NS w6 (w.heap.size + 1) b) := NS.call HB5.out HB5_4.out
  have HP6 : Hid (NS w6 (w2.heap.size) p) := NS.call HP5.out HB5_4.out
  have HD6 : Hid (NS w6 (w3.heap.size) d) := NS.call HD5.out HB5_4.out
  have HN6 : Hid (NS w6 (w4.heap.size) n) := NS.call HN5.out HB5_4.out
  have HG6 : Hid (Glob w6) := Glob.call HG5.out HB5_4.out
  have HF6 : Hid (FieldB w6 g m) := FieldB.call HF5.out HB5_4.out
  have HS6 : Hid (FieldB w6 w1.heap.size m) := FieldB.call HS5.out HB5_4.out
  have HW6 : Hid (Below w.heap.size w w6) := below_call0 HW5.out HB5_4.out
  clear HA5 HB5 HP5 HD5 HN5 HW5 HG5 HF5 HS5 HB5_1 HB5_2 HB5_3 HB5_4
  go_wp2_with fail
  refine wp_region_H (fun w' => Below w6.heap.size w6 w') 33 rfl (by kernel_rfl) ?_
  refine wpAnyH_take (i := 0) (oi := ?o0_6) (v := ?v0_6) ?hi0_6 (by kernel_rfl) (by kernel_rfl) (by kernel_rfl) ?hQ0_6 ?hy0_6 (Below.drew (Below.refl _ _)) ?more0_6
  case hi0_6 => rw [List.getElem?_toArray]; exact rfl
  case hQ0_6 => exact fun _ _ _ h => h
  case hy0_6 =>
    refine Or.inl ⟨by rfl, ?_⟩
    intro w' hSw
    obtain ⟨⟨pp0, pp1, pp2, pp3⟩, ppz⟩ := (NS.call HP6.out hSw).facts
    clear hSw
    go_simp
    try with_reducible rfl
  simp only [Act.put, List.setIfInBounds_toArray, List.set_cons_zero, List.set_cons_succ]
  refine wpAnyH_take (i := 1) (oi := ?o1_6) (v := ?v1_6) ?hi1_6 (by kernel_rfl) (by kernel_rfl) (by kernel_rfl) ?hQ1_6 ?hy1_6 (Below.drew (Below.refl _ _)) ?more1_6
  case hi1_6 => rw [List.getElem?_toArray]; exact rfl
  case hQ1_6 => exact fun _ _ _ h => h
  case hy1_6 =>
    refine Or.inl ⟨by rfl, ?_⟩
    intro w' hSw
    clear hSw
    go_simp
    try with_reducible rfl
  simp only [Act.put, List.setIfInBounds_toArray, List.set_cons_zero, List.set_cons_succ]
  refine wpAnyH_take (i := 2) (oi := ?o2_6) (v := ?v2_6) ?hi2_6 (by kernel_rfl) (by kernel_rfl) (by kernel_rfl) ?hQ2_6 ?hy2_6 (Below.drew (Below.refl _ _)) ?more2_6
  case hi2_6 => rw [List.getElem?_toArray]; exact rfl
  case hQ2_6 => exact fun _ _ _ h => h
  case hy2_6 =>
    refine Or.inl ⟨by rfl, ?_⟩
    intro w' hSw
    clear hSw
    go_simp
    try with_reducible rfl
  simp only [Act.put, List.setIfInBounds_toArray, List.set_cons_zero, List.set_cons_succ]
  refine wpAnyH_take (i := 3) (oi := ?o3_6) (v := ?v3_6) ?hi3_6 (by kernel_rfl) (by kernel_rfl) (by kernel_rfl) ?hQ3_6 ?hy3_6 (Below.drew (Below.refl _ _)) ?more3_6
  case hi3_6 => rw [List.getElem?_toArray]; exact rfl
  case hQ3_6 => exact fun _ _ _ h => h
  case hy3_6 =>
    refine Or.inl ⟨by rfl, ?_⟩
    intro w' hSw
    clear hSw
    go_simp
    try with_reducible rfl
  simp only [Act.put, List.setIfInBounds_toArray, List.set_cons_zero, List.set_cons_succ]
  refine wpAnyH_take (i := 4) (oi := ?o4_6) (v := ?v4_6) ?hi4_6 (by kernel_rfl) (by kernel_rfl) (by kernel_rfl) ?hQ4_6 ?hy4_6 (Below.drew (Below.refl _ _)) ?more4_6
  case hi4_6 => rw [List.getElem?_toArray]; exact rfl
  case hQ4_6 => exact fun _ _ _ h => h
  case hy4_6 =>
    refine Or.inl ⟨by rfl, ?_⟩
    intro w' hSw
    obtain ⟨⟨dd0, dd1, dd2, dd3⟩, ddz⟩ := (NS.call HD6.out hSw).facts
    clear hSw
    go_simp
    try with_reducible rfl
  simp only [Act.put, List.setIfInBounds_toArray, List.set_cons_zero, List.set_cons_succ]
  refine wpAnyH_take (i := 5) (oi := ?o5_6) (v := ?v5_6) ?hi5_6 (by kernel_rfl) (by kernel_rfl) (by kernel_rfl) ?hQ5_6 ?hy5_6 (Below.drew (Below.refl _ _)) ?more5_6
  case hi5_6 => rw [List.getElem?_toArray]; exact rfl
  case hQ5_6 => exact fun _ _ _ h => h
  case hy5_6 =>
    refine Or.inl ⟨by rfl, ?_⟩
    intro w' hSw
    clear hSw
    go_simp
    try with_reducible rfl
  simp only [Act.put, List.setIfInBounds_toArray, List.set_cons_zero, List.set_cons_succ]
  refine wpAnyH_take (i := 6) (oi := ?o6_6) (v := ?v6_6) ?hi6_6 (by kernel_rfl) (by kernel_rfl) (by kernel_rfl) ?hQ6_6 ?hy6_6 (Below.drew (Below.refl _ _)) ?more6_6
  case hi6_6 => rw [List.getElem?_toArray]; exact rfl
  case hQ6_6 => exact fun _ _ _ h => h
  case hy6_6 =>
    refine Or.inl ⟨by rfl, ?_⟩
    intro w' hSw
    clear hSw
    go_simp
    try with_reducible rfl
  simp only [Act.put, List.setIfInBounds_toArray, List.set_cons_zero, List.set_cons_succ]
  refine wpAnyH_take (i := 7) (oi := ?o7_6) (v := ?v7_6) ?hi7_6 (by kernel_rfl) (by kernel_rfl) (by kernel_rfl) ?hQ7_6 ?hy7_6 (Below.drew (Below.refl _ _)) ?more7_6
  case hi7_6 => rw [List.getElem?_toArray]; exact rfl
  case hQ7_6 => exact fun _ _ _ h => h
  case hy7_6 =>
    refine Or.inl ⟨by rfl, ?_⟩
    intro w' hSw
    clear hSw
    go_simp
    try with_reducible rfl
  simp only [Act.put, List.setIfInBounds_toArray, List.set_cons_zero, List.set_cons_succ]
  refine wpAnyH_take (i := 8) (oi := ?o8_6) (v := ?v8_6) ?hi8_6 (by kernel_rfl) (by kernel_rfl) (by kernel_rfl) ?hQ8_6 ?hy8_6 (Below.drew (Below.refl _ _)) ?more8_6
  case hi8_6 => rw [List.getElem?_toArray]; exact rfl
  case hQ8_6 => exact fun _ _ _ h => h
  case hy8_6 =>
    refine Or.inl ⟨by rfl, ?_⟩
    intro w' hSw
    clear hSw
    go_simp
    try with_reducible rfl
  simp only [Act.put, List.setIfInBounds_toArray, List.set_cons_zero, List.set_cons_succ]
  refine wpAnyH_take (i := 9) (oi := ?o9_6) (v := ?v9_6) ?hi9_6 (by kernel_rfl) (by kernel_rfl) (by kernel_rfl) ?hQ9_6 ?hy9_6 (Below.drew (Below.refl _ _)) ?more9_6
  case hi9_6 => rw [List.getElem?_toArray]; exact rfl
  case hQ9_6 => exact fun _ _ _ h => h
  case hy9_6 =>
    refine Or.inl ⟨by rfl, ?_⟩
    intro w' hSw
    clear hSw
    go_simp
    try with_reducible rfl
  simp only [Act.put, List.setIfInBounds_toArray, List.set_cons_zero, List.set_cons_succ]
  refine wpAnyH_take (i := 10) (oi := ?o10_6) (v := ?v10_6) ?hi10_6 (by kernel_rfl) (by kernel_rfl) (by kernel_rfl) ?hQ10_6 ?hy10_6 (Below.drew (Below.refl _ _)) ?more10_6
  case hi10_6 => rw [List.getElem?_toArray]; exact rfl
  case hQ10_6 => exact fun _ _ _ h => h
  case hy10_6 =>
    refine Or.inl ⟨by rfl, ?_⟩
    intro w' hSw
    clear hSw
    go_simp
    try with_reducible rfl
  simp only [Act.put, List.setIfInBounds_toArray, List.set_cons_zero, List.set_cons_succ]
  refine wpAnyH_take (i := 11) (oi := ?o11_6) (v := ?v11_6) ?hi11_6 (by kernel_rfl) (by kernel_rfl) (by kernel_rfl) ?hQ11_6 ?hy11_6 (Below.drew (Below.refl _ _)) ?more11_6
  case hi11_6 => rw [List.getElem?_toArray]; exact rfl
  case hQ11_6 => exact fun _ _ _ h => h
  case hy11_6 =>
    refine Or.inl ⟨by rfl, ?_⟩
    intro w' hSw
    clear hSw
    go_simp
    try with_reducible rfl
  simp only [Act.put, List.setIfInBounds_toArray, List.set_cons_zero, List.set_cons_succ]
  refine wpAnyH_take (i := 12) (oi := ?o12_6) (v := ?v12_6) ?hi12_6 (by kernel_rfl) (by kernel_rfl) (by kernel_rfl) ?hQ12_6 ?hy12_6 (Below.drew (Below.refl _ _)) ?more12_6
  case hi12_6 => rw [List.getElem?_toArray]; exact rfl
  case hQ12_6 => exact fun _ _ _ h => h
  case hy12_6 =>
    refine Or.inl ⟨by rfl, ?_⟩
    intro w' hSw
    obtain ⟨⟨nn0, nn1, nn2, nn3⟩, nnz⟩ := (NS.call HN6.out hSw).facts
    clear hSw
    go_simp
    try with_reducible rfl
  simp only [Act.put, List.setIfInBounds_toArray, List.set_cons_zero, List.set_cons_succ]
  refine wpAnyH_take (i := 13) (oi := ?o13_6) (v := ?v13_6) ?hi13_6 (by kernel_rfl) (by kernel_rfl) (by kernel_rfl) ?hQ13_6 ?hy13_6 (Below.drew (Below.refl _ _)) ?more13_6
  case hi13_6 => rw [List.getElem?_toArray]; exact rfl
  case hQ13_6 => exact fun _ _ _ h => h
  case hy13_6 =>
    refine Or.inl ⟨by rfl, ?_⟩
    intro w' hSw
    obtain ⟨sm0, sm1, sm2, sm3⟩ := (FieldB.call HS6.out hSw).1.facts
    obtain ⟨sg0, sg1, sg2, sg3⟩ := (FieldB.call HS6.out hSw).gap
    clear hSw
    go_simp
    try with_reducible rfl
  simp only [Act.put, List.setIfInBounds_toArray, List.set_cons_zero, List.set_cons_succ]
  refine wpAnyH_take (i := 14) (oi := ?o14_6) (v := ?v14_6) ?hi14_6 (by kernel_rfl) (by kernel_rfl) (by kernel_rfl) ?hQ14_6 ?hy14_6 (Below.drew (Below.refl _ _)) ?more14_6
  case hi14_6 => rw [List.getElem?_toArray]; exact rfl
  case hQ14_6 => exact fun _ _ _ h => h
  case hy14_6 =>
    refine Or.inl ⟨by rfl, ?_⟩
    intro w' hSw
    clear hSw
    go_simp
    try with_reducible rfl
  simp only [Act.put, List.setIfInBounds_toArray, List.set_cons_zero, List.set_cons_succ]
  refine wpAnyH_take (i := 15) (oi := ?o15_6) (v := ?v15_6) ?hi15_6 (by kernel_rfl) (by kernel_rfl) (by kernel_rfl) ?hQ15_6 ?hy15_6 (Below.drew (Below.refl _ _)) ?more15_6
  case hi15_6 => rw [List.getElem?_toArray]; exact rfl
  case hQ15_6 => exact fun _ _ _ h => h
  case hy15_6 =>
    refine Or.inl ⟨by rfl, ?_⟩
    intro w' hSw
    obtain ⟨⟨aa0, aa1, aa2, aa3⟩, aaz⟩ := (NS.call HA6.out hSw).facts
    clear hSw
    go_simp
    try with_reducible rfl
  simp only [Act.put, List.setIfInBounds_toArray, List.set_cons_zero, List.set_cons_succ]
  refine wpAnyH_one (i := 16) (o := ?o16_6) (by kernel_rfl) ?hi16_6 ?hw16_6 ?st16_6
  case hi16_6 => rw [List.getElem?_toArray]; exact rfl
  case hw16_6 => exact rfl
  intro K hK
  have HK16 : Hid _ := hK
  clear hK
  go_simp
  refine (K11.out _).mono ?_
  rintro e wr6_1 ⟨rfl, hq⟩
  have HB6_1 : Hid (Below w6.heap.size w6 wr6_1) := below_call0 (Below.drew (Below.refl _ _)) hq
  clear hq
  go_wp2_with fail
  refine HK16.out _ _ ⟨HB6_1.out, ?_⟩
  clear HK16 K
  try simp only [Act.put, List.setIfInBounds_toArray, List.set_cons_zero, List.set_cons_succ]
  refine wpAnyH_take (i := 17) (oi := ?o17_6) (v := ?v17_6) ?hi17_6 (by kernel_rfl) (by kernel_rfl) (by kernel_rfl) ?hQ17_6 ?hy17_6 HB6_1.out ?more17_6
  case hi17_6 => rw [List.getElem?_toArray]; exact rfl
  case hQ17_6 => exact fun _ _ _ h => h
  case hy17_6 =>
    refine Or.inl ⟨by rfl, ?_⟩
    intro w' hSw
    clear hSw
    go_simp
    try with_reducible rfl
  simp only [Act.put, List.setIfInBounds_toArray, List.set_cons_zero, List.set_cons_succ]
  refine wpAnyH_take (i := 18) (oi := ?o18_6) (v := ?v18_6) ?hi18_6 (by kernel_rfl) (by kernel_rfl) (by kernel_rfl) ?hQ18_6 ?hy18_6 HB6_1.out ?more18_6
  case hi18_6 => rw [List.getElem?_toArray]; exact rfl
  case hQ18_6 => exact fun _ _ _ h => h
  case hy18_6 =>
    refine Or.inl ⟨by rfl, ?_⟩
    intro w' hSw
    clear hSw
    go_simp
    try with_reducible rfl
  simp only [Act.put, List.setIfInBounds_toArray, List.set_cons_zero, List.set_cons_succ]
  refine wpAnyH_take (i := 19) (oi := ?o19_6) (v := ?v19_6) ?hi19_6 (by kernel_rfl) (by kernel_rfl) (by kernel_rfl) ?hQ19_6 ?hy19_6 HB6_1.out ?more19_6
  case hi19_6 => rw [List.getElem?_toArray]; exact rfl
  case hQ19_6 => exact fun _ _ _ h => h
  case hy19_6 =>
    refine Or.inl ⟨by rfl, ?_⟩
    intro w' hSw
    clear hSw
    go_simp
    try with_reducible rfl
  simp only [Act.put, List.setIfInBounds_toArray, List.set_cons_zero, List.set_cons_succ]
  refine wpAnyH_take (i := 20) (oi := ?o20_6) (v := undef) ?hi20_6 (by kernel_rfl) (by kernel_rfl) (by kernel_rfl) ?hQ20_6 ?hy20_6 HB6_1.out ?more20_6
  case hi20_6 => rw [List.getElem?_toArray]; exact rfl
  case hQ20_6 => exact fun _ _ _ h => h
  case hy20_6 =>
    exact Or.inr ⟨by rfl, rfl⟩
  simp only [Act.put, List.setIfInBounds_toArray, List.set_cons_zero, List.set_cons_succ]
  refine wpAnyH_take (i := 21) (oi := ?o21_6) (v := undef) ?hi21_6 (by kernel_rfl) (by kernel_rfl) (by kernel_rfl) ?hQ21_6 ?hy21_6 HB6_1.out ?more21_6
  case hi21_6 => rw [List.getElem?_toArray]; exact rfl
  case hQ21_6 => exact fun _ _ _ h => h
  case hy21_6 =>
    exact Or.inr ⟨by rfl, rfl⟩
  simp only [Act.put, List.setIfInBounds_toArray, List.set_cons_zero, List.set_cons_succ]
  refine wpAnyH_take (i := 22) (oi := ?o22_6) (v := undef) ?hi22_6 (by kernel_rfl) (by kernel_rfl) (by kernel_rfl) ?hQ22_6 ?hy22_6 HB6_1.out ?more22_6
  case hi22_6 => rw [List.getElem?_toArray]; exact rfl
  case hQ22_6 => exact fun _ _ _ h => h
  case hy22_6 =>
    exact Or.inr ⟨by rfl, rfl⟩
  simp only [Act.put, List.setIfInBounds_toArray, List.set_cons_zero, List.set_cons_succ]
  refine wpAnyH_take (i := 23) (oi := ?o23_6) (v := undef) ?hi23_6 (by kernel_rfl) (by kernel_rfl) (by kernel_rfl) ?hQ23_6 ?hy23_6 HB6_1.out ?more23_6
  case hi23_6 => rw [List.getElem?_toArray]; exact rfl
  case hQ23_6 => exact fun _ _ _ h => h
  case hy23_6 =>
    exact Or.inr ⟨by rfl, rfl⟩
  simp only [Act.put, List.setIfInBounds_toArray, List.set_cons_zero, List.set_cons_succ]
  refine wpAnyH_take (i := 24) (oi := ?o24_6) (v := undef) ?hi24_6 (by kernel_rfl) (by kernel_rfl) (by kernel_rfl) ?hQ24_6 ?hy24_6 HB6_1.out ?more24_6
  case hi24_6 => rw [List.getElem?_toArray]; exact rfl
  case hQ24_6 => exact fun _ _ _ h => h
  case hy24_6 =>
    exact Or.inr ⟨by rfl, rfl⟩
  simp only [Act.put, List.setIfInBounds_toArray, List.set_cons_zero, List.set_cons_succ]
  refine wpAnyH_take (i := 25) (oi := ?o25_6) (v := undef) ?hi25_6 (by kernel_rfl) (by kernel_rfl) (by kernel_rfl) ?hQ25_6 ?hy25_6 HB6_1.out ?more25_6
  case hi25_6 => rw [List.getElem?_toArray]; exact rfl
  case hQ25_6 => exact fun _ _ _ h => h
  case hy25_6 =>
    exact Or.inr ⟨by rfl, rfl⟩
  simp only [Act.put, List.setIfInBounds_toArray, List.set_cons_zero, List.set_cons_succ]
  refine wpAnyH_take (i := 26) (oi := ?o26_6) (v := undef) ?hi26_6 (by kernel_rfl) (by kernel_rfl) (by kernel_rfl) ?hQ26_6 ?hy26_6 HB6_1.out ?more26_6
  case hi26_6 => rw [List.getElem?_toArray]; exact rfl
  case hQ26_6 => exact fun _ _ _ h => h
  case hy26_6 =>
    exact Or.inr ⟨by rfl, rfl⟩
  simp only [Act.put, List.setIfInBounds_toArray, List.set_cons_zero, List.set_cons_succ]
  refine wpAnyH_take (i := 27) (oi := ?o27_6) (v := ?v27_6) ?hi27_6 (by kernel_rfl) (by kernel_rfl) (by kernel_rfl) ?hQ27_6 ?hy27_6 HB6_1.out ?more27_6
  case hi27_6 => rw [List.getElem?_toArray]; exact rfl
  case hQ27_6 => exact fun _ _ _ h => h
  case hy27_6 =>
    refine Or.inl ⟨by rfl, ?_⟩
    intro w' hSw
    clear hSw
    go_simp
    try with_reducible rfl
  simp only [Act.put, List.setIfInBounds_toArray, List.set_cons_zero, List.set_cons_succ]
  refine wpAnyH_take (i := 28) (oi := ?o28_6) (v := ?v28_6) ?hi28_6 (by kernel_rfl) (by kernel_rfl) (by kernel_rfl) ?hQ28_6 ?hy28_6 HB6_1.out ?more28_6
  case hi28_6 => rw [List.getElem?_toArray]; exact rfl
  case hQ28_6 => exact fun _ _ _ h => h
  case hy28_6 =>
    refine Or.inl ⟨by rfl, ?_⟩
    intro w' hSw
    clear hSw
    go_simp
    try with_reducible rfl
  simp only [Act.put, List.setIfInBounds_toArray, List.set_cons_zero, List.set_cons_succ]
  refine wpAnyH_take (i := 29) (oi := ?o29_6) (v := ?v29_6) ?hi29_6 (by kernel_rfl) (by kernel_rfl) (by kernel_rfl) ?hQ29_6 ?hy29_6 HB6_1.out ?more29_6
  case hi29_6 => rw [List.getElem?_toArray]; exact rfl
  case hQ29_6 => exact fun _ _ _ h => h
  case hy29_6 =>
    refine Or.inl ⟨by rfl, ?_⟩
    intro w' hSw
    clear hSw
    go_simp
    try with_reducible rfl
  simp only [Act.put, List.setIfInBounds_toArray, List.set_cons_zero, List.set_cons_succ]
  refine wpAnyH_one (i := 30) (o := ?o30_6) (by kernel_rfl) ?hi30_6 ?hw30_6 ?st30_6
  case hi30_6 => rw [List.getElem?_toArray]; exact rfl
  case hw30_6 => exact rfl
  intro K hK
  have HK30 : Hid _ := hK
  clear hK
  go_simp
  refine (half_any _ (Glob.call HG6.out HB6_1.out)).mono ?_
  rintro e w7 ⟨rfl, hq⟩
  have HB6_2 : Hid (Below w6.heap.size w6 w7) := below_call0 HB6_1.out hq
  clear hq
  go_wp2_with fail
  refine HK30.out _ _ ⟨HB6_2.out, ?_⟩
  clear HK30 K
  try simp only [Act.put, List.setIfInBounds_toArray, List.set_cons_zero, List.set_cons_succ]
  refine wpAnyH_take (i := 31) (oi := ?o31_6) (v := ?v31_6) ?hi31_6 (by kernel_rfl) (by kernel_rfl) (by kernel_rfl) ?hQ31_6 ?hy31_6 HB6_2.out ?more31_6
  case hi31_6 => rw [List.getElem?_toArray]; exact rfl
  case hQ31_6 => exact fun _ _ _ h => h
  case hy31_6 =>
    refine Or.inl ⟨by rfl, ?_⟩
    intro w' hSw
    clear hSw
    go_simp
    try with_reducible rfl
  simp only [Act.put, List.setIfInBounds_toArray, List.set_cons_zero, List.set_cons_succ]
  refine wpAnyH_take (i := 32) (oi := ?o32_6) (v := ?v32_6) ?hi32_6 (by kernel_rfl) (by kernel_rfl) (by kernel_rfl) ?hQ32_6 ?hy32_6 HB6_2.out ?more32_6
  case hi32_6 => rw [List.getElem?_toArray]; exact rfl
  case hQ32_6 => exact fun _ _ _ h => h
  case hy32_6 =>
    refine Or.inl ⟨by rfl, ?_⟩
    intro w' hSw
    clear hSw
    go_simp
    try with_reducible rfl
  simp only [Act.put, List.setIfInBounds_toArray, List.set_cons_zero, List.set_cons_succ]
  refine wpAnyH_done (by kernel_rfl) ?_ _
  have HA7 : Hid (NS w7 (w.heap.size) a) := NS.call HA6.out HB6_2.out
  have HB7 : Hid (NS w7 (w.heap.size + 1) b) := NS.call HB6.out HB6_2.out
  have HP7 : Hid (NS w7 (w2.heap.size) p) := NS.call HP6.out HB6_2.out
  have HD7 : Hid (NS w7 (w3.heap.size) d) := NS.call HD6.out HB6_2.out
  have HN7 : Hid (NS w7 (w4.heap.size) n) := NS.call HN6.out HB6_2.out
  have HG7 : Hid (Glob w7) := Glob.call HG6.out HB6_2.out
  have HF7 : Hid (FieldB w7 g m) := FieldB.call HF6.out HB6_2.out
  have HS7 : Hid (FieldB w7 w1.heap.size m) := FieldB.call HS6.out HB6_2.out
  have HW7 : Hid (Below w.heap.size w w7) := below_call0 HW6.out HB6_2.out
  clear HA6 HB6 HP6 HD6 HN6 HW6 HG6 HF6 HS6 HB6_1 HB6_2
  go_wp2_with fail
  go_ret
  exact ⟨rfl, HW7.out⟩

set_option maxRecDepth 100000 in
set_option maxHeartbeats 8000000 in
theorem sums_na (base : Bool) (m a b p d n : Nat)
    (k1 : ∀ w, Glob w → GlobQ w → Calls Tryd.prog 9 #[.bool base] w fun e w' => ∃ g, e = .returned (.tuple #[.pointer (some ⟨g, 0, none⟩), .agg #[.int .u64 (limb m 0 : Nat), .int .u64 (limb m 1 : Nat), .int .u64 (limb m 2 : Nat), .int .u64 (limb m 3 : Nat), .int .u64 (limb (R256 - m) 0 : Nat), .int .u64 (limb (R256 - m) 1 : Nat), .int .u64 (limb (R256 - m) 2 : Nat), .int .u64 (limb (R256 - m) 3 : Nat)]]) ∧ FieldB w' g m ∧ Below w.heap.size w w')
    (k2 : ∀ (g : Nat) (w : World), FieldB w g m → Calls Tryd.prog 10 #[.pointer (some ⟨g, 0, none⟩), .agg #[.int .u64 (limb (a) 0 : Nat), .int .u64 (limb (a) 1 : Nat), .int .u64 (limb (a) 2 : Nat), .int .u64 (limb (a) 3 : Nat)], .agg #[.int .u64 (limb (b) 0 : Nat), .int .u64 (limb (b) 1 : Nat), .int .u64 (limb (b) 2 : Nat), .int .u64 (limb (b) 3 : Nat)]] w fun e w' => e = .returned (.tuple #[.agg #[.int .u64 (limb (p) 0 : Nat), .int .u64 (limb (p) 1 : Nat), .int .u64 (limb (p) 2 : Nat), .int .u64 (limb (p) 3 : Nat)], .int .i64 20]) ∧ Below w.heap.size w w')
    (k3 : ∀ (g : Nat) (w : World), FieldB w g m → Calls Tryd.prog 11 #[.pointer (some ⟨g, 0, none⟩), .agg #[.int .u64 (limb (a) 0 : Nat), .int .u64 (limb (a) 1 : Nat), .int .u64 (limb (a) 2 : Nat), .int .u64 (limb (a) 3 : Nat)], .agg #[.int .u64 (limb (b) 0 : Nat), .int .u64 (limb (b) 1 : Nat), .int .u64 (limb (b) 2 : Nat), .int .u64 (limb (b) 3 : Nat)]] w fun e w' => e = .returned (.tuple #[.agg #[.int .u64 (limb (d) 0 : Nat), .int .u64 (limb (d) 1 : Nat), .int .u64 (limb (d) 2 : Nat), .int .u64 (limb (d) 3 : Nat)], .int .i64 20]) ∧ Below w.heap.size w w')
    (k4 : ∀ (g : Nat) (w : World), FieldB w g m → Calls Tryd.prog 12 #[.pointer (some ⟨g, 0, none⟩), .agg #[.int .u64 (limb (a) 0 : Nat), .int .u64 (limb (a) 1 : Nat), .int .u64 (limb (a) 2 : Nat), .int .u64 (limb (a) 3 : Nat)]] w fun e w' => e = .returned (.tuple #[.agg #[.int .u64 (limb (n) 0 : Nat), .int .u64 (limb (n) 1 : Nat), .int .u64 (limb (n) 2 : Nat), .int .u64 (limb (n) 3 : Nat)], .int .i64 20]) ∧ Below w.heap.size w w')
    (k5 : ∀ w, Calls Tryd.prog 13 #[.agg #[.int .u64 (limb m 0 : Nat), .int .u64 (limb m 1 : Nat), .int .u64 (limb m 2 : Nat), .int .u64 (limb m 3 : Nat), .int .u64 (limb (R256 - m) 0 : Nat), .int .u64 (limb (R256 - m) 1 : Nat), .int .u64 (limb (R256 - m) 2 : Nat), .int .u64 (limb (R256 - m) 3 : Nat)], .agg #[.int .u64 (limb (a) 0 : Nat), .int .u64 (limb (a) 1 : Nat), .int .u64 (limb (a) 2 : Nat), .int .u64 (limb (a) 3 : Nat)], .agg #[.int .u64 (limb (b) 0 : Nat), .int .u64 (limb (b) 1 : Nat), .int .u64 (limb (b) 2 : Nat), .int .u64 (limb (b) 3 : Nat)]] w fun e w' => e = .returned (.int .i64 20) ∧ Below w.heap.size w w')
    (k6 : ∀ w, Calls Tryd.prog 14 #[.agg #[.int .u64 (limb m 0 : Nat), .int .u64 (limb m 1 : Nat), .int .u64 (limb m 2 : Nat), .int .u64 (limb m 3 : Nat), .int .u64 (limb (R256 - m) 0 : Nat), .int .u64 (limb (R256 - m) 1 : Nat), .int .u64 (limb (R256 - m) 2 : Nat), .int .u64 (limb (R256 - m) 3 : Nat)], .agg #[.int .u64 (limb (a) 0 : Nat), .int .u64 (limb (a) 1 : Nat), .int .u64 (limb (a) 2 : Nat), .int .u64 (limb (a) 3 : Nat)]] w fun e w' => e = .returned (.bool false) ∧ Below w.heap.size w w')
    (k7 : ∀ (g : Nat) (w : World), FieldB w g m → Calls Tryd.prog 15 #[.pointer (some ⟨g, 0, none⟩)] w fun e w' => e = .returned (.agg #[.int .u64 (limb (m) 0 : Nat), .int .u64 (limb (m) 1 : Nat), .int .u64 (limb (m) 2 : Nat), .int .u64 (limb (m) 3 : Nat)]) ∧ Below w.heap.size w w')
    (k8 : ∀ (g : Nat) (w : World), FieldB w g m → Calls Tryd.prog 16 #[.pointer (some ⟨g, 0, none⟩), .agg #[.int .u64 (limb (a) 0 : Nat), .int .u64 (limb (a) 1 : Nat), .int .u64 (limb (a) 2 : Nat), .int .u64 (limb (a) 3 : Nat)]] w fun e w' => e = .returned (.int .i64 20) ∧ Below w.heap.size w w')
    (zp : eq4 (limb p 0 : Nat) (limb p 1 : Nat) (limb p 2 : Nat) (limb p 3 : Nat) 0 0 0 0 = true)
    (zd : eq4 (limb d 0 : Nat) (limb d 1 : Nat) (limb d 2 : Nat) (limb d 3 : Nat) 0 0 0 0 = true)
    (zn : eq4 (limb n 0 : Nat) (limb n 1 : Nat) (limb n 2 : Nat) (limb n 3 : Nat) 0 0 0 0 = true)
    (w : World) (hG : Glob w) (hQ : GlobQ w) : Calls Tryd.prog 3 #[.bool base, .agg #[.int .u64 (limb (a) 0 : Nat), .int .u64 (limb (a) 1 : Nat), .int .u64 (limb (a) 2 : Nat), .int .u64 (limb (a) 3 : Nat)], .agg #[.int .u64 (limb (b) 0 : Nat), .int .u64 (limb (b) 1 : Nat), .int .u64 (limb (b) 2 : Nat), .int .u64 (limb (b) 3 : Nat)]] w fun e w' => e = .returned (.bool true) ∧ Below w.heap.size w w' := by
  have HG : Hid (Glob w ∧ GlobQ w) := ⟨hG, hQ⟩
  have K1 : Hid _ := k1
  have K2 : Hid _ := k2
  have K3 : Hid _ := k3
  have K4 : Hid _ := k4
  have K5 : Hid _ := k5
  have K6 : Hid _ := k6
  have K7 : Hid _ := k7
  have K8 : Hid _ := k8
  have em : eq4 (limb m 0 : Nat) (limb m 1 : Nat) (limb m 2 : Nat) (limb m 3 : Nat) (limb m 0 : Nat) (limb m 1 : Nat) (limb m 2 : Nat) (limb m 3 : Nat) = true := by simp [eq4]
  have ep : eq4 (limb p 0 : Nat) (limb p 1 : Nat) (limb p 2 : Nat) (limb p 3 : Nat) (limb p 0 : Nat) (limb p 1 : Nat) (limb p 2 : Nat) (limb p 3 : Nat) = true := by simp [eq4]
  have ed : eq4 (limb d 0 : Nat) (limb d 1 : Nat) (limb d 2 : Nat) (limb d 3 : Nat) (limb d 0 : Nat) (limb d 1 : Nat) (limb d 2 : Nat) (limb d 3 : Nat) = true := by simp [eq4]
  have en : eq4 (limb n 0 : Nat) (limb n 1 : Nat) (limb n 2 : Nat) (limb n 3 : Nat) (limb n 0 : Nat) (limb n 1 : Nat) (limb n 2 : Nat) (limb n 3 : Nat) = true := by simp [eq4]
  clear hG hQ k1 k2 k3 k4 k5 k6 k7 k8
  go_enter Tryd.func3, Tryd.ntmps3
  go_wp2_with fail
  refine (K1.out _ (Glob.alloc (Glob.alloc HG.out.1)) (GlobQ.alloc (GlobQ.alloc HG.out.2))).mono ?_
  rintro e w1 ⟨g, rfl, hF1, hb1⟩
  have HA1 : Hid (NS w1 (w.heap.size) a) := by
    have t := NS.call (W := _) (NS.alloc (NS.new _ _ _)) hb1
    try simp only [World.size_alloc] at t
    exact t
  have HB1 : Hid (NS w1 (w.heap.size + 1) b) := by
    have t := NS.call (W := _) (NS.new _ _ _) hb1
    try simp only [World.size_alloc] at t
    exact t
  have HW1 : Hid (Below w.heap.size w w1) := below_call0 (below_alloc0 (below_alloc0 (Below.refl _ _) _) _) hb1
  have HG1 : Hid (Glob w1) := Glob.call (Glob.alloc (Glob.alloc HG.out.1)) hb1
  have HF1 : Hid (FieldB w1 g m) := hF1
  clear hb1
  clear hF1
  obtain ⟨⟨aa0, aa1, aa2, aa3⟩, aaz⟩ := HA1.out.facts
  obtain ⟨⟨bb0, bb1, bb2, bb3⟩, bbz⟩ := HB1.out.facts
  go_wp2_with fail
  refine (K2.out g _ (FieldB.alloc HF1.out)).mono ?_
  rintro e w2 ⟨rfl, hb2⟩
  have HA2 : Hid (NS w2 (w.heap.size) a) := NS.acall HA1.out hb2
  have HB2 : Hid (NS w2 (w.heap.size + 1) b) := NS.acall HB1.out hb2
  have HW2 : Hid (Below w.heap.size w w2) := below_acall HW1.out hb2
  have HG2 : Hid (Glob w2) := Glob.call (Glob.alloc HG1.out) hb2
  have HF2 : Hid (FieldB w2 g m) := FieldB.call (FieldB.alloc HF1.out) hb2
  have HS2 : Hid (FieldB w2 w1.heap.size m) := FieldB.call (FieldB.new w1 m _) hb2
  clear hb2
  clear HA1 HB1 HW1 HG1 HF1
  clear aa0 aa1 aa2 aa3 aaz bb0 bb1 bb2 bb3 bbz
  obtain ⟨⟨aa0, aa1, aa2, aa3⟩, aaz⟩ := HA2.out.facts
  obtain ⟨⟨bb0, bb1, bb2, bb3⟩, bbz⟩ := HB2.out.facts
  go_wp2_with fail
  refine (K3.out g _ (FieldB.alloc HF2.out)).mono ?_
  rintro e w3 ⟨rfl, hb3⟩
  have HA3 : Hid (NS w3 (w.heap.size) a) := NS.acall HA2.out hb3
  have HB3 : Hid (NS w3 (w.heap.size + 1) b) := NS.acall HB2.out hb3
  have HP3 : Hid (NS w3 w2.heap.size p) := NS.ncall hb3
  have HW3 : Hid (Below w.heap.size w w3) := below_acall HW2.out hb3
  have HG3 : Hid (Glob w3) := Glob.call (Glob.alloc HG2.out) hb3
  have HF3 : Hid (FieldB w3 g m) := FieldB.call (FieldB.alloc HF2.out) hb3
  have HS3 : Hid (FieldB w3 w1.heap.size m) := FieldB.call (FieldB.alloc HS2.out) hb3
  clear hb3
  clear HA2 HB2 HW2 HG2 HF2 HS2
  clear aa0 aa1 aa2 aa3 aaz bb0 bb1 bb2 bb3 bbz
  obtain ⟨⟨aa0, aa1, aa2, aa3⟩, aaz⟩ := HA3.out.facts
  go_wp2_with fail
  refine (K4.out g _ (FieldB.alloc HF3.out)).mono ?_
  rintro e w4 ⟨rfl, hb4⟩
  have HA4 : Hid (NS w4 (w.heap.size) a) := NS.acall HA3.out hb4
  have HB4 : Hid (NS w4 (w.heap.size + 1) b) := NS.acall HB3.out hb4
  have HP4 : Hid (NS w4 (w2.heap.size) p) := NS.acall HP3.out hb4
  have HD4 : Hid (NS w4 w3.heap.size d) := NS.ncall hb4
  have HW4 : Hid (Below w.heap.size w w4) := below_acall HW3.out hb4
  have HG4 : Hid (Glob w4) := Glob.call (Glob.alloc HG3.out) hb4
  have HF4 : Hid (FieldB w4 g m) := FieldB.call (FieldB.alloc HF3.out) hb4
  have HS4 : Hid (FieldB w4 w1.heap.size m) := FieldB.call (FieldB.alloc HS3.out) hb4
  clear hb4
  clear HA3 HB3 HP3 HW3 HG3 HF3 HS3
  clear aa0 aa1 aa2 aa3 aaz
  obtain ⟨⟨aa0, aa1, aa2, aa3⟩, aaz⟩ := HA4.out.facts
  obtain ⟨⟨bb0, bb1, bb2, bb3⟩, bbz⟩ := HB4.out.facts
  obtain ⟨sm0, sm1, sm2, sm3⟩ := (HS4.out).1.facts
  obtain ⟨sg0, sg1, sg2, sg3⟩ := (HS4.out).gap
  have sz := (HS4.out).2.2
  go_wp2_with fail
  refine (K5.out _).mono ?_
  rintro e w5 ⟨rfl, hb5⟩
  have HA5 : Hid (NS w5 (w.heap.size) a) := NS.acall HA4.out hb5
  have HB5 : Hid (NS w5 (w.heap.size + 1) b) := NS.acall HB4.out hb5
  have HP5 : Hid (NS w5 (w2.heap.size) p) := NS.acall HP4.out hb5
  have HD5 : Hid (NS w5 (w3.heap.size) d) := NS.acall HD4.out hb5
  have HN5 : Hid (NS w5 w4.heap.size n) := NS.ncall hb5
  have HW5 : Hid (Below w.heap.size w w5) := below_acall HW4.out hb5
  have HG5 : Hid (Glob w5) := Glob.call (Glob.alloc HG4.out) hb5
  have HF5 : Hid (FieldB w5 g m) := FieldB.call (FieldB.alloc HF4.out) hb5
  have HS5 : Hid (FieldB w5 w1.heap.size m) := FieldB.call (FieldB.alloc HS4.out) hb5
  clear hb5
  clear HA4 HB4 HP4 HD4 HW4 HG4 HF4 HS4
  clear aa0 aa1 aa2 aa3 aaz bb0 bb1 bb2 bb3 bbz sm0 sg0 sm1 sg1 sm2 sg2 sm3 sg3 sz
  go_wp2_with fail
  refine wp_region_H (fun w' => Below w5.heap.size w5 w') 33 rfl (by kernel_rfl) ?_
  refine wpAnyH_take (i := 0) (oi := ?o0_5) (v := ?v0_5) ?hi0_5 (by kernel_rfl) (by kernel_rfl) (by kernel_rfl) ?hQ0_5 ?hy0_5 (Below.drew (Below.refl _ _)) ?more0_5
  case hi0_5 => rw [List.getElem?_toArray]; exact rfl
  case hQ0_5 => exact fun _ _ _ h => h
  case hy0_5 =>
    refine Or.inl ⟨by rfl, ?_⟩
    intro w' hSw
    clear hSw
    go_simp
    try with_reducible rfl
  simp only [Act.put, List.setIfInBounds_toArray, List.set_cons_zero, List.set_cons_succ]
  refine wpAnyH_take (i := 1) (oi := ?o1_5) (v := ?v1_5) ?hi1_5 (by kernel_rfl) (by kernel_rfl) (by kernel_rfl) ?hQ1_5 ?hy1_5 (Below.drew (Below.refl _ _)) ?more1_5
  case hi1_5 => rw [List.getElem?_toArray]; exact rfl
  case hQ1_5 => exact fun _ _ _ h => h
  case hy1_5 =>
    refine Or.inl ⟨by rfl, ?_⟩
    intro w' hSw
    clear hSw
    go_simp
    try with_reducible rfl
  simp only [Act.put, List.setIfInBounds_toArray, List.set_cons_zero, List.set_cons_succ]
  refine wpAnyH_take (i := 2) (oi := ?o2_5) (v := ?v2_5) ?hi2_5 (by kernel_rfl) (by kernel_rfl) (by kernel_rfl) ?hQ2_5 ?hy2_5 (Below.drew (Below.refl _ _)) ?more2_5
  case hi2_5 => rw [List.getElem?_toArray]; exact rfl
  case hQ2_5 => exact fun _ _ _ h => h
  case hy2_5 =>
    refine Or.inl ⟨by rfl, ?_⟩
    intro w' hSw
    clear hSw
    go_simp
    try with_reducible rfl
  simp only [Act.put, List.setIfInBounds_toArray, List.set_cons_zero, List.set_cons_succ]
  refine wpAnyH_take (i := 3) (oi := ?o3_5) (v := ?v3_5) ?hi3_5 (by kernel_rfl) (by kernel_rfl) (by kernel_rfl) ?hQ3_5 ?hy3_5 (Below.drew (Below.refl _ _)) ?more3_5
  case hi3_5 => rw [List.getElem?_toArray]; exact rfl
  case hQ3_5 => exact fun _ _ _ h => h
  case hy3_5 =>
    refine Or.inl ⟨by rfl, ?_⟩
    intro w' hSw
    clear hSw
    go_simp
    try with_reducible rfl
  simp only [Act.put, List.setIfInBounds_toArray, List.set_cons_zero, List.set_cons_succ]
  refine wpAnyH_take (i := 4) (oi := ?o4_5) (v := ?v4_5) ?hi4_5 (by kernel_rfl) (by kernel_rfl) (by kernel_rfl) ?hQ4_5 ?hy4_5 (Below.drew (Below.refl _ _)) ?more4_5
  case hi4_5 => rw [List.getElem?_toArray]; exact rfl
  case hQ4_5 => exact fun _ _ _ h => h
  case hy4_5 =>
    refine Or.inl ⟨by rfl, ?_⟩
    intro w' hSw
    clear hSw
    go_simp
    try with_reducible rfl
  simp only [Act.put, List.setIfInBounds_toArray, List.set_cons_zero, List.set_cons_succ]
  refine wpAnyH_take (i := 5) (oi := ?o5_5) (v := ?v5_5) ?hi5_5 (by kernel_rfl) (by kernel_rfl) (by kernel_rfl) ?hQ5_5 ?hy5_5 (Below.drew (Below.refl _ _)) ?more5_5
  case hi5_5 => rw [List.getElem?_toArray]; exact rfl
  case hQ5_5 => exact fun _ _ _ h => h
  case hy5_5 =>
    refine Or.inl ⟨by rfl, ?_⟩
    intro w' hSw
    clear hSw
    go_simp
    try with_reducible rfl
  simp only [Act.put, List.setIfInBounds_toArray, List.set_cons_zero, List.set_cons_succ]
  refine wpAnyH_take (i := 6) (oi := ?o6_5) (v := ?v6_5) ?hi6_5 (by kernel_rfl) (by kernel_rfl) (by kernel_rfl) ?hQ6_5 ?hy6_5 (Below.drew (Below.refl _ _)) ?more6_5
  case hi6_5 => rw [List.getElem?_toArray]; exact rfl
  case hQ6_5 => exact fun _ _ _ h => h
  case hy6_5 =>
    refine Or.inl ⟨by rfl, ?_⟩
    intro w' hSw
    clear hSw
    go_simp
    try with_reducible rfl
  simp only [Act.put, List.setIfInBounds_toArray, List.set_cons_zero, List.set_cons_succ]
  refine wpAnyH_take (i := 7) (oi := ?o7_5) (v := ?v7_5) ?hi7_5 (by kernel_rfl) (by kernel_rfl) (by kernel_rfl) ?hQ7_5 ?hy7_5 (Below.drew (Below.refl _ _)) ?more7_5
  case hi7_5 => rw [List.getElem?_toArray]; exact rfl
  case hQ7_5 => exact fun _ _ _ h => h
  case hy7_5 =>
    refine Or.inl ⟨by rfl, ?_⟩
    intro w' hSw
    clear hSw
    go_simp
    try with_reducible rfl
  simp only [Act.put, List.setIfInBounds_toArray, List.set_cons_zero, List.set_cons_succ]
  refine wpAnyH_take (i := 8) (oi := ?o8_5) (v := ?v8_5) ?hi8_5 (by kernel_rfl) (by kernel_rfl) (by kernel_rfl) ?hQ8_5 ?hy8_5 (Below.drew (Below.refl _ _)) ?more8_5
  case hi8_5 => rw [List.getElem?_toArray]; exact rfl
  case hQ8_5 => exact fun _ _ _ h => h
  case hy8_5 =>
    refine Or.inl ⟨by rfl, ?_⟩
    intro w' hSw
    clear hSw
    go_simp
    try with_reducible rfl
  simp only [Act.put, List.setIfInBounds_toArray, List.set_cons_zero, List.set_cons_succ]
  refine wpAnyH_take (i := 9) (oi := ?o9_5) (v := ?v9_5) ?hi9_5 (by kernel_rfl) (by kernel_rfl) (by kernel_rfl) ?hQ9_5 ?hy9_5 (Below.drew (Below.refl _ _)) ?more9_5
  case hi9_5 => rw [List.getElem?_toArray]; exact rfl
  case hQ9_5 => exact fun _ _ _ h => h
  case hy9_5 =>
    refine Or.inl ⟨by rfl, ?_⟩
    intro w' hSw
    clear hSw
    go_simp
    try with_reducible rfl
  simp only [Act.put, List.setIfInBounds_toArray, List.set_cons_zero, List.set_cons_succ]
  refine wpAnyH_take (i := 10) (oi := ?o10_5) (v := ?v10_5) ?hi10_5 (by kernel_rfl) (by kernel_rfl) (by kernel_rfl) ?hQ10_5 ?hy10_5 (Below.drew (Below.refl _ _)) ?more10_5
  case hi10_5 => rw [List.getElem?_toArray]; exact rfl
  case hQ10_5 => exact fun _ _ _ h => h
  case hy10_5 =>
    refine Or.inl ⟨by rfl, ?_⟩
    intro w' hSw
    clear hSw
    go_simp
    try with_reducible rfl
  simp only [Act.put, List.setIfInBounds_toArray, List.set_cons_zero, List.set_cons_succ]
  refine wpAnyH_take (i := 11) (oi := ?o11_5) (v := ?v11_5) ?hi11_5 (by kernel_rfl) (by kernel_rfl) (by kernel_rfl) ?hQ11_5 ?hy11_5 (Below.drew (Below.refl _ _)) ?more11_5
  case hi11_5 => rw [List.getElem?_toArray]; exact rfl
  case hQ11_5 => exact fun _ _ _ h => h
  case hy11_5 =>
    refine Or.inl ⟨by rfl, ?_⟩
    intro w' hSw
    obtain ⟨sm0, sm1, sm2, sm3⟩ := (FieldB.call HS5.out hSw).1.facts
    obtain ⟨sg0, sg1, sg2, sg3⟩ := (FieldB.call HS5.out hSw).gap
    clear hSw
    go_simp
    try with_reducible rfl
  simp only [Act.put, List.setIfInBounds_toArray, List.set_cons_zero, List.set_cons_succ]
  refine wpAnyH_take (i := 12) (oi := ?o12_5) (v := ?v12_5) ?hi12_5 (by kernel_rfl) (by kernel_rfl) (by kernel_rfl) ?hQ12_5 ?hy12_5 (Below.drew (Below.refl _ _)) ?more12_5
  case hi12_5 => rw [List.getElem?_toArray]; exact rfl
  case hQ12_5 => exact fun _ _ _ h => h
  case hy12_5 =>
    refine Or.inl ⟨by rfl, ?_⟩
    intro w' hSw
    obtain ⟨⟨aa0, aa1, aa2, aa3⟩, aaz⟩ := (NS.call HA5.out hSw).facts
    clear hSw
    go_simp
    try with_reducible rfl
  simp only [Act.put, List.setIfInBounds_toArray, List.set_cons_zero, List.set_cons_succ]
  refine wpAnyH_one (i := 13) (o := ?o13_5) (by kernel_rfl) ?hi13_5 ?hw13_5 ?st13_5
  case hi13_5 => rw [List.getElem?_toArray]; exact rfl
  case hw13_5 => exact rfl
  intro K hK
  have HK13 : Hid _ := hK
  clear hK
  go_simp
  refine (K6.out _).mono ?_
  rintro e wr5_1 ⟨rfl, hq⟩
  have HB5_1 : Hid (Below w5.heap.size w5 wr5_1) := below_call0 (Below.drew (Below.refl _ _)) hq
  clear hq
  go_wp2_with fail
  refine HK13.out _ _ ⟨HB5_1.out, ?_⟩
  clear HK13 K
  try simp only [Act.put, List.setIfInBounds_toArray, List.set_cons_zero, List.set_cons_succ]
  refine wpAnyH_take (i := 14) (oi := ?o14_5) (v := ?v14_5) ?hi14_5 (by kernel_rfl) (by kernel_rfl) (by kernel_rfl) ?hQ14_5 ?hy14_5 HB5_1.out ?more14_5
  case hi14_5 => rw [List.getElem?_toArray]; exact rfl
  case hQ14_5 => exact fun _ _ _ h => h
  case hy14_5 =>
    refine Or.inl ⟨by rfl, ?_⟩
    intro w' hSw
    clear hSw
    go_simp
    try with_reducible rfl
  simp only [Act.put, List.setIfInBounds_toArray, List.set_cons_zero, List.set_cons_succ]
  refine wpAnyH_take (i := 15) (oi := ?o15_5) (v := ?v15_5) ?hi15_5 (by kernel_rfl) (by kernel_rfl) (by kernel_rfl) ?hQ15_5 ?hy15_5 HB5_1.out ?more15_5
  case hi15_5 => rw [List.getElem?_toArray]; exact rfl
  case hQ15_5 => exact fun _ _ _ h => h
  case hy15_5 =>
    refine Or.inl ⟨by rfl, ?_⟩
    intro w' hSw
    clear hSw
    go_simp
    try with_reducible rfl
  simp only [Act.put, List.setIfInBounds_toArray, List.set_cons_zero, List.set_cons_succ]
  refine wpAnyH_take (i := 16) (oi := ?o16_5) (v := ?v16_5) ?hi16_5 (by kernel_rfl) (by kernel_rfl) (by kernel_rfl) ?hQ16_5 ?hy16_5 HB5_1.out ?more16_5
  case hi16_5 => rw [List.getElem?_toArray]; exact rfl
  case hQ16_5 => exact fun _ _ _ h => h
  case hy16_5 =>
    refine Or.inl ⟨by rfl, ?_⟩
    intro w' hSw
    clear hSw
    go_simp
    try with_reducible rfl
  simp only [Act.put, List.setIfInBounds_toArray, List.set_cons_zero, List.set_cons_succ]
  refine wpAnyH_take (i := 17) (oi := ?o17_5) (v := ?v17_5) ?hi17_5 (by kernel_rfl) (by kernel_rfl) (by kernel_rfl) ?hQ17_5 ?hy17_5 HB5_1.out ?more17_5
  case hi17_5 => rw [List.getElem?_toArray]; exact rfl
  case hQ17_5 => exact fun _ _ _ h => h
  case hy17_5 =>
    refine Or.inl ⟨by rfl, ?_⟩
    intro w' hSw
    clear hSw
    go_simp
    try with_reducible rfl
  simp only [Act.put, List.setIfInBounds_toArray, List.set_cons_zero, List.set_cons_succ]
  refine wpAnyH_take (i := 19) (oi := ?o19_5) (v := ?v19_5) ?hi19_5 (by kernel_rfl) (by kernel_rfl) (by kernel_rfl) ?hQ19_5 ?hy19_5 HB5_1.out ?more19_5
  case hi19_5 => rw [List.getElem?_toArray]; exact rfl
  case hQ19_5 => exact fun _ _ _ h => h
  case hy19_5 =>
    refine Or.inl ⟨by rfl, ?_⟩
    intro w' hSw
    obtain ⟨sm0, sm1, sm2, sm3⟩ := (FieldB.call HS5.out hSw).1.facts
    obtain ⟨sg0, sg1, sg2, sg3⟩ := (FieldB.call HS5.out hSw).gap
    clear hSw
    go_simp
    try with_reducible rfl
  simp only [Act.put, List.setIfInBounds_toArray, List.set_cons_zero, List.set_cons_succ]
  refine wpAnyH_take (i := 20) (oi := ?o20_5) (v := ?v20_5) ?hi20_5 (by kernel_rfl) (by kernel_rfl) (by kernel_rfl) ?hQ20_5 ?hy20_5 HB5_1.out ?more20_5
  case hi20_5 => rw [List.getElem?_toArray]; exact rfl
  case hQ20_5 => exact fun _ _ _ h => h
  case hy20_5 =>
    refine Or.inl ⟨by rfl, ?_⟩
    intro w' hSw
    obtain ⟨sm0, sm1, sm2, sm3⟩ := (FieldB.call HS5.out hSw).1.facts
    obtain ⟨sg0, sg1, sg2, sg3⟩ := (FieldB.call HS5.out hSw).gap
    clear hSw
    go_simp
    try with_reducible rfl
  simp only [Act.put, List.setIfInBounds_toArray, List.set_cons_zero, List.set_cons_succ]
  refine wpAnyH_one (i := 18) (o := ?o18_5) (by kernel_rfl) ?hi18_5 ?hw18_5 ?st18_5
  case hi18_5 => rw [List.getElem?_toArray]; exact rfl
  case hw18_5 => exact rfl
  intro K hK
  have HK18 : Hid _ := hK
  clear hK
  go_simp
  refine (K7.out g _ (FieldB.call HF5.out HB5_1.out)).mono ?_
  rintro e wr5_2 ⟨rfl, hq⟩
  have HB5_2 : Hid (Below w5.heap.size w5 wr5_2) := below_call0 HB5_1.out hq
  clear hq
  go_wp2_with fail
  refine HK18.out _ _ ⟨HB5_2.out, ?_⟩
  clear HK18 K
  try simp only [Act.put, List.setIfInBounds_toArray, List.set_cons_zero, List.set_cons_succ]
  refine wpAnyH_take (i := 21) (oi := ?o21_5) (v := ?v21_5) ?hi21_5 (by kernel_rfl) (by kernel_rfl) (by kernel_rfl) ?hQ21_5 ?hy21_5 HB5_2.out ?more21_5
  case hi21_5 => rw [List.getElem?_toArray]; exact rfl
  case hQ21_5 => exact fun _ _ _ h => h
  case hy21_5 =>
    refine Or.inl ⟨by rfl, ?_⟩
    intro w' hSw
    clear hSw
    go_simp
    try with_reducible rfl
  simp only [Act.put, List.setIfInBounds_toArray, List.set_cons_zero, List.set_cons_succ]
  refine wpAnyH_take (i := 22) (oi := ?o22_5) (v := ?v22_5) ?hi22_5 (by kernel_rfl) (by kernel_rfl) (by kernel_rfl) ?hQ22_5 ?hy22_5 HB5_2.out ?more22_5
  case hi22_5 => rw [List.getElem?_toArray]; exact rfl
  case hQ22_5 => exact fun _ _ _ h => h
  case hy22_5 =>
    refine Or.inl ⟨by rfl, ?_⟩
    intro w' hSw
    clear hSw
    go_simp
    try with_reducible rfl
  simp only [Act.put, List.setIfInBounds_toArray, List.set_cons_zero, List.set_cons_succ]
  refine wpAnyH_take (i := 23) (oi := ?o23_5) (v := ?v23_5) ?hi23_5 (by kernel_rfl) (by kernel_rfl) (by kernel_rfl) ?hQ23_5 ?hy23_5 HB5_2.out ?more23_5
  case hi23_5 => rw [List.getElem?_toArray]; exact rfl
  case hQ23_5 => exact fun _ _ _ h => h
  case hy23_5 =>
    refine Or.inl ⟨by rfl, ?_⟩
    intro w' hSw
    clear hSw
    go_simp
    try with_reducible rfl
  simp only [Act.put, List.setIfInBounds_toArray, List.set_cons_zero, List.set_cons_succ]
  refine wpAnyH_take (i := 24) (oi := ?o24_5) (v := ?v24_5) ?hi24_5 (by kernel_rfl) (by kernel_rfl) (by kernel_rfl) ?hQ24_5 ?hy24_5 HB5_2.out ?more24_5
  case hi24_5 => rw [List.getElem?_toArray]; exact rfl
  case hQ24_5 => exact fun _ _ _ h => h
  case hy24_5 =>
    refine Or.inl ⟨by rfl, ?_⟩
    intro w' hSw
    clear hSw
    go_simp
    try with_reducible rfl
  simp only [Act.put, List.setIfInBounds_toArray, List.set_cons_zero, List.set_cons_succ]
  refine wpAnyH_take (i := 25) (oi := ?o25_5) (v := ?v25_5) ?hi25_5 (by kernel_rfl) (by kernel_rfl) (by kernel_rfl) ?hQ25_5 ?hy25_5 HB5_2.out ?more25_5
  case hi25_5 => rw [List.getElem?_toArray]; exact rfl
  case hQ25_5 => exact fun _ _ _ h => h
  case hy25_5 =>
    refine Or.inl ⟨by rfl, ?_⟩
    intro w' hSw
    obtain ⟨⟨aa0, aa1, aa2, aa3⟩, aaz⟩ := (NS.call HA5.out hSw).facts
    clear hSw
    go_simp
    try with_reducible rfl
  simp only [Act.put, List.setIfInBounds_toArray, List.set_cons_zero, List.set_cons_succ]
  refine wpAnyH_take (i := 28) (oi := ?o28_5) (v := ?v28_5) ?hi28_5 (by kernel_rfl) (by kernel_rfl) (by kernel_rfl) ?hQ28_5 ?hy28_5 HB5_2.out ?more28_5
  case hi28_5 => rw [List.getElem?_toArray]; exact rfl
  case hQ28_5 => exact fun _ _ _ h => h
  case hy28_5 =>
    refine Or.inl ⟨by rfl, ?_⟩
    intro w' hSw
    obtain ⟨sm0, sm1, sm2, sm3⟩ := (FieldB.call HS5.out hSw).1.facts
    obtain ⟨sg0, sg1, sg2, sg3⟩ := (FieldB.call HS5.out hSw).gap
    clear hSw
    go_simp
    try with_reducible rfl
  simp only [Act.put, List.setIfInBounds_toArray, List.set_cons_zero, List.set_cons_succ]
  refine wpAnyH_take (i := 29) (oi := ?o29_5) (v := ?v29_5) ?hi29_5 (by kernel_rfl) (by kernel_rfl) (by kernel_rfl) ?hQ29_5 ?hy29_5 HB5_2.out ?more29_5
  case hi29_5 => rw [List.getElem?_toArray]; exact rfl
  case hQ29_5 => exact fun _ _ _ h => h
  case hy29_5 =>
    refine Or.inl ⟨by rfl, ?_⟩
    intro w' hSw
    obtain ⟨⟨aa0, aa1, aa2, aa3⟩, aaz⟩ := (NS.call HA5.out hSw).facts
    clear hSw
    go_simp
    try with_reducible rfl
  simp only [Act.put, List.setIfInBounds_toArray, List.set_cons_zero, List.set_cons_succ]
  refine wpAnyH_one (i := 26) (o := ?o26_5) (by kernel_rfl) ?hi26_5 ?hw26_5 ?st26_5
  case hi26_5 => rw [List.getElem?_toArray]; exact rfl
  case hw26_5 => exact rfl
  intro K hK
  have HK26 : Hid _ := hK
  clear hK
  go_simp
  refine (K8.out g _ (FieldB.call HF5.out HB5_2.out)).mono ?_
  rintro e wr5_3 ⟨rfl, hq⟩
  have HB5_3 : Hid (Below w5.heap.size w5 wr5_3) := below_call0 HB5_2.out hq
  clear hq
  go_wp2_with fail
  refine HK26.out _ _ ⟨HB5_3.out, ?_⟩
  clear HK26 K
  try simp only [Act.put, List.setIfInBounds_toArray, List.set_cons_zero, List.set_cons_succ]
  refine wpAnyH_take (i := 27) (oi := ?o27_5) (v := ?v27_5) ?hi27_5 (by kernel_rfl) (by kernel_rfl) (by kernel_rfl) ?hQ27_5 ?hy27_5 HB5_3.out ?more27_5
  case hi27_5 => rw [List.getElem?_toArray]; exact rfl
  case hQ27_5 => exact fun _ _ _ h => h
  case hy27_5 =>
    refine Or.inl ⟨by rfl, ?_⟩
    intro w' hSw
    clear hSw
    go_simp
    try with_reducible rfl
  simp only [Act.put, List.setIfInBounds_toArray, List.set_cons_zero, List.set_cons_succ]
  refine wpAnyH_one (i := 30) (o := ?o30_5) (by kernel_rfl) ?hi30_5 ?hw30_5 ?st30_5
  case hi30_5 => rw [List.getElem?_toArray]; exact rfl
  case hw30_5 => exact rfl
  intro K hK
  have HK30 : Hid _ := hK
  clear hK
  go_simp
  refine (K6.out _).mono ?_
  rintro e w6 ⟨rfl, hq⟩
  have HB5_4 : Hid (Below w5.heap.size w5 w6) := below_call0 HB5_3.out hq
  clear hq
  go_wp2_with fail
  refine HK30.out _ _ ⟨HB5_4.out, ?_⟩
  clear HK30 K
  try simp only [Act.put, List.setIfInBounds_toArray, List.set_cons_zero, List.set_cons_succ]
  refine wpAnyH_take (i := 31) (oi := ?o31_5) (v := ?v31_5) ?hi31_5 (by kernel_rfl) (by kernel_rfl) (by kernel_rfl) ?hQ31_5 ?hy31_5 HB5_4.out ?more31_5
  case hi31_5 => rw [List.getElem?_toArray]; exact rfl
  case hQ31_5 => exact fun _ _ _ h => h
  case hy31_5 =>
    refine Or.inl ⟨by rfl, ?_⟩
    intro w' hSw
    clear hSw
    go_simp
    try with_reducible rfl
  simp only [Act.put, List.setIfInBounds_toArray, List.set_cons_zero, List.set_cons_succ]
  refine wpAnyH_take (i := 32) (oi := ?o32_5) (v := ?v32_5) ?hi32_5 (by kernel_rfl) (by kernel_rfl) (by kernel_rfl) ?hQ32_5 ?hy32_5 HB5_4.out ?more32_5
  case hi32_5 => rw [List.getElem?_toArray]; exact rfl
  case hQ32_5 => exact fun _ _ _ h => h
  case hy32_5 =>
    refine Or.inl ⟨by rfl, ?_⟩
    intro w' hSw
    clear hSw
    go_simp
    try with_reducible rfl
  simp only [Act.put, List.setIfInBounds_toArray, List.set_cons_zero, List.set_cons_succ]
  refine wpAnyH_done (by kernel_rfl) ?_ _
  have HA6 : Hid (NS w6 (w.heap.size) a) := NS.call HA5.out HB5_4.out
  have HB6 : Hid (NS w6 (w.heap.size + 1) b) := NS.call HB5.out HB5_4.out
  have HP6 : Hid (NS w6 (w2.heap.size) p) := NS.call HP5.out HB5_4.out
  have HD6 : Hid (NS w6 (w3.heap.size) d) := NS.call HD5.out HB5_4.out
  have HN6 : Hid (NS w6 (w4.heap.size) n) := NS.call HN5.out HB5_4.out
  have HG6 : Hid (Glob w6) := Glob.call HG5.out HB5_4.out
  have HF6 : Hid (FieldB w6 g m) := FieldB.call HF5.out HB5_4.out
  have HS6 : Hid (FieldB w6 w1.heap.size m) := FieldB.call HS5.out HB5_4.out
  have HW6 : Hid (Below w.heap.size w w6) := below_call0 HW5.out HB5_4.out
  clear HA5 HB5 HP5 HD5 HN5 HW5 HG5 HF5 HS5 HB5_1 HB5_2 HB5_3 HB5_4
  go_wp2_with fail
  refine wp_region_H (fun w' => Below w6.heap.size w6 w') 33 rfl (by kernel_rfl) ?_
  refine wpAnyH_take (i := 0) (oi := ?o0_6) (v := ?v0_6) ?hi0_6 (by kernel_rfl) (by kernel_rfl) (by kernel_rfl) ?hQ0_6 ?hy0_6 (Below.drew (Below.refl _ _)) ?more0_6
  case hi0_6 => rw [List.getElem?_toArray]; exact rfl
  case hQ0_6 => exact fun _ _ _ h => h
  case hy0_6 =>
    refine Or.inl ⟨by rfl, ?_⟩
    intro w' hSw
    obtain ⟨⟨pp0, pp1, pp2, pp3⟩, ppz⟩ := (NS.call HP6.out hSw).facts
    clear hSw
    go_simp
    try with_reducible rfl
  simp only [Act.put, List.setIfInBounds_toArray, List.set_cons_zero, List.set_cons_succ]
  refine wpAnyH_take (i := 1) (oi := ?o1_6) (v := ?v1_6) ?hi1_6 (by kernel_rfl) (by kernel_rfl) (by kernel_rfl) ?hQ1_6 ?hy1_6 (Below.drew (Below.refl _ _)) ?more1_6
  case hi1_6 => rw [List.getElem?_toArray]; exact rfl
  case hQ1_6 => exact fun _ _ _ h => h
  case hy1_6 =>
    refine Or.inl ⟨by rfl, ?_⟩
    intro w' hSw
    clear hSw
    go_simp
    try with_reducible rfl
  simp only [Act.put, List.setIfInBounds_toArray, List.set_cons_zero, List.set_cons_succ]
  refine wpAnyH_take (i := 2) (oi := ?o2_6) (v := ?v2_6) ?hi2_6 (by kernel_rfl) (by kernel_rfl) (by kernel_rfl) ?hQ2_6 ?hy2_6 (Below.drew (Below.refl _ _)) ?more2_6
  case hi2_6 => rw [List.getElem?_toArray]; exact rfl
  case hQ2_6 => exact fun _ _ _ h => h
  case hy2_6 =>
    refine Or.inl ⟨by rfl, ?_⟩
    intro w' hSw
    clear hSw
    go_simp
    try with_reducible rfl
  simp only [Act.put, List.setIfInBounds_toArray, List.set_cons_zero, List.set_cons_succ]
  refine wpAnyH_take (i := 3) (oi := ?o3_6) (v := ?v3_6) ?hi3_6 (by kernel_rfl) (by kernel_rfl) (by kernel_rfl) ?hQ3_6 ?hy3_6 (Below.drew (Below.refl _ _)) ?more3_6
  case hi3_6 => rw [List.getElem?_toArray]; exact rfl
  case hQ3_6 => exact fun _ _ _ h => h
  case hy3_6 =>
    refine Or.inl ⟨by rfl, ?_⟩
    intro w' hSw
    clear hSw
    go_simp
    try with_reducible rfl
  simp only [Act.put, List.setIfInBounds_toArray, List.set_cons_zero, List.set_cons_succ]
  refine wpAnyH_take (i := 4) (oi := ?o4_6) (v := ?v4_6) ?hi4_6 (by kernel_rfl) (by kernel_rfl) (by kernel_rfl) ?hQ4_6 ?hy4_6 (Below.drew (Below.refl _ _)) ?more4_6
  case hi4_6 => rw [List.getElem?_toArray]; exact rfl
  case hQ4_6 => exact fun _ _ _ h => h
  case hy4_6 =>
    refine Or.inl ⟨by rfl, ?_⟩
    intro w' hSw
    obtain ⟨⟨dd0, dd1, dd2, dd3⟩, ddz⟩ := (NS.call HD6.out hSw).facts
    clear hSw
    go_simp
    try with_reducible rfl
  simp only [Act.put, List.setIfInBounds_toArray, List.set_cons_zero, List.set_cons_succ]
  refine wpAnyH_take (i := 5) (oi := ?o5_6) (v := ?v5_6) ?hi5_6 (by kernel_rfl) (by kernel_rfl) (by kernel_rfl) ?hQ5_6 ?hy5_6 (Below.drew (Below.refl _ _)) ?more5_6
  case hi5_6 => rw [List.getElem?_toArray]; exact rfl
  case hQ5_6 => exact fun _ _ _ h => h
  case hy5_6 =>
    refine Or.inl ⟨by rfl, ?_⟩
    intro w' hSw
    clear hSw
    go_simp
    try with_reducible rfl
  simp only [Act.put, List.setIfInBounds_toArray, List.set_cons_zero, List.set_cons_succ]
  refine wpAnyH_take (i := 6) (oi := ?o6_6) (v := ?v6_6) ?hi6_6 (by kernel_rfl) (by kernel_rfl) (by kernel_rfl) ?hQ6_6 ?hy6_6 (Below.drew (Below.refl _ _)) ?more6_6
  case hi6_6 => rw [List.getElem?_toArray]; exact rfl
  case hQ6_6 => exact fun _ _ _ h => h
  case hy6_6 =>
    refine Or.inl ⟨by rfl, ?_⟩
    intro w' hSw
    clear hSw
    go_simp
    try with_reducible rfl
  simp only [Act.put, List.setIfInBounds_toArray, List.set_cons_zero, List.set_cons_succ]
  refine wpAnyH_take (i := 7) (oi := ?o7_6) (v := ?v7_6) ?hi7_6 (by kernel_rfl) (by kernel_rfl) (by kernel_rfl) ?hQ7_6 ?hy7_6 (Below.drew (Below.refl _ _)) ?more7_6
  case hi7_6 => rw [List.getElem?_toArray]; exact rfl
  case hQ7_6 => exact fun _ _ _ h => h
  case hy7_6 =>
    refine Or.inl ⟨by rfl, ?_⟩
    intro w' hSw
    clear hSw
    go_simp
    try with_reducible rfl
  simp only [Act.put, List.setIfInBounds_toArray, List.set_cons_zero, List.set_cons_succ]
  refine wpAnyH_take (i := 8) (oi := ?o8_6) (v := ?v8_6) ?hi8_6 (by kernel_rfl) (by kernel_rfl) (by kernel_rfl) ?hQ8_6 ?hy8_6 (Below.drew (Below.refl _ _)) ?more8_6
  case hi8_6 => rw [List.getElem?_toArray]; exact rfl
  case hQ8_6 => exact fun _ _ _ h => h
  case hy8_6 =>
    refine Or.inl ⟨by rfl, ?_⟩
    intro w' hSw
    clear hSw
    go_simp
    try with_reducible rfl
  simp only [Act.put, List.setIfInBounds_toArray, List.set_cons_zero, List.set_cons_succ]
  refine wpAnyH_take (i := 9) (oi := ?o9_6) (v := ?v9_6) ?hi9_6 (by kernel_rfl) (by kernel_rfl) (by kernel_rfl) ?hQ9_6 ?hy9_6 (Below.drew (Below.refl _ _)) ?more9_6
  case hi9_6 => rw [List.getElem?_toArray]; exact rfl
  case hQ9_6 => exact fun _ _ _ h => h
  case hy9_6 =>
    refine Or.inl ⟨by rfl, ?_⟩
    intro w' hSw
    clear hSw
    go_simp
    try with_reducible rfl
  simp only [Act.put, List.setIfInBounds_toArray, List.set_cons_zero, List.set_cons_succ]
  refine wpAnyH_take (i := 10) (oi := ?o10_6) (v := ?v10_6) ?hi10_6 (by kernel_rfl) (by kernel_rfl) (by kernel_rfl) ?hQ10_6 ?hy10_6 (Below.drew (Below.refl _ _)) ?more10_6
  case hi10_6 => rw [List.getElem?_toArray]; exact rfl
  case hQ10_6 => exact fun _ _ _ h => h
  case hy10_6 =>
    refine Or.inl ⟨by rfl, ?_⟩
    intro w' hSw
    clear hSw
    go_simp
    try with_reducible rfl
  simp only [Act.put, List.setIfInBounds_toArray, List.set_cons_zero, List.set_cons_succ]
  refine wpAnyH_take (i := 11) (oi := ?o11_6) (v := ?v11_6) ?hi11_6 (by kernel_rfl) (by kernel_rfl) (by kernel_rfl) ?hQ11_6 ?hy11_6 (Below.drew (Below.refl _ _)) ?more11_6
  case hi11_6 => rw [List.getElem?_toArray]; exact rfl
  case hQ11_6 => exact fun _ _ _ h => h
  case hy11_6 =>
    refine Or.inl ⟨by rfl, ?_⟩
    intro w' hSw
    clear hSw
    go_simp
    try with_reducible rfl
  simp only [Act.put, List.setIfInBounds_toArray, List.set_cons_zero, List.set_cons_succ]
  refine wpAnyH_take (i := 12) (oi := ?o12_6) (v := undef) ?hi12_6 (by kernel_rfl) (by kernel_rfl) (by kernel_rfl) ?hQ12_6 ?hy12_6 (Below.drew (Below.refl _ _)) ?more12_6
  case hi12_6 => rw [List.getElem?_toArray]; exact rfl
  case hQ12_6 => exact fun _ _ _ h => h
  case hy12_6 =>
    exact Or.inr ⟨by rfl, rfl⟩
  simp only [Act.put, List.setIfInBounds_toArray, List.set_cons_zero, List.set_cons_succ]
  refine wpAnyH_take (i := 13) (oi := ?o13_6) (v := undef) ?hi13_6 (by kernel_rfl) (by kernel_rfl) (by kernel_rfl) ?hQ13_6 ?hy13_6 (Below.drew (Below.refl _ _)) ?more13_6
  case hi13_6 => rw [List.getElem?_toArray]; exact rfl
  case hQ13_6 => exact fun _ _ _ h => h
  case hy13_6 =>
    exact Or.inr ⟨by rfl, rfl⟩
  simp only [Act.put, List.setIfInBounds_toArray, List.set_cons_zero, List.set_cons_succ]
  refine wpAnyH_take (i := 14) (oi := ?o14_6) (v := undef) ?hi14_6 (by kernel_rfl) (by kernel_rfl) (by kernel_rfl) ?hQ14_6 ?hy14_6 (Below.drew (Below.refl _ _)) ?more14_6
  case hi14_6 => rw [List.getElem?_toArray]; exact rfl
  case hQ14_6 => exact fun _ _ _ h => h
  case hy14_6 =>
    exact Or.inr ⟨by rfl, rfl⟩
  simp only [Act.put, List.setIfInBounds_toArray, List.set_cons_zero, List.set_cons_succ]
  refine wpAnyH_take (i := 15) (oi := ?o15_6) (v := undef) ?hi15_6 (by kernel_rfl) (by kernel_rfl) (by kernel_rfl) ?hQ15_6 ?hy15_6 (Below.drew (Below.refl _ _)) ?more15_6
  case hi15_6 => rw [List.getElem?_toArray]; exact rfl
  case hQ15_6 => exact fun _ _ _ h => h
  case hy15_6 =>
    exact Or.inr ⟨by rfl, rfl⟩
  simp only [Act.put, List.setIfInBounds_toArray, List.set_cons_zero, List.set_cons_succ]
  refine wpAnyH_take (i := 16) (oi := ?o16_6) (v := undef) ?hi16_6 (by kernel_rfl) (by kernel_rfl) (by kernel_rfl) ?hQ16_6 ?hy16_6 (Below.drew (Below.refl _ _)) ?more16_6
  case hi16_6 => rw [List.getElem?_toArray]; exact rfl
  case hQ16_6 => exact fun _ _ _ h => h
  case hy16_6 =>
    exact Or.inr ⟨by rfl, rfl⟩
  simp only [Act.put, List.setIfInBounds_toArray, List.set_cons_zero, List.set_cons_succ]
  refine wpAnyH_take (i := 17) (oi := ?o17_6) (v := undef) ?hi17_6 (by kernel_rfl) (by kernel_rfl) (by kernel_rfl) ?hQ17_6 ?hy17_6 (Below.drew (Below.refl _ _)) ?more17_6
  case hi17_6 => rw [List.getElem?_toArray]; exact rfl
  case hQ17_6 => exact fun _ _ _ h => h
  case hy17_6 =>
    exact Or.inr ⟨by rfl, rfl⟩
  simp only [Act.put, List.setIfInBounds_toArray, List.set_cons_zero, List.set_cons_succ]
  refine wpAnyH_take (i := 18) (oi := ?o18_6) (v := ?v18_6) ?hi18_6 (by kernel_rfl) (by kernel_rfl) (by kernel_rfl) ?hQ18_6 ?hy18_6 (Below.drew (Below.refl _ _)) ?more18_6
  case hi18_6 => rw [List.getElem?_toArray]; exact rfl
  case hQ18_6 => exact fun _ _ _ h => h
  case hy18_6 =>
    refine Or.inl ⟨by rfl, ?_⟩
    intro w' hSw
    clear hSw
    go_simp
    try with_reducible rfl
  simp only [Act.put, List.setIfInBounds_toArray, List.set_cons_zero, List.set_cons_succ]
  refine wpAnyH_take (i := 19) (oi := ?o19_6) (v := ?v19_6) ?hi19_6 (by kernel_rfl) (by kernel_rfl) (by kernel_rfl) ?hQ19_6 ?hy19_6 (Below.drew (Below.refl _ _)) ?more19_6
  case hi19_6 => rw [List.getElem?_toArray]; exact rfl
  case hQ19_6 => exact fun _ _ _ h => h
  case hy19_6 =>
    refine Or.inl ⟨by rfl, ?_⟩
    intro w' hSw
    clear hSw
    go_simp
    try with_reducible rfl
  simp only [Act.put, List.setIfInBounds_toArray, List.set_cons_zero, List.set_cons_succ]
  refine wpAnyH_take (i := 20) (oi := ?o20_6) (v := ?v20_6) ?hi20_6 (by kernel_rfl) (by kernel_rfl) (by kernel_rfl) ?hQ20_6 ?hy20_6 (Below.drew (Below.refl _ _)) ?more20_6
  case hi20_6 => rw [List.getElem?_toArray]; exact rfl
  case hQ20_6 => exact fun _ _ _ h => h
  case hy20_6 =>
    refine Or.inl ⟨by rfl, ?_⟩
    intro w' hSw
    clear hSw
    go_simp
    try with_reducible rfl
  simp only [Act.put, List.setIfInBounds_toArray, List.set_cons_zero, List.set_cons_succ]
  refine wpAnyH_take (i := 21) (oi := ?o21_6) (v := ?v21_6) ?hi21_6 (by kernel_rfl) (by kernel_rfl) (by kernel_rfl) ?hQ21_6 ?hy21_6 (Below.drew (Below.refl _ _)) ?more21_6
  case hi21_6 => rw [List.getElem?_toArray]; exact rfl
  case hQ21_6 => exact fun _ _ _ h => h
  case hy21_6 =>
    refine Or.inl ⟨by rfl, ?_⟩
    intro w' hSw
    clear hSw
    go_simp
    try with_reducible rfl
  simp only [Act.put, List.setIfInBounds_toArray, List.set_cons_zero, List.set_cons_succ]
  refine wpAnyH_take (i := 22) (oi := ?o22_6) (v := ?v22_6) ?hi22_6 (by kernel_rfl) (by kernel_rfl) (by kernel_rfl) ?hQ22_6 ?hy22_6 (Below.drew (Below.refl _ _)) ?more22_6
  case hi22_6 => rw [List.getElem?_toArray]; exact rfl
  case hQ22_6 => exact fun _ _ _ h => h
  case hy22_6 =>
    refine Or.inl ⟨by rfl, ?_⟩
    intro w' hSw
    clear hSw
    go_simp
    try with_reducible rfl
  simp only [Act.put, List.setIfInBounds_toArray, List.set_cons_zero, List.set_cons_succ]
  refine wpAnyH_take (i := 23) (oi := ?o23_6) (v := ?v23_6) ?hi23_6 (by kernel_rfl) (by kernel_rfl) (by kernel_rfl) ?hQ23_6 ?hy23_6 (Below.drew (Below.refl _ _)) ?more23_6
  case hi23_6 => rw [List.getElem?_toArray]; exact rfl
  case hQ23_6 => exact fun _ _ _ h => h
  case hy23_6 =>
    refine Or.inl ⟨by rfl, ?_⟩
    intro w' hSw
    obtain ⟨⟨nn0, nn1, nn2, nn3⟩, nnz⟩ := (NS.call HN6.out hSw).facts
    clear hSw
    go_simp
    try with_reducible rfl
  simp only [Act.put, List.setIfInBounds_toArray, List.set_cons_zero, List.set_cons_succ]
  refine wpAnyH_take (i := 24) (oi := ?o24_6) (v := ?v24_6) ?hi24_6 (by kernel_rfl) (by kernel_rfl) (by kernel_rfl) ?hQ24_6 ?hy24_6 (Below.drew (Below.refl _ _)) ?more24_6
  case hi24_6 => rw [List.getElem?_toArray]; exact rfl
  case hQ24_6 => exact fun _ _ _ h => h
  case hy24_6 =>
    refine Or.inl ⟨by rfl, ?_⟩
    intro w' hSw
    clear hSw
    go_simp
    try with_reducible rfl
  simp only [Act.put, List.setIfInBounds_toArray, List.set_cons_zero, List.set_cons_succ]
  refine wpAnyH_take (i := 25) (oi := ?o25_6) (v := ?v25_6) ?hi25_6 (by kernel_rfl) (by kernel_rfl) (by kernel_rfl) ?hQ25_6 ?hy25_6 (Below.drew (Below.refl _ _)) ?more25_6
  case hi25_6 => rw [List.getElem?_toArray]; exact rfl
  case hQ25_6 => exact fun _ _ _ h => h
  case hy25_6 =>
    refine Or.inl ⟨by rfl, ?_⟩
    intro w' hSw
    clear hSw
    go_simp
    try with_reducible rfl
  simp only [Act.put, List.setIfInBounds_toArray, List.set_cons_zero, List.set_cons_succ]
  refine wpAnyH_take (i := 26) (oi := ?o26_6) (v := ?v26_6) ?hi26_6 (by kernel_rfl) (by kernel_rfl) (by kernel_rfl) ?hQ26_6 ?hy26_6 (Below.drew (Below.refl _ _)) ?more26_6
  case hi26_6 => rw [List.getElem?_toArray]; exact rfl
  case hQ26_6 => exact fun _ _ _ h => h
  case hy26_6 =>
    refine Or.inl ⟨by rfl, ?_⟩
    intro w' hSw
    clear hSw
    go_simp
    try with_reducible rfl
  simp only [Act.put, List.setIfInBounds_toArray, List.set_cons_zero, List.set_cons_succ]
  refine wpAnyH_take (i := 27) (oi := ?o27_6) (v := ?v27_6) ?hi27_6 (by kernel_rfl) (by kernel_rfl) (by kernel_rfl) ?hQ27_6 ?hy27_6 (Below.drew (Below.refl _ _)) ?more27_6
  case hi27_6 => rw [List.getElem?_toArray]; exact rfl
  case hQ27_6 => exact fun _ _ _ h => h
  case hy27_6 =>
    refine Or.inl ⟨by rfl, ?_⟩
    intro w' hSw
    clear hSw
    go_simp
    try with_reducible rfl
  simp only [Act.put, List.setIfInBounds_toArray, List.set_cons_zero, List.set_cons_succ]
  refine wpAnyH_take (i := 28) (oi := ?o28_6) (v := ?v28_6) ?hi28_6 (by kernel_rfl) (by kernel_rfl) (by kernel_rfl) ?hQ28_6 ?hy28_6 (Below.drew (Below.refl _ _)) ?more28_6
  case hi28_6 => rw [List.getElem?_toArray]; exact rfl
  case hQ28_6 => exact fun _ _ _ h => h
  case hy28_6 =>
    refine Or.inl ⟨by rfl, ?_⟩
    intro w' hSw
    clear hSw
    go_simp
    try with_reducible rfl
  simp only [Act.put, List.setIfInBounds_toArray, List.set_cons_zero, List.set_cons_succ]
  refine wpAnyH_take (i := 29) (oi := ?o29_6) (v := ?v29_6) ?hi29_6 (by kernel_rfl) (by kernel_rfl) (by kernel_rfl) ?hQ29_6 ?hy29_6 (Below.drew (Below.refl _ _)) ?more29_6
  case hi29_6 => rw [List.getElem?_toArray]; exact rfl
  case hQ29_6 => exact fun _ _ _ h => h
  case hy29_6 =>
    refine Or.inl ⟨by rfl, ?_⟩
    intro w' hSw
    clear hSw
    go_simp
    try with_reducible rfl
  simp only [Act.put, List.setIfInBounds_toArray, List.set_cons_zero, List.set_cons_succ]
  refine wpAnyH_one (i := 30) (o := ?o30_6) (by kernel_rfl) ?hi30_6 ?hw30_6 ?st30_6
  case hi30_6 => rw [List.getElem?_toArray]; exact rfl
  case hw30_6 => exact rfl
  intro K hK
  have HK30 : Hid _ := hK
  clear hK
  go_simp
  refine (half_any _ (Glob.call HG6.out (Below.drew (Below.refl _ _)))).mono ?_
  rintro e w7 ⟨rfl, hq⟩
  have HB6_1 : Hid (Below w6.heap.size w6 w7) := below_call0 (Below.drew (Below.refl _ _)) hq
  clear hq
  go_wp2_with fail
  refine HK30.out _ _ ⟨HB6_1.out, ?_⟩
  clear HK30 K
  try simp only [Act.put, List.setIfInBounds_toArray, List.set_cons_zero, List.set_cons_succ]
  refine wpAnyH_take (i := 31) (oi := ?o31_6) (v := ?v31_6) ?hi31_6 (by kernel_rfl) (by kernel_rfl) (by kernel_rfl) ?hQ31_6 ?hy31_6 HB6_1.out ?more31_6
  case hi31_6 => rw [List.getElem?_toArray]; exact rfl
  case hQ31_6 => exact fun _ _ _ h => h
  case hy31_6 =>
    refine Or.inl ⟨by rfl, ?_⟩
    intro w' hSw
    clear hSw
    go_simp
    try with_reducible rfl
  simp only [Act.put, List.setIfInBounds_toArray, List.set_cons_zero, List.set_cons_succ]
  refine wpAnyH_take (i := 32) (oi := ?o32_6) (v := ?v32_6) ?hi32_6 (by kernel_rfl) (by kernel_rfl) (by kernel_rfl) ?hQ32_6 ?hy32_6 HB6_1.out ?more32_6
  case hi32_6 => rw [List.getElem?_toArray]; exact rfl
  case hQ32_6 => exact fun _ _ _ h => h
  case hy32_6 =>
    refine Or.inl ⟨by rfl, ?_⟩
    intro w' hSw
    clear hSw
    go_simp
    try with_reducible rfl
  simp only [Act.put, List.setIfInBounds_toArray, List.set_cons_zero, List.set_cons_succ]
  refine wpAnyH_done (by kernel_rfl) ?_ _
  have HA7 : Hid (NS w7 (w.heap.size) a) := NS.call HA6.out HB6_1.out
  have HB7 : Hid (NS w7 (w.heap.size + 1) b) := NS.call HB6.out HB6_1.out
  have HP7 : Hid (NS w7 (w2.heap.size) p) := NS.call HP6.out HB6_1.out
  have HD7 : Hid (NS w7 (w3.heap.size) d) := NS.call HD6.out HB6_1.out
  have HN7 : Hid (NS w7 (w4.heap.size) n) := NS.call HN6.out HB6_1.out
  have HG7 : Hid (Glob w7) := Glob.call HG6.out HB6_1.out
  have HF7 : Hid (FieldB w7 g m) := FieldB.call HF6.out HB6_1.out
  have HS7 : Hid (FieldB w7 w1.heap.size m) := FieldB.call HS6.out HB6_1.out
  have HW7 : Hid (Below w.heap.size w w7) := below_call0 HW6.out HB6_1.out
  clear HA6 HB6 HP6 HD6 HN6 HW6 HG6 HF6 HS6 HB6_1
  go_wp2_with fail
  go_ret
  exact ⟨rfl, HW7.out⟩

theorem fieldSums_any (base : Bool) (a b : Nat) (ha : a < R256) (hb : b < R256) (w : World) (hG : Glob w) (hQ : GlobQ w) : Calls Tryd.prog 3 #[.bool base, .agg #[.int .u64 (limb (a) 0 : Nat), .int .u64 (limb (a) 1 : Nat), .int .u64 (limb (a) 2 : Nat), .int .u64 (limb (a) 3 : Nat)], .agg #[.int .u64 (limb (b) 0 : Nat), .int .u64 (limb (b) 1 : Nat), .int .u64 (limb (b) 2 : Nat), .int .u64 (limb (b) 3 : Nat)]] w fun e w' => e = .returned (.bool true) ∧ Below w.heap.size w w' := by
  have hF := FM_B base
  have hm := hF.2.1
  have m1 := hF.pos
  have z0 : ∀ (a : Nat), a < mB base → ∀ w, Calls Tryd.prog 17 #[.agg #[.int .u64 (limb (mB base) 0 : Nat), .int .u64 (limb (mB base) 1 : Nat), .int .u64 (limb (mB base) 2 : Nat), .int .u64 (limb (mB base) 3 : Nat), .int .u64 (limb (R256 - (mB base)) 0 : Nat), .int .u64 (limb (R256 - (mB base)) 1 : Nat), .int .u64 (limb (R256 - (mB base)) 2 : Nat), .int .u64 (limb (R256 - (mB base)) 3 : Nat)], .agg #[.int .u64 0, .int .u64 0, .int .u64 0, .int .u64 0], .agg #[.int .u64 (limb (a) 0 : Nat), .int .u64 (limb (a) 1 : Nat), .int .u64 (limb (a) 2 : Nat), .int .u64 (limb (a) 3 : Nat)]] w fun e w' => e = .returned (.agg #[.int .u64 (limb (subM (mB base) 0 a) 0 : Nat), .int .u64 (limb (subM (mB base) 0 a) 1 : Nat), .int .u64 (limb (subM (mB base) 0 a) 2 : Nat), .int .u64 (limb (subM (mB base) 0 a) 3 : Nat)]) ∧ Below w.heap.size w w' := fun a h w => by
    have k := sub2_any (mB base) 0 a hm (by omega) h w
    rw [limb_nought, limb_nought, limb_nought, limb_nought] at k
    exact k
  have zz : eq4 (limb 0 0 : Nat) (limb 0 1 : Nat) (limb 0 2 : Nat) (limb 0 3 : Nat) 0 0 0 0 = true := by rw [limb_nought, limb_nought, limb_nought, limb_nought]; rfl
  by_cases h1 : a < mB base
  · by_cases h2 : b < mB base
    · exact sums_in base (mB base) a b _ _ _ (of_any base) (fun g w h' => fadd_in g _ a b hF h1 h2 w h') (fun g w h' => fsub_in g _ a b hF h1 h2 w h') (fun g w h' => fneg_in g _ a hF h1 w h') (ask2_in _ a b hm ha hb (decide_eq_true h1) (decide_eq_true h2)) (has2_b _ a true hm ha (decide_eq_true h1)) (fun g w h' => modulus_any g _ w h') (fun g w h' => check_in g _ a ha hm h1 w h') (add2_any _ a b hm h1 h2) (sub2_any _ a b hm h1 h2) (z0 a h1) w hG hQ
    · refine sums_nb base (mB base) a b 0 0 _ (of_any base) (fun g w h' => ?_) (fun g w h' => ?_) (fun g w h' => fneg_in g _ a hF h1 w h') (ask2_no _ a b hm ha hb (fun h => h2 h.2)) (has2_b _ a true hm ha (decide_eq_true h1)) (fun g w h' => modulus_any g _ w h') (fun g w h' => check_in g _ a ha hm h1 w h') (z0 a h1) zz zz w hG hQ <;> rw [limb_nought, limb_nought, limb_nought, limb_nought]
      · exact fadd_no g _ a b hF ha hb (fun h => h2 h.2) w h'
      · exact fsub_no g _ a b hF ha hb (fun h => h2 h.2) w h'
  · refine sums_na base (mB base) a b 0 0 0 (of_any base) (fun g w h' => ?_) (fun g w h' => ?_) (fun g w h' => ?_) (ask2_no _ a b hm ha hb (fun h => h1 h.1)) (has2_b _ a false hm ha (decide_eq_false h1)) (fun g w h' => modulus_any g _ w h') (fun g w h' => check_no g _ a ha hm h1 w h') zz zz zz w hG hQ <;> rw [limb_nought, limb_nought, limb_nought, limb_nought]
    · exact fadd_no g _ a b hF ha hb (fun h => h1 h.1) w h'
    · exact fsub_no g _ a b hF ha hb (fun h => h1 h.1) w h'
    · exact fneg_no g _ a hF ha h1 w h'
end Go.Proofs.YtglifkfkcepllaaDoor
