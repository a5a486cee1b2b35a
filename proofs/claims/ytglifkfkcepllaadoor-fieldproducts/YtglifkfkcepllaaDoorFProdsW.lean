/- The walk of the statement FieldProducts. -/
import Derived.Test.YtglifkfkcepllaaDoorFieldH
import Derived.Test.YtglifkfkcepllaaDoorRef2M
import Derived.Test.YtglifkfkcepllaaDoorWalkW
import Derived.Test.YtglifkfkcepllaaDoorHeldR
namespace Go.Proofs.YtglifkfkcepllaaDoor
open Go.RowKit
attribute [local go_sem] run_eq4

set_option maxRecDepth 100000 in
set_option maxHeartbeats 8000000 in
theorem prods_in (base : Bool) (m a b V p r : Nat)
    (k1 : ∀ w, Glob w → GlobQ w → Calls Tryd.prog 9 #[.bool base] w fun e w' => ∃ g, e = .returned (.tuple #[.pointer (some ⟨g, 0, none⟩), .agg #[.int .u64 (limb m 0 : Nat), .int .u64 (limb m 1 : Nat), .int .u64 (limb m 2 : Nat), .int .u64 (limb m 3 : Nat), .int .u64 (limb (R256 - m) 0 : Nat), .int .u64 (limb (R256 - m) 1 : Nat), .int .u64 (limb (R256 - m) 2 : Nat), .int .u64 (limb (R256 - m) 3 : Nat)]]) ∧ FieldB w' g m ∧ Below w.heap.size w w')
    (k2 : ∀ (g : Nat) (w : World), FieldB w g m → Calls Tryd.prog 20 #[.pointer (some ⟨g, 0, none⟩), .agg #[.int .u64 (limb (a) 0 : Nat), .int .u64 (limb (a) 1 : Nat), .int .u64 (limb (a) 2 : Nat), .int .u64 (limb (a) 3 : Nat)], .agg #[.int .u64 (limb (b) 0 : Nat), .int .u64 (limb (b) 1 : Nat), .int .u64 (limb (b) 2 : Nat), .int .u64 (limb (b) 3 : Nat)]] w fun e w' => e = .returned (.tuple #[.agg #[.int .u64 (limb (p) 0 : Nat), .int .u64 (limb (p) 1 : Nat), .int .u64 (limb (p) 2 : Nat), .int .u64 (limb (p) 3 : Nat)], .int .i64 0]) ∧ Below w.heap.size w w')
    (k3 : ∀ w, Calls Tryd.prog 21 #[.agg #[.int .u64 (limb (a) 0 : Nat), .int .u64 (limb (a) 1 : Nat), .int .u64 (limb (a) 2 : Nat), .int .u64 (limb (a) 3 : Nat)], .agg #[.int .u64 (limb (b) 0 : Nat), .int .u64 (limb (b) 1 : Nat), .int .u64 (limb (b) 2 : Nat), .int .u64 (limb (b) 3 : Nat)]] w fun e w' => e = .returned (.agg #[.int .u64 (limb (V) 0 : Nat), .int .u64 (limb (V) 1 : Nat), .int .u64 (limb (V) 2 : Nat), .int .u64 (limb (V) 3 : Nat), .int .u64 (limb (V) 4 : Nat), .int .u64 (limb (V) 5 : Nat), .int .u64 (limb (V) 6 : Nat), .int .u64 (limb (V) 7 : Nat)]) ∧ Below w.heap.size w w')
    (k4 : ∀ w, Calls Tryd.prog 13 #[.agg #[.int .u64 (limb m 0 : Nat), .int .u64 (limb m 1 : Nat), .int .u64 (limb m 2 : Nat), .int .u64 (limb m 3 : Nat), .int .u64 (limb (R256 - m) 0 : Nat), .int .u64 (limb (R256 - m) 1 : Nat), .int .u64 (limb (R256 - m) 2 : Nat), .int .u64 (limb (R256 - m) 3 : Nat)], .agg #[.int .u64 (limb (a) 0 : Nat), .int .u64 (limb (a) 1 : Nat), .int .u64 (limb (a) 2 : Nat), .int .u64 (limb (a) 3 : Nat)], .agg #[.int .u64 (limb (b) 0 : Nat), .int .u64 (limb (b) 1 : Nat), .int .u64 (limb (b) 2 : Nat), .int .u64 (limb (b) 3 : Nat)]] w fun e w' => e = .returned (.int .i64 0) ∧ Below w.heap.size w w')
    (k5 : ∀ w, Calls Tryd.prog 22 #[.agg #[.int .u64 (limb m 0 : Nat), .int .u64 (limb m 1 : Nat), .int .u64 (limb m 2 : Nat), .int .u64 (limb m 3 : Nat), .int .u64 (limb (R256 - m) 0 : Nat), .int .u64 (limb (R256 - m) 1 : Nat), .int .u64 (limb (R256 - m) 2 : Nat), .int .u64 (limb (R256 - m) 3 : Nat)], .agg #[.int .u64 (limb (a) 0 : Nat), .int .u64 (limb (a) 1 : Nat), .int .u64 (limb (a) 2 : Nat), .int .u64 (limb (a) 3 : Nat)], .agg #[.int .u64 (limb (b) 0 : Nat), .int .u64 (limb (b) 1 : Nat), .int .u64 (limb (b) 2 : Nat), .int .u64 (limb (b) 3 : Nat)]] w fun e w' => e = .returned (.agg #[.int .u64 (limb (p) 0 : Nat), .int .u64 (limb (p) 1 : Nat), .int .u64 (limb (p) 2 : Nat), .int .u64 (limb (p) 3 : Nat)]) ∧ Below w.heap.size w w')
    (k6 : ∀ (g : Nat) (w : World), FieldB w g m → Calls Tryd.prog 23 #[.pointer (some ⟨g, 0, none⟩), .agg #[.int .u64 (limb (V) 0 : Nat), .int .u64 (limb (V) 1 : Nat), .int .u64 (limb (V) 2 : Nat), .int .u64 (limb (V) 3 : Nat), .int .u64 (limb (V) 4 : Nat), .int .u64 (limb (V) 5 : Nat), .int .u64 (limb (V) 6 : Nat), .int .u64 (limb (V) 7 : Nat)]] w fun e w' => e = .returned (.agg #[.int .u64 (limb (r) 0 : Nat), .int .u64 (limb (r) 1 : Nat), .int .u64 (limb (r) 2 : Nat), .int .u64 (limb (r) 3 : Nat)]) ∧ Below w.heap.size w w')
    (k7 : ∀ w, Calls Tryd.prog 24 #[.agg #[.int .u64 (limb m 0 : Nat), .int .u64 (limb m 1 : Nat), .int .u64 (limb m 2 : Nat), .int .u64 (limb m 3 : Nat), .int .u64 (limb (R256 - m) 0 : Nat), .int .u64 (limb (R256 - m) 1 : Nat), .int .u64 (limb (R256 - m) 2 : Nat), .int .u64 (limb (R256 - m) 3 : Nat)], .agg #[.int .u64 (limb (V) 0 : Nat), .int .u64 (limb (V) 1 : Nat), .int .u64 (limb (V) 2 : Nat), .int .u64 (limb (V) 3 : Nat), .int .u64 (limb (V) 4 : Nat), .int .u64 (limb (V) 5 : Nat), .int .u64 (limb (V) 6 : Nat), .int .u64 (limb (V) 7 : Nat)]] w fun e w' => e = .returned (.agg #[.int .u64 (limb (r) 0 : Nat), .int .u64 (limb (r) 1 : Nat), .int .u64 (limb (r) 2 : Nat), .int .u64 (limb (r) 3 : Nat)]) ∧ Below w.heap.size w w')
    (w : World) (hG : Glob w) (hQ : GlobQ w) : Calls Tryd.prog 4 #[.bool base, .agg #[.int .u64 (limb (a) 0 : Nat), .int .u64 (limb (a) 1 : Nat), .int .u64 (limb (a) 2 : Nat), .int .u64 (limb (a) 3 : Nat)], .agg #[.int .u64 (limb (b) 0 : Nat), .int .u64 (limb (b) 1 : Nat), .int .u64 (limb (b) 2 : Nat), .int .u64 (limb (b) 3 : Nat)]] w fun e w' => e = .returned (.bool true) ∧ Below w.heap.size w w' := by
  have HG : Hid (Glob w ∧ GlobQ w) := ⟨hG, hQ⟩
  have K1 : Hid _ := k1
  have K2 : Hid _ := k2
  have K3 : Hid _ := k3
  have K4 : Hid _ := k4
  have K5 : Hid _ := k5
  have K6 : Hid _ := k6
  have K7 : Hid _ := k7
  have er : eq4 (limb r 0 : Nat) (limb r 1 : Nat) (limb r 2 : Nat) (limb r 3 : Nat) (limb r 0 : Nat) (limb r 1 : Nat) (limb r 2 : Nat) (limb r 3 : Nat) = true := by simp [eq4]
  have ep : eq4 (limb p 0 : Nat) (limb p 1 : Nat) (limb p 2 : Nat) (limb p 3 : Nat) (limb p 0 : Nat) (limb p 1 : Nat) (limb p 2 : Nat) (limb p 3 : Nat) = true := by simp [eq4]
  clear hG hQ k1 k2 k3 k4 k5 k6 k7
  go_enter Tryd.func4, Tryd.ntmps4
  go_wp2_with fail
  refine (K1.out _ (Glob.alloc (Glob.alloc HG.out.1)) (GlobQ.alloc (GlobQ.alloc HG.out.2))).mono ?_
  rintro e w1 ⟨g, rfl, hF1, hb1⟩
  have HA1 : Hid (NS w1 (w.heap.size) a) := by
    have t := NS.call (W := _) (NS.alloc (NS.new _ _ _)) hb1
    try simp only [World.size_alloc] at t
    exact t
  have HB1 : Hid (NS w1 (w.heap.size + 1) b) := by
    have t := NS.call (W := _) (NS.new _ _ _) hb1
    try simp only [World.size_alloc] at t
    exact t
  have HW1 : Hid (Below w.heap.size w w1) := below_call0 (below_alloc0 (below_alloc0 (Below.refl _ _) _) _) hb1
  have HG1 : Hid (Glob w1) := Glob.call (Glob.alloc (Glob.alloc HG.out.1)) hb1
  have HF1 : Hid (FieldB w1 g m) := hF1
  clear hb1
  clear hF1
  obtain ⟨⟨aa0, aa1, aa2, aa3⟩, aaz⟩ := HA1.out.facts
  obtain ⟨⟨bb0, bb1, bb2, bb3⟩, bbz⟩ := HB1.out.facts
  go_wp2_with fail
  refine (K2.out g _ (FieldB.alloc HF1.out)).mono ?_
  rintro e w2 ⟨rfl, hb2⟩
  have HA2 : Hid (NS w2 (w.heap.size) a) := NS.acall HA1.out hb2
  have HB2 : Hid (NS w2 (w.heap.size + 1) b) := NS.acall HB1.out hb2
  have HW2 : Hid (Below w.heap.size w w2) := below_acall HW1.out hb2
  have HG2 : Hid (Glob w2) := Glob.call (Glob.alloc HG1.out) hb2
  have HF2 : Hid (FieldB w2 g m) := FieldB.call (FieldB.alloc HF1.out) hb2
  have HS2 : Hid (FieldB w2 w1.heap.size m) := FieldB.call (FieldB.new w1 m _) hb2
  clear hb2
  clear HA1 HB1 HW1 HG1 HF1
  clear aa0 aa1 aa2 aa3 aaz bb0 bb1 bb2 bb3 bbz
  obtain ⟨⟨aa0, aa1, aa2, aa3⟩, aaz⟩ := HA2.out.facts
  obtain ⟨⟨bb0, bb1, bb2, bb3⟩, bbz⟩ := HB2.out.facts
  go_wp2_with fail
  refine (K3.out _).mono ?_
  rintro e w3 ⟨rfl, hb3⟩
  have HA3 : Hid (NS w3 (w.heap.size) a) := NS.acall HA2.out hb3
  have HB3 : Hid (NS w3 (w.heap.size + 1) b) := NS.acall HB2.out hb3
  have HP3 : Hid (NS w3 w2.heap.size p) := NS.ncall hb3
  have HW3 : Hid (Below w.heap.size w w3) := below_acall HW2.out hb3
  have HG3 : Hid (Glob w3) := Glob.call (Glob.alloc HG2.out) hb3
  have HF3 : Hid (FieldB w3 g m) := FieldB.call (FieldB.alloc HF2.out) hb3
  have HS3 : Hid (FieldB w3 w1.heap.size m) := FieldB.call (FieldB.alloc HS2.out) hb3
  clear hb3
  clear HA2 HB2 HW2 HG2 HF2 HS2
  clear aa0 aa1 aa2 aa3 aaz bb0 bb1 bb2 bb3 bbz
  go_wp2_with fail
  obtain ⟨w4, hX⟩ : ∃ x, x = (w3 : World).alloc (.cells #[.int .u64 (limb V 0 : Nat), .int .u64 (limb V 1 : Nat), .int .u64 (limb V 2 : Nat), .int .u64 (limb V 3 : Nat), .int .u64 (limb V 4 : Nat), .int .u64 (limb V 5 : Nat), .int .u64 (limb V 6 : Nat), .int .u64 (limb V 7 : Nat)] 42) := ⟨_, rfl⟩
  rw [← hX]
  have HA4 : Hid (NS w4 (w.heap.size) a) := by rw [hX]; exact NS.alloc HA3.out
  have HB4 : Hid (NS w4 (w.heap.size + 1) b) := by rw [hX]; exact NS.alloc HB3.out
  have HP4 : Hid (NS w4 (w2.heap.size) p) := by rw [hX]; exact NS.alloc HP3.out
  have HG4 : Hid (Glob w4) := by rw [hX]; exact Glob.alloc HG3.out
  have HF4 : Hid (FieldB w4 g m) := by rw [hX]; exact FieldB.alloc HF3.out
  have HS4 : Hid (FieldB w4 w1.heap.size m) := by rw [hX]; exact FieldB.alloc HS3.out
  have HV4 : Hid (WS w4 w3.heap.size V) := by rw [hX]; exact WS.new _ _ _
  have HW4 : Hid (Below w.heap.size w w4) := by rw [hX]; exact below_alloc0 HW3.out _
  clear hX HA3 HB3 HP3 HW3 HG3 HF3 HS3
  refine wp_region_H (fun w' => Below w4.heap.size w4 w') 27 rfl (by kernel_rfl) ?_
  refine wpAnyH_take (i := 0) (oi := ?o0_4) (v := ?v0_4) ?hi0_4 (by kernel_rfl) (by kernel_rfl) (by kernel_rfl) ?hQ0_4 ?hy0_4 (Below.drew (Below.refl _ _)) ?more0_4
  case hi0_4 => rw [List.getElem?_toArray]; exact rfl
  case hQ0_4 => exact fun _ _ _ h => h
  case hy0_4 =>
    refine Or.inl ⟨by rfl, ?_⟩
    intro w' hSw
    clear hSw
    go_simp
    try with_reducible rfl
  simp only [Act.put, List.setIfInBounds_toArray, List.set_cons_zero, List.set_cons_succ]
  refine wpAnyH_take (i := 1) (oi := ?o1_4) (v := ?v1_4) ?hi1_4 (by kernel_rfl) (by kernel_rfl) (by kernel_rfl) ?hQ1_4 ?hy1_4 (Below.drew (Below.refl _ _)) ?more1_4
  case hi1_4 => rw [List.getElem?_toArray]; exact rfl
  case hQ1_4 => exact fun _ _ _ h => h
  case hy1_4 =>
    refine Or.inl ⟨by rfl, ?_⟩
    intro w' hSw
    obtain ⟨sm0, sm1, sm2, sm3⟩ := (FieldB.call HS4.out hSw).1.facts
    obtain ⟨sg0, sg1, sg2, sg3⟩ := (FieldB.call HS4.out hSw).gap
    clear hSw
    go_simp
    try with_reducible rfl
  simp only [Act.put, List.setIfInBounds_toArray, List.set_cons_zero, List.set_cons_succ]
  refine wpAnyH_take (i := 2) (oi := ?o2_4) (v := ?v2_4) ?hi2_4 (by kernel_rfl) (by kernel_rfl) (by kernel_rfl) ?hQ2_4 ?hy2_4 (Below.drew (Below.refl _ _)) ?more2_4
  case hi2_4 => rw [List.getElem?_toArray]; exact rfl
  case hQ2_4 => exact fun _ _ _ h => h
  case hy2_4 =>
    refine Or.inl ⟨by rfl, ?_⟩
    intro w' hSw
    obtain ⟨⟨aa0, aa1, aa2, aa3⟩, aaz⟩ := (NS.call HA4.out hSw).facts
    clear hSw
    go_simp
    try with_reducible rfl
  simp only [Act.put, List.setIfInBounds_toArray, List.set_cons_zero, List.set_cons_succ]
  refine wpAnyH_take (i := 3) (oi := ?o3_4) (v := ?v3_4) ?hi3_4 (by kernel_rfl) (by kernel_rfl) (by kernel_rfl) ?hQ3_4 ?hy3_4 (Below.drew (Below.refl _ _)) ?more3_4
  case hi3_4 => rw [List.getElem?_toArray]; exact rfl
  case hQ3_4 => exact fun _ _ _ h => h
  case hy3_4 =>
    refine Or.inl ⟨by rfl, ?_⟩
    intro w' hSw
    obtain ⟨⟨bb0, bb1, bb2, bb3⟩, bbz⟩ := (NS.call HB4.out hSw).facts
    clear hSw
    go_simp
    try with_reducible rfl
  simp only [Act.put, List.setIfInBounds_toArray, List.set_cons_zero, List.set_cons_succ]
  refine wpAnyH_one (i := 4) (o := ?o4_4) (by kernel_rfl) ?hi4_4 ?hw4_4 ?st4_4
  case hi4_4 => rw [List.getElem?_toArray]; exact rfl
  case hw4_4 => exact rfl
  intro K hK
  have HK4 : Hid _ := hK
  clear hK
  go_simp
  refine (K4.out _).mono ?_
  rintro e wr4_1 ⟨rfl, hq⟩
  have HB4_1 : Hid (Below w4.heap.size w4 wr4_1) := below_call0 (Below.drew (Below.refl _ _)) hq
  clear hq
  go_wp2_with fail
  refine HK4.out _ _ ⟨HB4_1.out, ?_⟩
  clear HK4 K
  try simp only [Act.put, List.setIfInBounds_toArray, List.set_cons_zero, List.set_cons_succ]
  refine wpAnyH_take (i := 5) (oi := ?o5_4) (v := ?v5_4) ?hi5_4 (by kernel_rfl) (by kernel_rfl) (by kernel_rfl) ?hQ5_4 ?hy5_4 HB4_1.out ?more5_4
  case hi5_4 => rw [List.getElem?_toArray]; exact rfl
  case hQ5_4 => exact fun _ _ _ h => h
  case hy5_4 =>
    refine Or.inl ⟨by rfl, ?_⟩
    intro w' hSw
    clear hSw
    go_simp
    try with_reducible rfl
  simp only [Act.put, List.setIfInBounds_toArray, List.set_cons_zero, List.set_cons_succ]
  refine wpAnyH_take (i := 6) (oi := ?o6_4) (v := ?v6_4) ?hi6_4 (by kernel_rfl) (by kernel_rfl) (by kernel_rfl) ?hQ6_4 ?hy6_4 HB4_1.out ?more6_4
  case hi6_4 => rw [List.getElem?_toArray]; exact rfl
  case hQ6_4 => exact fun _ _ _ h => h
  case hy6_4 =>
    refine Or.inl ⟨by rfl, ?_⟩
    intro w' hSw
    clear hSw
    go_simp
    try with_reducible rfl
  simp only [Act.put, List.setIfInBounds_toArray, List.set_cons_zero, List.set_cons_succ]
  refine wpAnyH_take (i := 7) (oi := ?o7_4) (v := ?v7_4) ?hi7_4 (by kernel_rfl) (by kernel_rfl) (by kernel_rfl) ?hQ7_4 ?hy7_4 HB4_1.out ?more7_4
  case hi7_4 => rw [List.getElem?_toArray]; exact rfl
  case hQ7_4 => exact fun _ _ _ h => h
  case hy7_4 =>
    refine Or.inl ⟨by rfl, ?_⟩
    intro w' hSw
    clear hSw
    go_simp
    try with_reducible rfl
  simp only [Act.put, List.setIfInBounds_toArray, List.set_cons_zero, List.set_cons_succ]
  refine wpAnyH_take (i := 8) (oi := ?o8_4) (v := ?v8_4) ?hi8_4 (by kernel_rfl) (by kernel_rfl) (by kernel_rfl) ?hQ8_4 ?hy8_4 HB4_1.out ?more8_4
  case hi8_4 => rw [List.getElem?_toArray]; exact rfl
  case hQ8_4 => exact fun _ _ _ h => h
  case hy8_4 =>
    refine Or.inl ⟨by rfl, ?_⟩
    intro w' hSw
    clear hSw
    go_simp
    try with_reducible rfl
  simp only [Act.put, List.setIfInBounds_toArray, List.set_cons_zero, List.set_cons_succ]
  refine wpAnyH_take (i := 9) (oi := ?o9_4) (v := ?v9_4) ?hi9_4 (by kernel_rfl) (by kernel_rfl) (by kernel_rfl) ?hQ9_4 ?hy9_4 HB4_1.out ?more9_4
  case hi9_4 => rw [List.getElem?_toArray]; exact rfl
  case hQ9_4 => exact fun _ _ _ h => h
  case hy9_4 =>
    refine Or.inl ⟨by rfl, ?_⟩
    intro w' hSw
    clear hSw
    go_simp
    try with_reducible rfl
  simp only [Act.put, List.setIfInBounds_toArray, List.set_cons_zero, List.set_cons_succ]
  refine wpAnyH_take (i := 10) (oi := ?o10_4) (v := undef) ?hi10_4 (by kernel_rfl) (by kernel_rfl) (by kernel_rfl) ?hQ10_4 ?hy10_4 HB4_1.out ?more10_4
  case hi10_4 => rw [List.getElem?_toArray]; exact rfl
  case hQ10_4 => exact fun _ _ _ h => h
  case hy10_4 =>
    exact Or.inr ⟨by rfl, rfl⟩
  simp only [Act.put, List.setIfInBounds_toArray, List.set_cons_zero, List.set_cons_succ]
  refine wpAnyH_take (i := 11) (oi := ?o11_4) (v := undef) ?hi11_4 (by kernel_rfl) (by kernel_rfl) (by kernel_rfl) ?hQ11_4 ?hy11_4 HB4_1.out ?more11_4
  case hi11_4 => rw [List.getElem?_toArray]; exact rfl
  case hQ11_4 => exact fun _ _ _ h => h
  case hy11_4 =>
    exact Or.inr ⟨by rfl, rfl⟩
  simp only [Act.put, List.setIfInBounds_toArray, List.set_cons_zero, List.set_cons_succ]
  refine wpAnyH_take (i := 12) (oi := ?o12_4) (v := undef) ?hi12_4 (by kernel_rfl) (by kernel_rfl) (by kernel_rfl) ?hQ12_4 ?hy12_4 HB4_1.out ?more12_4
  case hi12_4 => rw [List.getElem?_toArray]; exact rfl
  case hQ12_4 => exact fun _ _ _ h => h
  case hy12_4 =>
    exact Or.inr ⟨by rfl, rfl⟩
  simp only [Act.put, List.setIfInBounds_toArray, List.set_cons_zero, List.set_cons_succ]
  refine wpAnyH_take (i := 13) (oi := ?o13_4) (v := ?v13_4) ?hi13_4 (by kernel_rfl) (by kernel_rfl) (by kernel_rfl) ?hQ13_4 ?hy13_4 HB4_1.out ?more13_4
  case hi13_4 => rw [List.getElem?_toArray]; exact rfl
  case hQ13_4 => exact fun _ _ _ h => h
  case hy13_4 =>
    refine Or.inl ⟨by rfl, ?_⟩
    intro w' hSw
    clear hSw
    go_simp
    try with_reducible rfl
  simp only [Act.put, List.setIfInBounds_toArray, List.set_cons_zero, List.set_cons_succ]
  refine wpAnyH_take (i := 14) (oi := ?o14_4) (v := ?v14_4) ?hi14_4 (by kernel_rfl) (by kernel_rfl) (by kernel_rfl) ?hQ14_4 ?hy14_4 HB4_1.out ?more14_4
  case hi14_4 => rw [List.getElem?_toArray]; exact rfl
  case hQ14_4 => exact fun _ _ _ h => h
  case hy14_4 =>
    refine Or.inl ⟨by rfl, ?_⟩
    intro w' hSw
    clear hSw
    go_simp
    try with_reducible rfl
  simp only [Act.put, List.setIfInBounds_toArray, List.set_cons_zero, List.set_cons_succ]
  refine wpAnyH_take (i := 15) (oi := ?o15_4) (v := ?v15_4) ?hi15_4 (by kernel_rfl) (by kernel_rfl) (by kernel_rfl) ?hQ15_4 ?hy15_4 HB4_1.out ?more15_4
  case hi15_4 => rw [List.getElem?_toArray]; exact rfl
  case hQ15_4 => exact fun _ _ _ h => h
  case hy15_4 =>
    refine Or.inl ⟨by rfl, ?_⟩
    intro w' hSw
    clear hSw
    go_simp
    try with_reducible rfl
  simp only [Act.put, List.setIfInBounds_toArray, List.set_cons_zero, List.set_cons_succ]
  refine wpAnyH_take (i := 16) (oi := ?o16_4) (v := ?v16_4) ?hi16_4 (by kernel_rfl) (by kernel_rfl) (by kernel_rfl) ?hQ16_4 ?hy16_4 HB4_1.out ?more16_4
  case hi16_4 => rw [List.getElem?_toArray]; exact rfl
  case hQ16_4 => exact fun _ _ _ h => h
  case hy16_4 =>
    refine Or.inl ⟨by rfl, ?_⟩
    intro w' hSw
    clear hSw
    go_simp
    try with_reducible rfl
  simp only [Act.put, List.setIfInBounds_toArray, List.set_cons_zero, List.set_cons_succ]
  refine wpAnyH_take (i := 17) (oi := ?o17_4) (v := ?v17_4) ?hi17_4 (by kernel_rfl) (by kernel_rfl) (by kernel_rfl) ?hQ17_4 ?hy17_4 HB4_1.out ?more17_4
  case hi17_4 => rw [List.getElem?_toArray]; exact rfl
  case hQ17_4 => exact fun _ _ _ h => h
  case hy17_4 =>
    refine Or.inl ⟨by rfl, ?_⟩
    intro w' hSw
    clear hSw
    go_simp
    try with_reducible rfl
  simp only [Act.put, List.setIfInBounds_toArray, List.set_cons_zero, List.set_cons_succ]
  refine wpAnyH_take (i := 18) (oi := ?o18_4) (v := ?v18_4) ?hi18_4 (by kernel_rfl) (by kernel_rfl) (by kernel_rfl) ?hQ18_4 ?hy18_4 HB4_1.out ?more18_4
  case hi18_4 => rw [List.getElem?_toArray]; exact rfl
  case hQ18_4 => exact fun _ _ _ h => h
  case hy18_4 =>
    refine Or.inl ⟨by rfl, ?_⟩
    intro w' hSw
    clear hSw
    go_simp
    try with_reducible rfl
  simp only [Act.put, List.setIfInBounds_toArray, List.set_cons_zero, List.set_cons_succ]
  refine wpAnyH_take (i := 19) (oi := ?o19_4) (v := ?v19_4) ?hi19_4 (by kernel_rfl) (by kernel_rfl) (by kernel_rfl) ?hQ19_4 ?hy19_4 HB4_1.out ?more19_4
  case hi19_4 => rw [List.getElem?_toArray]; exact rfl
  case hQ19_4 => exact fun _ _ _ h => h
  case hy19_4 =>
    refine Or.inl ⟨by rfl, ?_⟩
    intro w' hSw
    obtain ⟨⟨pp0, pp1, pp2, pp3⟩, ppz⟩ := (NS.call HP4.out hSw).facts
    clear hSw
    go_simp
    try with_reducible rfl
  simp only [Act.put, List.setIfInBounds_toArray, List.set_cons_zero, List.set_cons_succ]
  refine wpAnyH_take (i := 20) (oi := ?o20_4) (v := ?v20_4) ?hi20_4 (by kernel_rfl) (by kernel_rfl) (by kernel_rfl) ?hQ20_4 ?hy20_4 HB4_1.out ?more20_4
  case hi20_4 => rw [List.getElem?_toArray]; exact rfl
  case hQ20_4 => exact fun _ _ _ h => h
  case hy20_4 =>
    refine Or.inl ⟨by rfl, ?_⟩
    intro w' hSw
    obtain ⟨sm0, sm1, sm2, sm3⟩ := (FieldB.call HS4.out hSw).1.facts
    obtain ⟨sg0, sg1, sg2, sg3⟩ := (FieldB.call HS4.out hSw).gap
    clear hSw
    go_simp
    try with_reducible rfl
  simp only [Act.put, List.setIfInBounds_toArray, List.set_cons_zero, List.set_cons_succ]
  refine wpAnyH_take (i := 21) (oi := ?o21_4) (v := ?v21_4) ?hi21_4 (by kernel_rfl) (by kernel_rfl) (by kernel_rfl) ?hQ21_4 ?hy21_4 HB4_1.out ?more21_4
  case hi21_4 => rw [List.getElem?_toArray]; exact rfl
  case hQ21_4 => exact fun _ _ _ h => h
  case hy21_4 =>
    refine Or.inl ⟨by rfl, ?_⟩
    intro w' hSw
    obtain ⟨⟨aa0, aa1, aa2, aa3⟩, aaz⟩ := (NS.call HA4.out hSw).facts
    clear hSw
    go_simp
    try with_reducible rfl
  simp only [Act.put, List.setIfInBounds_toArray, List.set_cons_zero, List.set_cons_succ]
  refine wpAnyH_take (i := 22) (oi := ?o22_4) (v := ?v22_4) ?hi22_4 (by kernel_rfl) (by kernel_rfl) (by kernel_rfl) ?hQ22_4 ?hy22_4 HB4_1.out ?more22_4
  case hi22_4 => rw [List.getElem?_toArray]; exact rfl
  case hQ22_4 => exact fun _ _ _ h => h
  case hy22_4 =>
    refine Or.inl ⟨by rfl, ?_⟩
    intro w' hSw
    obtain ⟨⟨bb0, bb1, bb2, bb3⟩, bbz⟩ := (NS.call HB4.out hSw).facts
    clear hSw
    go_simp
    try with_reducible rfl
  simp only [Act.put, List.setIfInBounds_toArray, List.set_cons_zero, List.set_cons_succ]
  refine wpAnyH_one (i := 23) (o := ?o23_4) (by kernel_rfl) ?hi23_4 ?hw23_4 ?st23_4
  case hi23_4 => rw [List.getElem?_toArray]; exact rfl
  case hw23_4 => exact rfl
  intro K hK
  have HK23 : Hid _ := hK
  clear hK
  go_simp
  refine (K5.out _).mono ?_
  rintro e w5 ⟨rfl, hq⟩
  have HB4_2 : Hid (Below w4.heap.size w4 w5) := below_call0 HB4_1.out hq
  clear hq
  go_wp2_with fail
  refine HK23.out _ _ ⟨HB4_2.out, ?_⟩
  clear HK23 K
  try simp only [Act.put, List.setIfInBounds_toArray, List.set_cons_zero, List.set_cons_succ]
  refine wpAnyH_take (i := 24) (oi := ?o24_4) (v := ?v24_4) ?hi24_4 (by kernel_rfl) (by kernel_rfl) (by kernel_rfl) ?hQ24_4 ?hy24_4 HB4_2.out ?more24_4
  case hi24_4 => rw [List.getElem?_toArray]; exact rfl
  case hQ24_4 => exact fun _ _ _ h => h
  case hy24_4 =>
    refine Or.inl ⟨by rfl, ?_⟩
    intro w' hSw
    clear hSw
    go_simp
    try with_reducible rfl
  simp only [Act.put, List.setIfInBounds_toArray, List.set_cons_zero, List.set_cons_succ]
  refine wpAnyH_take (i := 25) (oi := ?o25_4) (v := ?v25_4) ?hi25_4 (by kernel_rfl) (by kernel_rfl) (by kernel_rfl) ?hQ25_4 ?hy25_4 HB4_2.out ?more25_4
  case hi25_4 => rw [List.getElem?_toArray]; exact rfl
  case hQ25_4 => exact fun _ _ _ h => h
  case hy25_4 =>
    refine Or.inl ⟨by rfl, ?_⟩
    intro w' hSw
    clear hSw
    go_simp
    try with_reducible rfl
  simp only [Act.put, List.setIfInBounds_toArray, List.set_cons_zero, List.set_cons_succ]
  refine wpAnyH_take (i := 26) (oi := ?o26_4) (v := ?v26_4) ?hi26_4 (by kernel_rfl) (by kernel_rfl) (by kernel_rfl) ?hQ26_4 ?hy26_4 HB4_2.out ?more26_4
  case hi26_4 => rw [List.getElem?_toArray]; exact rfl
  case hQ26_4 => exact fun _ _ _ h => h
  case hy26_4 =>
    refine Or.inl ⟨by rfl, ?_⟩
    intro w' hSw
    clear hSw
    go_simp
    try with_reducible rfl
  simp only [Act.put, List.setIfInBounds_toArray, List.set_cons_zero, List.set_cons_succ]
  refine wpAnyH_done (by kernel_rfl) ?_ _
  have HA5 : Hid (NS w5 (w.heap.size) a) := NS.call HA4.out HB4_2.out
  have HB5 : Hid (NS w5 (w.heap.size + 1) b) := NS.call HB4.out HB4_2.out
  have HP5 : Hid (NS w5 (w2.heap.size) p) := NS.call HP4.out HB4_2.out
  have HG5 : Hid (Glob w5) := Glob.call HG4.out HB4_2.out
  have HF5 : Hid (FieldB w5 g m) := FieldB.call HF4.out HB4_2.out
  have HS5 : Hid (FieldB w5 w1.heap.size m) := FieldB.call HS4.out HB4_2.out
  have HV5 : Hid (WS w5 w3.heap.size V) := WS.call HV4.out HB4_2.out
  have HW5 : Hid (Below w.heap.size w w5) := below_call0 HW4.out HB4_2.out
  clear HA4 HB4 HP4 HW4 HG4 HF4 HS4 HV4 HB4_1 HB4_2
  go_wp2_with fail
  refine wp_region_H (fun w' => Below w5.heap.size w5 w') 11 rfl (by kernel_rfl) ?_
  refine wpAnyH_take (i := 0) (oi := ?o0_5) (v := ?v0_5) ?hi0_5 (by kernel_rfl) (by kernel_rfl) (by kernel_rfl) ?hQ0_5 ?hy0_5 (Below.drew (Below.refl _ _)) ?more0_5
  case hi0_5 => rw [List.getElem?_toArray]; exact rfl
  case hQ0_5 => exact fun _ _ _ h => h
  case hy0_5 =>
    refine Or.inl ⟨by rfl, ?_⟩
    intro w' hSw
    clear hSw
    go_simp
    try with_reducible rfl
  simp only [Act.put, List.setIfInBounds_toArray, List.set_cons_zero, List.set_cons_succ]
  refine wpAnyH_take (i := 1) (oi := ?o1_5) (v := ?v1_5) ?hi1_5 (by kernel_rfl) (by kernel_rfl) (by kernel_rfl) ?hQ1_5 ?hy1_5 (Below.drew (Below.refl _ _)) ?more1_5
  case hi1_5 => rw [List.getElem?_toArray]; exact rfl
  case hQ1_5 => exact fun _ _ _ h => h
  case hy1_5 =>
    refine Or.inl ⟨by rfl, ?_⟩
    intro w' hSw
    obtain ⟨⟨v0, v1, v2, v3, v4, v5, v6, v7⟩, vz⟩ := ((WS.call HV5.out hSw)).facts
    clear hSw
    go_simp
    try with_reducible rfl
  simp only [Act.put, List.setIfInBounds_toArray, List.set_cons_zero, List.set_cons_succ]
  refine wpAnyH_take (i := 3) (oi := ?o3_5) (v := ?v3_5) ?hi3_5 (by kernel_rfl) (by kernel_rfl) (by kernel_rfl) ?hQ3_5 ?hy3_5 (Below.drew (Below.refl _ _)) ?more3_5
  case hi3_5 => rw [List.getElem?_toArray]; exact rfl
  case hQ3_5 => exact fun _ _ _ h => h
  case hy3_5 =>
    refine Or.inl ⟨by rfl, ?_⟩
    intro w' hSw
    obtain ⟨sm0, sm1, sm2, sm3⟩ := (FieldB.call HS5.out hSw).1.facts
    obtain ⟨sg0, sg1, sg2, sg3⟩ := (FieldB.call HS5.out hSw).gap
    clear hSw
    go_simp
    try with_reducible rfl
  simp only [Act.put, List.setIfInBounds_toArray, List.set_cons_zero, List.set_cons_succ]
  refine wpAnyH_take (i := 4) (oi := ?o4_5) (v := ?v4_5) ?hi4_5 (by kernel_rfl) (by kernel_rfl) (by kernel_rfl) ?hQ4_5 ?hy4_5 (Below.drew (Below.refl _ _)) ?more4_5
  case hi4_5 => rw [List.getElem?_toArray]; exact rfl
  case hQ4_5 => exact fun _ _ _ h => h
  case hy4_5 =>
    refine Or.inl ⟨by rfl, ?_⟩
    intro w' hSw
    obtain ⟨⟨v0, v1, v2, v3, v4, v5, v6, v7⟩, vz⟩ := ((WS.call HV5.out hSw)).facts
    clear hSw
    go_simp
    try with_reducible rfl
  simp only [Act.put, List.setIfInBounds_toArray, List.set_cons_zero, List.set_cons_succ]
  refine wpAnyH_one (i := 2) (o := ?o2_5) (by kernel_rfl) ?hi2_5 ?hw2_5 ?st2_5
  case hi2_5 => rw [List.getElem?_toArray]; exact rfl
  case hw2_5 => exact rfl
  intro K hK
  have HK2 : Hid _ := hK
  clear hK
  go_simp
  refine (K6.out g _ (FieldB.call HF5.out (Below.drew (Below.refl _ _)))).mono ?_
  rintro e wr5_1 ⟨rfl, hq⟩
  have HB5_1 : Hid (Below w5.heap.size w5 wr5_1) := below_call0 (Below.drew (Below.refl _ _)) hq
  clear hq
  go_wp2_with fail
  refine HK2.out _ _ ⟨HB5_1.out, ?_⟩
  clear HK2 K
  try simp only [Act.put, List.setIfInBounds_toArray, List.set_cons_zero, List.set_cons_succ]
  refine wpAnyH_one (i := 5) (o := ?o5_5) (by kernel_rfl) ?hi5_5 ?hw5_5 ?st5_5
  case hi5_5 => rw [List.getElem?_toArray]; exact rfl
  case hw5_5 => exact rfl
  intro K hK
  have HK5 : Hid _ := hK
  clear hK
  go_simp
  refine (K7.out _).mono ?_
  rintro e wr5_2 ⟨rfl, hq⟩
  have HB5_2 : Hid (Below w5.heap.size w5 wr5_2) := below_call0 HB5_1.out hq
  clear hq
  go_wp2_with fail
  refine HK5.out _ _ ⟨HB5_2.out, ?_⟩
  clear HK5 K
  try simp only [Act.put, List.setIfInBounds_toArray, List.set_cons_zero, List.set_cons_succ]
  refine wpAnyH_take (i := 6) (oi := ?o6_5) (v := ?v6_5) ?hi6_5 (by kernel_rfl) (by kernel_rfl) (by kernel_rfl) ?hQ6_5 ?hy6_5 HB5_2.out ?more6_5
  case hi6_5 => rw [List.getElem?_toArray]; exact rfl
  case hQ6_5 => exact fun _ _ _ h => h
  case hy6_5 =>
    refine Or.inl ⟨by rfl, ?_⟩
    intro w' hSw
    clear hSw
    go_simp
    try with_reducible rfl
  simp only [Act.put, List.setIfInBounds_toArray, List.set_cons_zero, List.set_cons_succ]
  refine wpAnyH_take (i := 7) (oi := ?o7_5) (v := ?v7_5) ?hi7_5 (by kernel_rfl) (by kernel_rfl) (by kernel_rfl) ?hQ7_5 ?hy7_5 HB5_2.out ?more7_5
  case hi7_5 => rw [List.getElem?_toArray]; exact rfl
  case hQ7_5 => exact fun _ _ _ h => h
  case hy7_5 =>
    refine Or.inl ⟨by rfl, ?_⟩
    intro w' hSw
    clear hSw
    go_simp
    try with_reducible rfl
  simp only [Act.put, List.setIfInBounds_toArray, List.set_cons_zero, List.set_cons_succ]
  refine wpAnyH_one (i := 8) (o := ?o8_5) (by kernel_rfl) ?hi8_5 ?hw8_5 ?st8_5
  case hi8_5 => rw [List.getElem?_toArray]; exact rfl
  case hw8_5 => exact rfl
  intro K hK
  have HK8 : Hid _ := hK
  clear hK
  go_simp
  refine (half_any _ (Glob.call HG5.out HB5_2.out)).mono ?_
  rintro e w6 ⟨rfl, hq⟩
  have HB5_3 : Hid (Below w5.heap.size w5 w6) := below_call0 HB5_2.out hq
  clear hq
  go_wp2_with fail
  refine HK8.out _ _ ⟨HB5_3.out, ?_⟩
  clear HK8 K
  try simp only [Act.put, List.setIfInBounds_toArray, List.set_cons_zero, List.set_cons_succ]
  refine wpAnyH_take (i := 9) (oi := ?o9_5) (v := ?v9_5) ?hi9_5 (by kernel_rfl) (by kernel_rfl) (by kernel_rfl) ?hQ9_5 ?hy9_5 HB5_3.out ?more9_5
  case hi9_5 => rw [List.getElem?_toArray]; exact rfl
  case hQ9_5 => exact fun _ _ _ h => h
  case hy9_5 =>
    refine Or.inl ⟨by rfl, ?_⟩
    intro w' hSw
    clear hSw
    go_simp
    try with_reducible rfl
  simp only [Act.put, List.setIfInBounds_toArray, List.set_cons_zero, List.set_cons_succ]
  refine wpAnyH_take (i := 10) (oi := ?o10_5) (v := ?v10_5) ?hi10_5 (by kernel_rfl) (by kernel_rfl) (by kernel_rfl) ?hQ10_5 ?hy10_5 HB5_3.out ?more10_5
  case hi10_5 => rw [List.getElem?_toArray]; exact rfl
  case hQ10_5 => exact fun _ _ _ h => h
  case hy10_5 =>
    refine Or.inl ⟨by rfl, ?_⟩
    intro w' hSw
    clear hSw
    go_simp
    try with_reducible rfl
  simp only [Act.put, List.setIfInBounds_toArray, List.set_cons_zero, List.set_cons_succ]
  refine wpAnyH_done (by kernel_rfl) ?_ _
  have HA6 : Hid (NS w6 (w.heap.size) a) := NS.call HA5.out HB5_3.out
  have HB6 : Hid (NS w6 (w.heap.size + 1) b) := NS.call HB5.out HB5_3.out
  have HP6 : Hid (NS w6 (w2.heap.size) p) := NS.call HP5.out HB5_3.out
  have HG6 : Hid (Glob w6) := Glob.call HG5.out HB5_3.out
  have HF6 : Hid (FieldB w6 g m) := FieldB.call HF5.out HB5_3.out
  have HS6 : Hid (FieldB w6 w1.heap.size m) := FieldB.call HS5.out HB5_3.out
  have HV6 : Hid (WS w6 w3.heap.size V) := WS.call HV5.out HB5_3.out
  have HW6 : Hid (Below w.heap.size w w6) := below_call0 HW5.out HB5_3.out
  clear HA5 HB5 HP5 HW5 HG5 HF5 HS5 HV5 HB5_1 HB5_2 HB5_3
  go_wp2_with fail
  go_ret
  exact ⟨rfl, HW6.out⟩

set_option maxRecDepth 100000 in
set_option maxHeartbeats 8000000 in
theorem prods_no (base : Bool) (m a b V p r : Nat)
    (k1 : ∀ w, Glob w → GlobQ w → Calls Tryd.prog 9 #[.bool base] w fun e w' => ∃ g, e = .returned (.tuple #[.pointer (some ⟨g, 0, none⟩), .agg #[.int .u64 (limb m 0 : Nat), .int .u64 (limb m 1 : Nat), .int .u64 (limb m 2 : Nat), .int .u64 (limb m 3 : Nat), .int .u64 (limb (R256 - m) 0 : Nat), .int .u64 (limb (R256 - m) 1 : Nat), .int .u64 (limb (R256 - m) 2 : Nat), .int .u64 (limb (R256 - m) 3 : Nat)]]) ∧ FieldB w' g m ∧ Below w.heap.size w w')
    (k2 : ∀ (g : Nat) (w : World), FieldB w g m → Calls Tryd.prog 20 #[.pointer (some ⟨g, 0, none⟩), .agg #[.int .u64 (limb (a) 0 : Nat), .int .u64 (limb (a) 1 : Nat), .int .u64 (limb (a) 2 : Nat), .int .u64 (limb (a) 3 : Nat)], .agg #[.int .u64 (limb (b) 0 : Nat), .int .u64 (limb (b) 1 : Nat), .int .u64 (limb (b) 2 : Nat), .int .u64 (limb (b) 3 : Nat)]] w fun e w' => e = .returned (.tuple #[.agg #[.int .u64 (limb (p) 0 : Nat), .int .u64 (limb (p) 1 : Nat), .int .u64 (limb (p) 2 : Nat), .int .u64 (limb (p) 3 : Nat)], .int .i64 20]) ∧ Below w.heap.size w w')
    (k3 : ∀ w, Calls Tryd.prog 21 #[.agg #[.int .u64 (limb (a) 0 : Nat), .int .u64 (limb (a) 1 : Nat), .int .u64 (limb (a) 2 : Nat), .int .u64 (limb (a) 3 : Nat)], .agg #[.int .u64 (limb (b) 0 : Nat), .int .u64 (limb (b) 1 : Nat), .int .u64 (limb (b) 2 : Nat), .int .u64 (limb (b) 3 : Nat)]] w fun e w' => e = .returned (.agg #[.int .u64 (limb (V) 0 : Nat), .int .u64 (limb (V) 1 : Nat), .int .u64 (limb (V) 2 : Nat), .int .u64 (limb (V) 3 : Nat), .int .u64 (limb (V) 4 : Nat), .int .u64 (limb (V) 5 : Nat), .int .u64 (limb (V) 6 : Nat), .int .u64 (limb (V) 7 : Nat)]) ∧ Below w.heap.size w w')
    (k4 : ∀ w, Calls Tryd.prog 13 #[.agg #[.int .u64 (limb m 0 : Nat), .int .u64 (limb m 1 : Nat), .int .u64 (limb m 2 : Nat), .int .u64 (limb m 3 : Nat), .int .u64 (limb (R256 - m) 0 : Nat), .int .u64 (limb (R256 - m) 1 : Nat), .int .u64 (limb (R256 - m) 2 : Nat), .int .u64 (limb (R256 - m) 3 : Nat)], .agg #[.int .u64 (limb (a) 0 : Nat), .int .u64 (limb (a) 1 : Nat), .int .u64 (limb (a) 2 : Nat), .int .u64 (limb (a) 3 : Nat)], .agg #[.int .u64 (limb (b) 0 : Nat), .int .u64 (limb (b) 1 : Nat), .int .u64 (limb (b) 2 : Nat), .int .u64 (limb (b) 3 : Nat)]] w fun e w' => e = .returned (.int .i64 20) ∧ Below w.heap.size w w')
    (k5 : eq4 (limb p 0 : Nat) (limb p 1 : Nat) (limb p 2 : Nat) (limb p 3 : Nat) 0 0 0 0 = true)
    (k6 : ∀ (g : Nat) (w : World), FieldB w g m → Calls Tryd.prog 23 #[.pointer (some ⟨g, 0, none⟩), .agg #[.int .u64 (limb (V) 0 : Nat), .int .u64 (limb (V) 1 : Nat), .int .u64 (limb (V) 2 : Nat), .int .u64 (limb (V) 3 : Nat), .int .u64 (limb (V) 4 : Nat), .int .u64 (limb (V) 5 : Nat), .int .u64 (limb (V) 6 : Nat), .int .u64 (limb (V) 7 : Nat)]] w fun e w' => e = .returned (.agg #[.int .u64 (limb (r) 0 : Nat), .int .u64 (limb (r) 1 : Nat), .int .u64 (limb (r) 2 : Nat), .int .u64 (limb (r) 3 : Nat)]) ∧ Below w.heap.size w w')
    (k7 : ∀ w, Calls Tryd.prog 24 #[.agg #[.int .u64 (limb m 0 : Nat), .int .u64 (limb m 1 : Nat), .int .u64 (limb m 2 : Nat), .int .u64 (limb m 3 : Nat), .int .u64 (limb (R256 - m) 0 : Nat), .int .u64 (limb (R256 - m) 1 : Nat), .int .u64 (limb (R256 - m) 2 : Nat), .int .u64 (limb (R256 - m) 3 : Nat)], .agg #[.int .u64 (limb (V) 0 : Nat), .int .u64 (limb (V) 1 : Nat), .int .u64 (limb (V) 2 : Nat), .int .u64 (limb (V) 3 : Nat), .int .u64 (limb (V) 4 : Nat), .int .u64 (limb (V) 5 : Nat), .int .u64 (limb (V) 6 : Nat), .int .u64 (limb (V) 7 : Nat)]] w fun e w' => e = .returned (.agg #[.int .u64 (limb (r) 0 : Nat), .int .u64 (limb (r) 1 : Nat), .int .u64 (limb (r) 2 : Nat), .int .u64 (limb (r) 3 : Nat)]) ∧ Below w.heap.size w w')
    (w : World) (hG : Glob w) (hQ : GlobQ w) : Calls Tryd.prog 4 #[.bool base, .agg #[.int .u64 (limb (a) 0 : Nat), .int .u64 (limb (a) 1 : Nat), .int .u64 (limb (a) 2 : Nat), .int .u64 (limb (a) 3 : Nat)], .agg #[.int .u64 (limb (b) 0 : Nat), .int .u64 (limb (b) 1 : Nat), .int .u64 (limb (b) 2 : Nat), .int .u64 (limb (b) 3 : Nat)]] w fun e w' => e = .returned (.bool true) ∧ Below w.heap.size w w' := by
  have HG : Hid (Glob w ∧ GlobQ w) := ⟨hG, hQ⟩
  have K1 : Hid _ := k1
  have K2 : Hid _ := k2
  have K3 : Hid _ := k3
  have K4 : Hid _ := k4
  have K6 : Hid _ := k6
  have K7 : Hid _ := k7
  have er : eq4 (limb r 0 : Nat) (limb r 1 : Nat) (limb r 2 : Nat) (limb r 3 : Nat) (limb r 0 : Nat) (limb r 1 : Nat) (limb r 2 : Nat) (limb r 3 : Nat) = true := by simp [eq4]
  have ep := k5
  clear hG hQ k1 k2 k3 k4 k5 k6 k7
  go_enter Tryd.func4, Tryd.ntmps4
  go_wp2_with fail
  refine (K1.out _ (Glob.alloc (Glob.alloc HG.out.1)) (GlobQ.alloc (GlobQ.alloc HG.out.2))).mono ?_
  rintro e w1 ⟨g, rfl, hF1, hb1⟩
  have HA1 : Hid (NS w1 (w.heap.size) a) := by
    have t := NS.call (W := _) (NS.alloc (NS.new _ _ _)) hb1
    try simp only [World.size_alloc] at t
    exact t
  have HB1 : Hid (NS w1 (w.heap.size + 1) b) := by
    have t := NS.call (W := _) (NS.new _ _ _) hb1
    try simp only [World.size_alloc] at t
    exact t
  have HW1 : Hid (Below w.heap.size w w1) := below_call0 (below_alloc0 (below_alloc0 (Below.refl _ _) _) _) hb1
  have HG1 : Hid (Glob w1) := Glob.call (Glob.alloc (Glob.alloc HG.out.1)) hb1
  have HF1 : Hid (FieldB w1 g m) := hF1
  clear hb1
  clear hF1
  obtain ⟨⟨aa0, aa1, aa2, aa3⟩, aaz⟩ := HA1.out.facts
  obtain ⟨⟨bb0, bb1, bb2, bb3⟩, bbz⟩ := HB1.out.facts
  go_wp2_with fail
  refine (K2.out g _ (FieldB.alloc HF1.out)).mono ?_
  rintro e w2 ⟨rfl, hb2⟩
  have HA2 : Hid (NS w2 (w.heap.size) a) := NS.acall HA1.out hb2
  have HB2 : Hid (NS w2 (w.heap.size + 1) b) := NS.acall HB1.out hb2
  have HW2 : Hid (Below w.heap.size w w2) := below_acall HW1.out hb2
  have HG2 : Hid (Glob w2) := Glob.call (Glob.alloc HG1.out) hb2
  have HF2 : Hid (FieldB w2 g m) := FieldB.call (FieldB.alloc HF1.out) hb2
  have HS2 : Hid (FieldB w2 w1.heap.size m) := FieldB.call (FieldB.new w1 m _) hb2
  clear hb2
  clear HA1 HB1 HW1 HG1 HF1
  clear aa0 aa1 aa2 aa3 aaz bb0 bb1 bb2 bb3 bbz
  obtain ⟨⟨aa0, aa1, aa2, aa3⟩, aaz⟩ := HA2.out.facts
  obtain ⟨⟨bb0, bb1, bb2, bb3⟩, bbz⟩ := HB2.out.facts
  go_wp2_with fail
  refine (K3.out _).mono ?_
  rintro e w3 ⟨rfl, hb3⟩
  have HA3 : Hid (NS w3 (w.heap.size) a) := NS.acall HA2.out hb3
  have HB3 : Hid (NS w3 (w.heap.size + 1) b) := NS.acall HB2.out hb3
  have HP3 : Hid (NS w3 w2.heap.size p) := NS.ncall hb3
  have HW3 : Hid (Below w.heap.size w w3) := below_acall HW2.out hb3
  have HG3 : Hid (Glob w3) := Glob.call (Glob.alloc HG2.out) hb3
  have HF3 : Hid (FieldB w3 g m) := FieldB.call (FieldB.alloc HF2.out) hb3
  have HS3 : Hid (FieldB w3 w1.heap.size m) := FieldB.call (FieldB.alloc HS2.out) hb3
  clear hb3
  clear HA2 HB2 HW2 HG2 HF2 HS2
  clear aa0 aa1 aa2 aa3 aaz bb0 bb1 bb2 bb3 bbz
  go_wp2_with fail
  obtain ⟨w4, hX⟩ : ∃ x, x = (w3 : World).alloc (.cells #[.int .u64 (limb V 0 : Nat), .int .u64 (limb V 1 : Nat), .int .u64 (limb V 2 : Nat), .int .u64 (limb V 3 : Nat), .int .u64 (limb V 4 : Nat), .int .u64 (limb V 5 : Nat), .int .u64 (limb V 6 : Nat), .int .u64 (limb V 7 : Nat)] 42) := ⟨_, rfl⟩
  rw [← hX]
  have HA4 : Hid (NS w4 (w.heap.size) a) := by rw [hX]; exact NS.alloc HA3.out
  have HB4 : Hid (NS w4 (w.heap.size + 1) b) := by rw [hX]; exact NS.alloc HB3.out
  have HP4 : Hid (NS w4 (w2.heap.size) p) := by rw [hX]; exact NS.alloc HP3.out
  have HG4 : Hid (Glob w4) := by rw [hX]; exact Glob.alloc HG3.out
  have HF4 : Hid (FieldB w4 g m) := by rw [hX]; exact FieldB.alloc HF3.out
  have HS4 : Hid (FieldB w4 w1.heap.size m) := by rw [hX]; exact FieldB.alloc HS3.out
  have HV4 : Hid (WS w4 w3.heap.size V) := by rw [hX]; exact WS.new _ _ _
  have HW4 : Hid (Below w.heap.size w w4) := by rw [hX]; exact below_alloc0 HW3.out _
  clear hX HA3 HB3 HP3 HW3 HG3 HF3 HS3
  refine wp_region_H (fun w' => Below w4.heap.size w4 w') 27 rfl (by kernel_rfl) ?_
  refine wpAnyH_take (i := 0) (oi := ?o0_4) (v := ?v0_4) ?hi0_4 (by kernel_rfl) (by kernel_rfl) (by kernel_rfl) ?hQ0_4 ?hy0_4 (Below.drew (Below.refl _ _)) ?more0_4
  case hi0_4 => rw [List.getElem?_toArray]; exact rfl
  case hQ0_4 => exact fun _ _ _ h => h
  case hy0_4 =>
    refine Or.inl ⟨by rfl, ?_⟩
    intro w' hSw
    clear hSw
    go_simp
    try with_reducible rfl
  simp only [Act.put, List.setIfInBounds_toArray, List.set_cons_zero, List.set_cons_succ]
  refine wpAnyH_take (i := 1) (oi := ?o1_4) (v := ?v1_4) ?hi1_4 (by kernel_rfl) (by kernel_rfl) (by kernel_rfl) ?hQ1_4 ?hy1_4 (Below.drew (Below.refl _ _)) ?more1_4
  case hi1_4 => rw [List.getElem?_toArray]; exact rfl
  case hQ1_4 => exact fun _ _ _ h => h
  case hy1_4 =>
    refine Or.inl ⟨by rfl, ?_⟩
    intro w' hSw
    obtain ⟨sm0, sm1, sm2, sm3⟩ := (FieldB.call HS4.out hSw).1.facts
    obtain ⟨sg0, sg1, sg2, sg3⟩ := (FieldB.call HS4.out hSw).gap
    clear hSw
    go_simp
    try with_reducible rfl
  simp only [Act.put, List.setIfInBounds_toArray, List.set_cons_zero, List.set_cons_succ]
  refine wpAnyH_take (i := 2) (oi := ?o2_4) (v := ?v2_4) ?hi2_4 (by kernel_rfl) (by kernel_rfl) (by kernel_rfl) ?hQ2_4 ?hy2_4 (Below.drew (Below.refl _ _)) ?more2_4
  case hi2_4 => rw [List.getElem?_toArray]; exact rfl
  case hQ2_4 => exact fun _ _ _ h => h
  case hy2_4 =>
    refine Or.inl ⟨by rfl, ?_⟩
    intro w' hSw
    obtain ⟨⟨aa0, aa1, aa2, aa3⟩, aaz⟩ := (NS.call HA4.out hSw).facts
    clear hSw
    go_simp
    try with_reducible rfl
  simp only [Act.put, List.setIfInBounds_toArray, List.set_cons_zero, List.set_cons_succ]
  refine wpAnyH_take (i := 3) (oi := ?o3_4) (v := ?v3_4) ?hi3_4 (by kernel_rfl) (by kernel_rfl) (by kernel_rfl) ?hQ3_4 ?hy3_4 (Below.drew (Below.refl _ _)) ?more3_4
  case hi3_4 => rw [List.getElem?_toArray]; exact rfl
  case hQ3_4 => exact fun _ _ _ h => h
  case hy3_4 =>
    refine Or.inl ⟨by rfl, ?_⟩
    intro w' hSw
    obtain ⟨⟨bb0, bb1, bb2, bb3⟩, bbz⟩ := (NS.call HB4.out hSw).facts
    clear hSw
    go_simp
    try with_reducible rfl
  simp only [Act.put, List.setIfInBounds_toArray, List.set_cons_zero, List.set_cons_succ]
  refine wpAnyH_one (i := 4) (o := ?o4_4) (by kernel_rfl) ?hi4_4 ?hw4_4 ?st4_4
  case hi4_4 => rw [List.getElem?_toArray]; exact rfl
  case hw4_4 => exact rfl
  intro K hK
  have HK4 : Hid _ := hK
  clear hK
  go_simp
  refine (K4.out _).mono ?_
  rintro e w5 ⟨rfl, hq⟩
  have HB4_1 : Hid (Below w4.heap.size w4 w5) := below_call0 (Below.drew (Below.refl _ _)) hq
  clear hq
  go_wp2_with fail
  refine HK4.out _ _ ⟨HB4_1.out, ?_⟩
  clear HK4 K
  try simp only [Act.put, List.setIfInBounds_toArray, List.set_cons_zero, List.set_cons_succ]
  refine wpAnyH_take (i := 5) (oi := ?o5_4) (v := ?v5_4) ?hi5_4 (by kernel_rfl) (by kernel_rfl) (by kernel_rfl) ?hQ5_4 ?hy5_4 HB4_1.out ?more5_4
  case hi5_4 => rw [List.getElem?_toArray]; exact rfl
  case hQ5_4 => exact fun _ _ _ h => h
  case hy5_4 =>
    refine Or.inl ⟨by rfl, ?_⟩
    intro w' hSw
    clear hSw
    go_simp
    try with_reducible rfl
  simp only [Act.put, List.setIfInBounds_toArray, List.set_cons_zero, List.set_cons_succ]
  refine wpAnyH_take (i := 6) (oi := ?o6_4) (v := ?v6_4) ?hi6_4 (by kernel_rfl) (by kernel_rfl) (by kernel_rfl) ?hQ6_4 ?hy6_4 HB4_1.out ?more6_4
  case hi6_4 => rw [List.getElem?_toArray]; exact rfl
  case hQ6_4 => exact fun _ _ _ h => h
  case hy6_4 =>
    refine Or.inl ⟨by rfl, ?_⟩
    intro w' hSw
    clear hSw
    go_simp
    try with_reducible rfl
  simp only [Act.put, List.setIfInBounds_toArray, List.set_cons_zero, List.set_cons_succ]
  refine wpAnyH_take (i := 7) (oi := ?o7_4) (v := ?v7_4) ?hi7_4 (by kernel_rfl) (by kernel_rfl) (by kernel_rfl) ?hQ7_4 ?hy7_4 HB4_1.out ?more7_4
  case hi7_4 => rw [List.getElem?_toArray]; exact rfl
  case hQ7_4 => exact fun _ _ _ h => h
  case hy7_4 =>
    refine Or.inl ⟨by rfl, ?_⟩
    intro w' hSw
    clear hSw
    go_simp
    try with_reducible rfl
  simp only [Act.put, List.setIfInBounds_toArray, List.set_cons_zero, List.set_cons_succ]
  refine wpAnyH_take (i := 8) (oi := ?o8_4) (v := ?v8_4) ?hi8_4 (by kernel_rfl) (by kernel_rfl) (by kernel_rfl) ?hQ8_4 ?hy8_4 HB4_1.out ?more8_4
  case hi8_4 => rw [List.getElem?_toArray]; exact rfl
  case hQ8_4 => exact fun _ _ _ h => h
  case hy8_4 =>
    refine Or.inl ⟨by rfl, ?_⟩
    intro w' hSw
    clear hSw
    go_simp
    try with_reducible rfl
  simp only [Act.put, List.setIfInBounds_toArray, List.set_cons_zero, List.set_cons_succ]
  refine wpAnyH_take (i := 9) (oi := ?o9_4) (v := ?v9_4) ?hi9_4 (by kernel_rfl) (by kernel_rfl) (by kernel_rfl) ?hQ9_4 ?hy9_4 HB4_1.out ?more9_4
  case hi9_4 => rw [List.getElem?_toArray]; exact rfl
  case hQ9_4 => exact fun _ _ _ h => h
  case hy9_4 =>
    refine Or.inl ⟨by rfl, ?_⟩
    intro w' hSw
    clear hSw
    go_simp
    try with_reducible rfl
  simp only [Act.put, List.setIfInBounds_toArray, List.set_cons_zero, List.set_cons_succ]
  refine wpAnyH_take (i := 10) (oi := ?o10_4) (v := ?v10_4) ?hi10_4 (by kernel_rfl) (by kernel_rfl) (by kernel_rfl) ?hQ10_4 ?hy10_4 HB4_1.out ?more10_4
  case hi10_4 => rw [List.getElem?_toArray]; exact rfl
  case hQ10_4 => exact fun _ _ _ h => h
  case hy10_4 =>
    refine Or.inl ⟨by rfl, ?_⟩
    intro w' hSw
    obtain ⟨⟨pp0, pp1, pp2, pp3⟩, ppz⟩ := (NS.call HP4.out hSw).facts
    clear hSw
    go_simp
    try with_reducible rfl
  simp only [Act.put, List.setIfInBounds_toArray, List.set_cons_zero, List.set_cons_succ]
  refine wpAnyH_take (i := 11) (oi := ?o11_4) (v := ?v11_4) ?hi11_4 (by kernel_rfl) (by kernel_rfl) (by kernel_rfl) ?hQ11_4 ?hy11_4 HB4_1.out ?more11_4
  case hi11_4 => rw [List.getElem?_toArray]; exact rfl
  case hQ11_4 => exact fun _ _ _ h => h
  case hy11_4 =>
    refine Or.inl ⟨by rfl, ?_⟩
    intro w' hSw
    clear hSw
    go_simp
    try with_reducible rfl
  simp only [Act.put, List.setIfInBounds_toArray, List.set_cons_zero, List.set_cons_succ]
  refine wpAnyH_take (i := 12) (oi := ?o12_4) (v := ?v12_4) ?hi12_4 (by kernel_rfl) (by kernel_rfl) (by kernel_rfl) ?hQ12_4 ?hy12_4 HB4_1.out ?more12_4
  case hi12_4 => rw [List.getElem?_toArray]; exact rfl
  case hQ12_4 => exact fun _ _ _ h => h
  case hy12_4 =>
    refine Or.inl ⟨by rfl, ?_⟩
    intro w' hSw
    clear hSw
    go_simp
    try with_reducible rfl
  simp only [Act.put, List.setIfInBounds_toArray, List.set_cons_zero, List.set_cons_succ]
  refine wpAnyH_take (i := 13) (oi := ?o13_4) (v := ?v13_4) ?hi13_4 (by kernel_rfl) (by kernel_rfl) (by kernel_rfl) ?hQ13_4 ?hy13_4 HB4_1.out ?more13_4
  case hi13_4 => rw [List.getElem?_toArray]; exact rfl
  case hQ13_4 => exact fun _ _ _ h => h
  case hy13_4 =>
    refine Or.inl ⟨by rfl, ?_⟩
    intro w' hSw
    clear hSw
    go_simp
    try with_reducible rfl
  simp only [Act.put, List.setIfInBounds_toArray, List.set_cons_zero, List.set_cons_succ]
  refine wpAnyH_take (i := 14) (oi := ?o14_4) (v := ?v14_4) ?hi14_4 (by kernel_rfl) (by kernel_rfl) (by kernel_rfl) ?hQ14_4 ?hy14_4 HB4_1.out ?more14_4
  case hi14_4 => rw [List.getElem?_toArray]; exact rfl
  case hQ14_4 => exact fun _ _ _ h => h
  case hy14_4 =>
    refine Or.inl ⟨by rfl, ?_⟩
    intro w' hSw
    clear hSw
    go_simp
    try with_reducible rfl
  simp only [Act.put, List.setIfInBounds_toArray, List.set_cons_zero, List.set_cons_succ]
  refine wpAnyH_take (i := 15) (oi := ?o15_4) (v := ?v15_4) ?hi15_4 (by kernel_rfl) (by kernel_rfl) (by kernel_rfl) ?hQ15_4 ?hy15_4 HB4_1.out ?more15_4
  case hi15_4 => rw [List.getElem?_toArray]; exact rfl
  case hQ15_4 => exact fun _ _ _ h => h
  case hy15_4 =>
    refine Or.inl ⟨by rfl, ?_⟩
    intro w' hSw
    clear hSw
    go_simp
    try with_reducible rfl
  simp only [Act.put, List.setIfInBounds_toArray, List.set_cons_zero, List.set_cons_succ]
  refine wpAnyH_take (i := 16) (oi := ?o16_4) (v := ?v16_4) ?hi16_4 (by kernel_rfl) (by kernel_rfl) (by kernel_rfl) ?hQ16_4 ?hy16_4 HB4_1.out ?more16_4
  case hi16_4 => rw [List.getElem?_toArray]; exact rfl
  case hQ16_4 => exact fun _ _ _ h => h
  case hy16_4 =>
    refine Or.inl ⟨by rfl, ?_⟩
    intro w' hSw
    clear hSw
    go_simp
    try with_reducible rfl
  simp only [Act.put, List.setIfInBounds_toArray, List.set_cons_zero, List.set_cons_succ]
  refine wpAnyH_take (i := 17) (oi := ?o17_4) (v := ?v17_4) ?hi17_4 (by kernel_rfl) (by kernel_rfl) (by kernel_rfl) ?hQ17_4 ?hy17_4 HB4_1.out ?more17_4
  case hi17_4 => rw [List.getElem?_toArray]; exact rfl
  case hQ17_4 => exact fun _ _ _ h => h
  case hy17_4 =>
    refine Or.inl ⟨by rfl, ?_⟩
    intro w' hSw
    clear hSw
    go_simp
    try with_reducible rfl
  simp only [Act.put, List.setIfInBounds_toArray, List.set_cons_zero, List.set_cons_succ]
  refine wpAnyH_take (i := 18) (oi := ?o18_4) (v := ?v18_4) ?hi18_4 (by kernel_rfl) (by kernel_rfl) (by kernel_rfl) ?hQ18_4 ?hy18_4 HB4_1.out ?more18_4
  case hi18_4 => rw [List.getElem?_toArray]; exact rfl
  case hQ18_4 => exact fun _ _ _ h => h
  case hy18_4 =>
    refine Or.inl ⟨by rfl, ?_⟩
    intro w' hSw
    clear hSw
    go_simp
    try with_reducible rfl
  simp only [Act.put, List.setIfInBounds_toArray, List.set_cons_zero, List.set_cons_succ]
  refine wpAnyH_take (i := 19) (oi := ?o19_4) (v := undef) ?hi19_4 (by kernel_rfl) (by kernel_rfl) (by kernel_rfl) ?hQ19_4 ?hy19_4 HB4_1.out ?more19_4
  case hi19_4 => rw [List.getElem?_toArray]; exact rfl
  case hQ19_4 => exact fun _ _ _ h => h
  case hy19_4 =>
    exact Or.inr ⟨by rfl, rfl⟩
  simp only [Act.put, List.setIfInBounds_toArray, List.set_cons_zero, List.set_cons_succ]
  refine wpAnyH_take (i := 20) (oi := ?o20_4) (v := undef) ?hi20_4 (by kernel_rfl) (by kernel_rfl) (by kernel_rfl) ?hQ20_4 ?hy20_4 HB4_1.out ?more20_4
  case hi20_4 => rw [List.getElem?_toArray]; exact rfl
  case hQ20_4 => exact fun _ _ _ h => h
  case hy20_4 =>
    exact Or.inr ⟨by rfl, rfl⟩
  simp only [Act.put, List.setIfInBounds_toArray, List.set_cons_zero, List.set_cons_succ]
  refine wpAnyH_take (i := 21) (oi := ?o21_4) (v := undef) ?hi21_4 (by kernel_rfl) (by kernel_rfl) (by kernel_rfl) ?hQ21_4 ?hy21_4 HB4_1.out ?more21_4
  case hi21_4 => rw [List.getElem?_toArray]; exact rfl
  case hQ21_4 => exact fun _ _ _ h => h
  case hy21_4 =>
    exact Or.inr ⟨by rfl, rfl⟩
  simp only [Act.put, List.setIfInBounds_toArray, List.set_cons_zero, List.set_cons_succ]
  refine wpAnyH_take (i := 22) (oi := ?o22_4) (v := undef) ?hi22_4 (by kernel_rfl) (by kernel_rfl) (by kernel_rfl) ?hQ22_4 ?hy22_4 HB4_1.out ?more22_4
  case hi22_4 => rw [List.getElem?_toArray]; exact rfl
  case hQ22_4 => exact fun _ _ _ h => h
  case hy22_4 =>
    exact Or.inr ⟨by rfl, rfl⟩
  simp only [Act.put, List.setIfInBounds_toArray, List.set_cons_zero, List.set_cons_succ]
  refine wpAnyH_take (i := 23) (oi := ?o23_4) (v := undef) ?hi23_4 (by kernel_rfl) (by kernel_rfl) (by kernel_rfl) ?hQ23_4 ?hy23_4 HB4_1.out ?more23_4
  case hi23_4 => rw [List.getElem?_toArray]; exact rfl
  case hQ23_4 => exact fun _ _ _ h => h
  case hy23_4 =>
    exact Or.inr ⟨by rfl, rfl⟩
  simp only [Act.put, List.setIfInBounds_toArray, List.set_cons_zero, List.set_cons_succ]
  refine wpAnyH_take (i := 24) (oi := ?o24_4) (v := undef) ?hi24_4 (by kernel_rfl) (by kernel_rfl) (by kernel_rfl) ?hQ24_4 ?hy24_4 HB4_1.out ?more24_4
  case hi24_4 => rw [List.getElem?_toArray]; exact rfl
  case hQ24_4 => exact fun _ _ _ h => h
  case hy24_4 =>
    exact Or.inr ⟨by rfl, rfl⟩
  simp only [Act.put, List.setIfInBounds_toArray, List.set_cons_zero, List.set_cons_succ]
  refine wpAnyH_take (i := 25) (oi := ?o25_4) (v := ?v25_4) ?hi25_4 (by kernel_rfl) (by kernel_rfl) (by kernel_rfl) ?hQ25_4 ?hy25_4 HB4_1.out ?more25_4
  case hi25_4 => rw [List.getElem?_toArray]; exact rfl
  case hQ25_4 => exact fun _ _ _ h => h
  case hy25_4 =>
    refine Or.inl ⟨by rfl, ?_⟩
    intro w' hSw
    clear hSw
    go_simp
    try with_reducible rfl
  simp only [Act.put, List.setIfInBounds_toArray, List.set_cons_zero, List.set_cons_succ]
  refine wpAnyH_take (i := 26) (oi := ?o26_4) (v := ?v26_4) ?hi26_4 (by kernel_rfl) (by kernel_rfl) (by kernel_rfl) ?hQ26_4 ?hy26_4 HB4_1.out ?more26_4
  case hi26_4 => rw [List.getElem?_toArray]; exact rfl
  case hQ26_4 => exact fun _ _ _ h => h
  case hy26_4 =>
    refine Or.inl ⟨by rfl, ?_⟩
    intro w' hSw
    clear hSw
    go_simp
    try with_reducible rfl
  simp only [Act.put, List.setIfInBounds_toArray, List.set_cons_zero, List.set_cons_succ]
  refine wpAnyH_done (by kernel_rfl) ?_ _
  have HA5 : Hid (NS w5 (w.heap.size) a) := NS.call HA4.out HB4_1.out
  have HB5 : Hid (NS w5 (w.heap.size + 1) b) := NS.call HB4.out HB4_1.out
  have HP5 : Hid (NS w5 (w2.heap.size) p) := NS.call HP4.out HB4_1.out
  have HG5 : Hid (Glob w5) := Glob.call HG4.out HB4_1.out
  have HF5 : Hid (FieldB w5 g m) := FieldB.call HF4.out HB4_1.out
  have HS5 : Hid (FieldB w5 w1.heap.size m) := FieldB.call HS4.out HB4_1.out
  have HV5 : Hid (WS w5 w3.heap.size V) := WS.call HV4.out HB4_1.out
  have HW5 : Hid (Below w.heap.size w w5) := below_call0 HW4.out HB4_1.out
  clear HA4 HB4 HP4 HW4 HG4 HF4 HS4 HV4 HB4_1
  go_wp2_with fail
  refine wp_region_H (fun w' => Below w5.heap.size w5 w') 11 rfl (by kernel_rfl) ?_
  refine wpAnyH_take (i := 0) (oi := ?o0_5) (v := ?v0_5) ?hi0_5 (by kernel_rfl) (by kernel_rfl) (by kernel_rfl) ?hQ0_5 ?hy0_5 (Below.drew (Below.refl _ _)) ?more0_5
  case hi0_5 => rw [List.getElem?_toArray]; exact rfl
  case hQ0_5 => exact fun _ _ _ h => h
  case hy0_5 =>
    refine Or.inl ⟨by rfl, ?_⟩
    intro w' hSw
    clear hSw
    go_simp
    try with_reducible rfl
  simp only [Act.put, List.setIfInBounds_toArray, List.set_cons_zero, List.set_cons_succ]
  refine wpAnyH_take (i := 1) (oi := ?o1_5) (v := ?v1_5) ?hi1_5 (by kernel_rfl) (by kernel_rfl) (by kernel_rfl) ?hQ1_5 ?hy1_5 (Below.drew (Below.refl _ _)) ?more1_5
  case hi1_5 => rw [List.getElem?_toArray]; exact rfl
  case hQ1_5 => exact fun _ _ _ h => h
  case hy1_5 =>
    refine Or.inl ⟨by rfl, ?_⟩
    intro w' hSw
    obtain ⟨⟨v0, v1, v2, v3, v4, v5, v6, v7⟩, vz⟩ := ((WS.call HV5.out hSw)).facts
    clear hSw
    go_simp
    try with_reducible rfl
  simp only [Act.put, List.setIfInBounds_toArray, List.set_cons_zero, List.set_cons_succ]
  refine wpAnyH_take (i := 3) (oi := ?o3_5) (v := ?v3_5) ?hi3_5 (by kernel_rfl) (by kernel_rfl) (by kernel_rfl) ?hQ3_5 ?hy3_5 (Below.drew (Below.refl _ _)) ?more3_5
  case hi3_5 => rw [List.getElem?_toArray]; exact rfl
  case hQ3_5 => exact fun _ _ _ h => h
  case hy3_5 =>
    refine Or.inl ⟨by rfl, ?_⟩
    intro w' hSw
    obtain ⟨sm0, sm1, sm2, sm3⟩ := (FieldB.call HS5.out hSw).1.facts
    obtain ⟨sg0, sg1, sg2, sg3⟩ := (FieldB.call HS5.out hSw).gap
    clear hSw
    go_simp
    try with_reducible rfl
  simp only [Act.put, List.setIfInBounds_toArray, List.set_cons_zero, List.set_cons_succ]
  refine wpAnyH_take (i := 4) (oi := ?o4_5) (v := ?v4_5) ?hi4_5 (by kernel_rfl) (by kernel_rfl) (by kernel_rfl) ?hQ4_5 ?hy4_5 (Below.drew (Below.refl _ _)) ?more4_5
  case hi4_5 => rw [List.getElem?_toArray]; exact rfl
  case hQ4_5 => exact fun _ _ _ h => h
  case hy4_5 =>
    refine Or.inl ⟨by rfl, ?_⟩
    intro w' hSw
    obtain ⟨⟨v0, v1, v2, v3, v4, v5, v6, v7⟩, vz⟩ := ((WS.call HV5.out hSw)).facts
    clear hSw
    go_simp
    try with_reducible rfl
  simp only [Act.put, List.setIfInBounds_toArray, List.set_cons_zero, List.set_cons_succ]
  refine wpAnyH_one (i := 2) (o := ?o2_5) (by kernel_rfl) ?hi2_5 ?hw2_5 ?st2_5
  case hi2_5 => rw [List.getElem?_toArray]; exact rfl
  case hw2_5 => exact rfl
  intro K hK
  have HK2 : Hid _ := hK
  clear hK
  go_simp
  refine (K6.out g _ (FieldB.call HF5.out (Below.drew (Below.refl _ _)))).mono ?_
  rintro e wr5_1 ⟨rfl, hq⟩
  have HB5_1 : Hid (Below w5.heap.size w5 wr5_1) := below_call0 (Below.drew (Below.refl _ _)) hq
  clear hq
  go_wp2_with fail
  refine HK2.out _ _ ⟨HB5_1.out, ?_⟩
  clear HK2 K
  try simp only [Act.put, List.setIfInBounds_toArray, List.set_cons_zero, List.set_cons_succ]
  refine wpAnyH_one (i := 5) (o := ?o5_5) (by kernel_rfl) ?hi5_5 ?hw5_5 ?st5_5
  case hi5_5 => rw [List.getElem?_toArray]; exact rfl
  case hw5_5 => exact rfl
  intro K hK
  have HK5 : Hid _ := hK
  clear hK
  go_simp
  refine (K7.out _).mono ?_
  rintro e wr5_2 ⟨rfl, hq⟩
  have HB5_2 : Hid (Below w5.heap.size w5 wr5_2) := below_call0 HB5_1.out hq
  clear hq
  go_wp2_with fail
  refine HK5.out _ _ ⟨HB5_2.out, ?_⟩
  clear HK5 K
  try simp only [Act.put, List.setIfInBounds_toArray, List.set_cons_zero, List.set_cons_succ]
  refine wpAnyH_take (i := 6) (oi := ?o6_5) (v := ?v6_5) ?hi6_5 (by kernel_rfl) (by kernel_rfl) (by kernel_rfl) ?hQ6_5 ?hy6_5 HB5_2.out ?more6_5
  case hi6_5 => rw [List.getElem?_toArray]; exact rfl
  case hQ6_5 => exact fun _ _ _ h => h
  case hy6_5 =>
    refine Or.inl ⟨by rfl, ?_⟩
    intro w' hSw
    clear hSw
    go_simp
    try with_reducible rfl
  simp only [Act.put, List.setIfInBounds_toArray, List.set_cons_zero, List.set_cons_succ]
  refine wpAnyH_take (i := 7) (oi := ?o7_5) (v := ?v7_5) ?hi7_5 (by kernel_rfl) (by kernel_rfl) (by kernel_rfl) ?hQ7_5 ?hy7_5 HB5_2.out ?more7_5
  case hi7_5 => rw [List.getElem?_toArray]; exact rfl
  case hQ7_5 => exact fun _ _ _ h => h
  case hy7_5 =>
    refine Or.inl ⟨by rfl, ?_⟩
    intro w' hSw
    clear hSw
    go_simp
    try with_reducible rfl
  simp only [Act.put, List.setIfInBounds_toArray, List.set_cons_zero, List.set_cons_succ]
  refine wpAnyH_one (i := 8) (o := ?o8_5) (by kernel_rfl) ?hi8_5 ?hw8_5 ?st8_5
  case hi8_5 => rw [List.getElem?_toArray]; exact rfl
  case hw8_5 => exact rfl
  intro K hK
  have HK8 : Hid _ := hK
  clear hK
  go_simp
  refine (half_any _ (Glob.call HG5.out HB5_2.out)).mono ?_
  rintro e w6 ⟨rfl, hq⟩
  have HB5_3 : Hid (Below w5.heap.size w5 w6) := below_call0 HB5_2.out hq
  clear hq
  go_wp2_with fail
  refine HK8.out _ _ ⟨HB5_3.out, ?_⟩
  clear HK8 K
  try simp only [Act.put, List.setIfInBounds_toArray, List.set_cons_zero, List.set_cons_succ]
  refine wpAnyH_take (i := 9) (oi := ?o9_5) (v := ?v9_5) ?hi9_5 (by kernel_rfl) (by kernel_rfl) (by kernel_rfl) ?hQ9_5 ?hy9_5 HB5_3.out ?more9_5
  case hi9_5 => rw [List.getElem?_toArray]; exact rfl
  case hQ9_5 => exact fun _ _ _ h => h
  case hy9_5 =>
    refine Or.inl ⟨by rfl, ?_⟩
    intro w' hSw
    clear hSw
    go_simp
    try with_reducible rfl
  simp only [Act.put, List.setIfInBounds_toArray, List.set_cons_zero, List.set_cons_succ]
  refine wpAnyH_take (i := 10) (oi := ?o10_5) (v := ?v10_5) ?hi10_5 (by kernel_rfl) (by kernel_rfl) (by kernel_rfl) ?hQ10_5 ?hy10_5 HB5_3.out ?more10_5
  case hi10_5 => rw [List.getElem?_toArray]; exact rfl
  case hQ10_5 => exact fun _ _ _ h => h
  case hy10_5 =>
    refine Or.inl ⟨by rfl, ?_⟩
    intro w' hSw
    clear hSw
    go_simp
    try with_reducible rfl
  simp only [Act.put, List.setIfInBounds_toArray, List.set_cons_zero, List.set_cons_succ]
  refine wpAnyH_done (by kernel_rfl) ?_ _
  have HA6 : Hid (NS w6 (w.heap.size) a) := NS.call HA5.out HB5_3.out
  have HB6 : Hid (NS w6 (w.heap.size + 1) b) := NS.call HB5.out HB5_3.out
  have HP6 : Hid (NS w6 (w2.heap.size) p) := NS.call HP5.out HB5_3.out
  have HG6 : Hid (Glob w6) := Glob.call HG5.out HB5_3.out
  have HF6 : Hid (FieldB w6 g m) := FieldB.call HF5.out HB5_3.out
  have HS6 : Hid (FieldB w6 w1.heap.size m) := FieldB.call HS5.out HB5_3.out
  have HV6 : Hid (WS w6 w3.heap.size V) := WS.call HV5.out HB5_3.out
  have HW6 : Hid (Below w.heap.size w w6) := below_call0 HW5.out HB5_3.out
  clear HA5 HB5 HP5 HW5 HG5 HF5 HS5 HV5 HB5_1 HB5_2 HB5_3
  go_wp2_with fail
  go_ret
  exact ⟨rfl, HW6.out⟩

theorem fieldProducts_any (base : Bool) (a b : Nat) (ha : a < R256) (hb : b < R256) (w : World) (hG : Glob w) (hQ : GlobQ w) : Calls Tryd.prog 4 #[.bool base, .agg #[.int .u64 (limb (a) 0 : Nat), .int .u64 (limb (a) 1 : Nat), .int .u64 (limb (a) 2 : Nat), .int .u64 (limb (a) 3 : Nat)], .agg #[.int .u64 (limb (b) 0 : Nat), .int .u64 (limb (b) 1 : Nat), .int .u64 (limb (b) 2 : Nat), .int .u64 (limb (b) 3 : Nat)]] w fun e w' => e = .returned (.bool true) ∧ Below w.heap.size w w' := by
  have hF := FM_B base
  have hS := FS_B base
  have hV : a * b < R256 * R256 := Nat.mul_lt_mul_of_lt_of_le ha (Nat.le_of_lt hb) (by decide)
  by_cases h : a < mB base ∧ b < mB base
  · exact prods_in base (mB base) a b (a * b) (a * b % mB base) (a * b % mB base) (of_any base) (fun g w h' => fmul_in g _ a b hF h.1 h.2 w h') (times2_any a b ha hb) (ask2_in _ a b hF.2.1 ha hb (decide_eq_true h.1) (decide_eq_true h.2)) (mul2_any _ a b hF hS ha hb) (fun g w h => reduce_any g _ _ hF hV w h) (reduce2_any _ _ hF hS hV) w hG hQ
  · refine prods_no base (mB base) a b (a * b) 0 (a * b % mB base) (of_any base) (fun g w h' => ?_) (times2_any a b ha hb) (ask2_no _ a b hF.2.1 ha hb h) (by rw [limb_nought, limb_nought, limb_nought, limb_nought]; rfl) (fun g w h => reduce_any g _ _ hF hV w h) (reduce2_any _ _ hF hS hV) w hG hQ
    rw [limb_nought, limb_nought, limb_nought, limb_nought]
    exact fmul_no g _ a b hF ha hb h w h'
end Go.Proofs.YtglifkfkcepllaaDoor
