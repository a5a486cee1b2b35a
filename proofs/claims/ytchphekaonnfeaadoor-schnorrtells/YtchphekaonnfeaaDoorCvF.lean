/- Package curve: is a point on the curve? -/
import Derived.Test.YtchphekaonnfeaaDoorCmC
import Derived.Test.YtchphekaonnfeaaDoorMgK
namespace Go.Proofs.YtchphekaonnfeaaDoor
open Go Go.RowKit Go.Lib
attribute [local go_sem] run_eq4

theorem eq4_zeroC (a : Nat) (ha : a < R256) : eq4 (limb a 0 : Nat) (limb a 1 : Nat) (limb a 2 : Nat) (limb a 3 : Nat) 0 0 0 0 = decide (a = 0) := by
  have h := eq4_num a 0 ha (by decide)
  rw [lit0.1, lit0.2.1, lit0.2.2.1, lit0.2.2.2] at h
  exact h
set_option maxRecDepth 100000 in
set_option maxHeartbeats 2000000 in
theorem pcheck_i0 (g b o x y : Nat) (hx : x = 0) (hy : y = 0) (w : World) (hM : FieldB w g PP) (hP : PointB w b o x y true) :
    Calls Tryd.prog 48 #[.agg #[.pointer (some ⟨g, 0, none⟩)], .pointer (some ⟨b, o, none⟩)] w fun e w' => e = .returned (.int .i64 0) ∧ Below w.heap.size w w' := by
  have hr : ∀ w, (Op.equalIn 10000 28 (.agg #[.int .u64 (limb (x) 0 : Nat), .int .u64 (limb (x) 1 : Nat), .int .u64 (limb (x) 2 : Nat), .int .u64 (limb (x) 3 : Nat), .int .u64 (limb (y) 0 : Nat), .int .u64 (limb (y) 1 : Nat), .int .u64 (limb (y) 2 : Nat), .int .u64 (limb (y) 3 : Nat), .bool true]) (.agg #[.int .u64 0, .int .u64 0, .int .u64 0, .int .u64 0, .int .u64 0, .int .u64 0, .int .u64 0, .int .u64 0, .bool true])).run Tryd.prog w = .ok true w := fun w => by
    rw [run_eqP]
    subst hx; subst hy
    rw [lit0.1, lit0.2.1, lit0.2.2.1, lit0.2.2.2]
    rfl
  obtain ⟨w0, hw0⟩ : ∃ z, z = (w.alloc (.cells #[.pointer (some ⟨g, 0, none⟩)] 91)) := ⟨_, rfl⟩
  have H0 : Hid (FieldB w0 g PP ∧ PlB w0 w.heap.size g ∧ PointB w0 b o x y true ∧ Below w.heap.size w w0) := by
    rw [hw0]
    exact ⟨hM.alloc, PlB.new _ _ _, hP.alloc, below_alloc0 (Below.refl _ _) _⟩
  clear hM hP hx hy
  go_enter Tryd.func48, Tryd.ntmps48
  go_upto_region 1 with fail
  rw [← hw0]
  clear hw0
  obtain ⟨pz, p0, p1, p2, p3, p4, p5, p6, p7, p8⟩ := H0.out.2.2.1
  go_wp2_with fail
  go_ret
  exact ⟨rfl, H0.out.2.2.2⟩
set_option maxRecDepth 100000 in
set_option maxHeartbeats 2000000 in
theorem pcheck_i1 (g b o x y : Nat) (hX : x < R256) (hY : y < R256) (hxy : ¬ (x = 0 ∧ y = 0)) (w : World) (hM : FieldB w g PP) (hP : PointB w b o x y true) :
    Calls Tryd.prog 48 #[.agg #[.pointer (some ⟨g, 0, none⟩)], .pointer (some ⟨b, o, none⟩)] w fun e w' => e = .returned (.int .i64 30) ∧ Below w.heap.size w w' := by
  have hr : ∀ w, (Op.equalIn 10000 28 (.agg #[.int .u64 (limb (x) 0 : Nat), .int .u64 (limb (x) 1 : Nat), .int .u64 (limb (x) 2 : Nat), .int .u64 (limb (x) 3 : Nat), .int .u64 (limb (y) 0 : Nat), .int .u64 (limb (y) 1 : Nat), .int .u64 (limb (y) 2 : Nat), .int .u64 (limb (y) 3 : Nat), .bool true]) (.agg #[.int .u64 0, .int .u64 0, .int .u64 0, .int .u64 0, .int .u64 0, .int .u64 0, .int .u64 0, .int .u64 0, .bool true])).run Tryd.prog w = .ok false w := fun w => by
    rw [run_eqP]
    rw [eq4_zeroC x hX, eq4_zeroC y hY]
    have e : (decide (x = 0) && (decide (y = 0) && (true == true))) = false := by
      by_cases h1 : x = 0
      · by_cases h2 : y = 0
        · exact absurd ⟨h1, h2⟩ hxy
        · simp [h2]
      · simp [h1]
    rw [e]
  obtain ⟨w0, hw0⟩ : ∃ z, z = (w.alloc (.cells #[.pointer (some ⟨g, 0, none⟩)] 91)) := ⟨_, rfl⟩
  have H0 : Hid (FieldB w0 g PP ∧ PlB w0 w.heap.size g ∧ PointB w0 b o x y true ∧ Below w.heap.size w w0) := by
    rw [hw0]
    exact ⟨hM.alloc, PlB.new _ _ _, hP.alloc, below_alloc0 (Below.refl _ _) _⟩
  clear hM hP hX hY hxy
  go_enter Tryd.func48, Tryd.ntmps48
  go_upto_region 1 with fail
  rw [← hw0]
  clear hw0
  obtain ⟨pz, p0, p1, p2, p3, p4, p5, p6, p7, p8⟩ := H0.out.2.2.1
  go_wp2_with fail
  go_ret
  exact ⟨rfl, H0.out.2.2.2⟩
set_option maxRecDepth 100000 in
set_option maxHeartbeats 2000000 in
theorem pcheck_x (g b o x y : Nat) (hX : x < R256) (hx : ¬ x < PP) (w : World) (hM : FieldB w g PP) (hP : PointB w b o x y false) :
    Calls Tryd.prog 48 #[.agg #[.pointer (some ⟨g, 0, none⟩)], .pointer (some ⟨b, o, none⟩)] w fun e w' => e = .returned (.int .i64 30) ∧ Below w.heap.size w w' := by
  have K1 : Hid (∀ w, FieldB w g PP → Calls Tryd.prog 31 #[.pointer (some ⟨g, 0, none⟩), .agg #[.int .u64 (limb (x) 0 : Nat), .int .u64 (limb (x) 1 : Nat), .int .u64 (limb (x) 2 : Nat), .int .u64 (limb (x) 3 : Nat)]] w fun e w' => e = .returned (.int .i64 20) ∧ Below w.heap.size w w') := fun w h => by
    have k := check_any g PP x hX FM_P.2.1 w h
    unfold chkN at k
    rw [if_neg hx] at k
    exact k
  obtain ⟨w0, hw0⟩ : ∃ z, z = (w.alloc (.cells #[.pointer (some ⟨g, 0, none⟩)] 91)) := ⟨_, rfl⟩
  have H0 : Hid (FieldB w0 g PP ∧ PlB w0 w.heap.size g ∧ PointB w0 b o x y false ∧ Below w.heap.size w w0) := by
    rw [hw0]
    exact ⟨hM.alloc, PlB.new _ _ _, hP.alloc, below_alloc0 (Below.refl _ _) _⟩
  clear hM hP hX hx
  go_enter Tryd.func48, Tryd.ntmps48
  go_upto_region 1 with fail
  rw [← hw0]
  clear hw0
  obtain ⟨pz, p0, p1, p2, p3, p4, p5, p6, p7, p8⟩ := H0.out.2.2.1
  go_wp2_with fail
  clear pz p0 p1 p2 p3 p4 p5 p6 p7 p8
  refine wp_region_H (fun w' => Below w0.heap.size w0 w') 18 rfl (by kernel_rfl) ?_
  refine wpAnyH_take (i := 0) (oi := ?o0a) (v := ?v0a) ?hi0a (by kernel_rfl) (by kernel_rfl) (by kernel_rfl) ?hQ0a ?hy0a (Below.drew (Below.refl _ _)) ?more0a
  case hi0a => rw [List.getElem?_toArray]; exact rfl
  case hQ0a => exact fun _ _ _ h => h
  case hy0a =>
    refine Or.inl ⟨by rfl, ?_⟩
    intro w' hSw
    clear hSw
    go_simp
    try with_reducible rfl
  simp only [Act.put, List.setIfInBounds_toArray, List.set_cons_zero, List.set_cons_succ]
  refine wpAnyH_take (i := 1) (oi := ?o1a) (v := ?v1a) ?hi1a (by kernel_rfl) (by kernel_rfl) (by kernel_rfl) ?hQ1a ?hy1a (Below.drew (Below.refl _ _)) ?more1a
  case hi1a => rw [List.getElem?_toArray]; exact rfl
  case hQ1a => exact fun _ _ _ h => h
  case hy1a =>
    refine Or.inl ⟨by rfl, ?_⟩
    intro w' hSw
    obtain ⟨q0, qz⟩ := H0.out.2.1.call hSw
    obtain ⟨pz, p0, p1, p2, p3, p4, p5, p6, p7, p8⟩ := H0.out.2.2.1.call hSw
    clear hSw
    go_simp
    try with_reducible rfl
  simp only [Act.put, List.setIfInBounds_toArray, List.set_cons_zero, List.set_cons_succ]
  refine wpAnyH_take (i := 2) (oi := ?o2a) (v := ?v2a) ?hi2a (by kernel_rfl) (by kernel_rfl) (by kernel_rfl) ?hQ2a ?hy2a (Below.drew (Below.refl _ _)) ?more2a
  case hi2a => rw [List.getElem?_toArray]; exact rfl
  case hQ2a => exact fun _ _ _ h => h
  case hy2a =>
    refine Or.inl ⟨by rfl, ?_⟩
    intro w' hSw
    clear hSw
    go_simp
    try with_reducible rfl
  simp only [Act.put, List.setIfInBounds_toArray, List.set_cons_zero, List.set_cons_succ]
  refine wpAnyH_take (i := 3) (oi := ?o3a) (v := ?v3a) ?hi3a (by kernel_rfl) (by kernel_rfl) (by kernel_rfl) ?hQ3a ?hy3a (Below.drew (Below.refl _ _)) ?more3a
  case hi3a => rw [List.getElem?_toArray]; exact rfl
  case hQ3a => exact fun _ _ _ h => h
  case hy3a =>
    refine Or.inl ⟨by rfl, ?_⟩
    intro w' hSw
    clear hSw
    go_simp
    try with_reducible rfl
  simp only [Act.put, List.setIfInBounds_toArray, List.set_cons_zero, List.set_cons_succ]
  refine wpAnyH_take (i := 4) (oi := ?o4a) (v := ?v4a) ?hi4a (by kernel_rfl) (by kernel_rfl) (by kernel_rfl) ?hQ4a ?hy4a (Below.drew (Below.refl _ _)) ?more4a
  case hi4a => rw [List.getElem?_toArray]; exact rfl
  case hQ4a => exact fun _ _ _ h => h
  case hy4a =>
    refine Or.inl ⟨by rfl, ?_⟩
    intro w' hSw
    clear hSw
    go_simp
    try with_reducible rfl
  simp only [Act.put, List.setIfInBounds_toArray, List.set_cons_zero, List.set_cons_succ]
  refine wpAnyH_take (i := 5) (oi := ?o5a) (v := ?v5a) ?hi5a (by kernel_rfl) (by kernel_rfl) (by kernel_rfl) ?hQ5a ?hy5a (Below.drew (Below.refl _ _)) ?more5a
  case hi5a => rw [List.getElem?_toArray]; exact rfl
  case hQ5a => exact fun _ _ _ h => h
  case hy5a =>
    refine Or.inl ⟨by rfl, ?_⟩
    intro w' hSw
    obtain ⟨q0, qz⟩ := H0.out.2.1.call hSw
    obtain ⟨pz, p0, p1, p2, p3, p4, p5, p6, p7, p8⟩ := H0.out.2.2.1.call hSw
    clear hSw
    go_simp
    try with_reducible rfl
  simp only [Act.put, List.setIfInBounds_toArray, List.set_cons_zero, List.set_cons_succ]
  refine wpAnyH_one (i := 6) (o := ?o6a) (by kernel_rfl) ?hi6a ?hw6a ?st6a
  case hi6a => rw [List.getElem?_toArray]; exact rfl
  case hw6a => exact rfl
  intro K hK
  have HK6a : Hid _ := hK
  clear hK
  go_simp
  refine (K1.out _ (H0.out.1.call (Below.drew (Below.refl _ _)))).mono ?_
  rintro e w1 ⟨rfl, hq⟩
  have I1 : Hid (Below w0.heap.size w0 w1) := below_call0 (Below.drew (Below.refl _ _)) hq
  clear hq
  go_wp2_with fail
  refine HK6a.out _ _ ⟨I1.out, ?_⟩
  clear HK6a K
  try simp only [Act.put, List.setIfInBounds_toArray, List.set_cons_zero, List.set_cons_succ]
  refine wpAnyH_take (i := 7) (oi := ?o7a) (v := ?v7a) ?hi7a (by kernel_rfl) (by kernel_rfl) (by kernel_rfl) ?hQ7a ?hy7a I1.out ?more7a
  case hi7a => rw [List.getElem?_toArray]; exact rfl
  case hQ7a => exact fun _ _ _ h => h
  case hy7a =>
    refine Or.inl ⟨by rfl, ?_⟩
    intro w' hSw
    clear hSw
    go_simp
    try with_reducible rfl
  simp only [Act.put, List.setIfInBounds_toArray, List.set_cons_zero, List.set_cons_succ]
  refine wpAnyH_take (i := 8) (oi := ?o8a) (v := ?v8a) ?hi8a (by kernel_rfl) (by kernel_rfl) (by kernel_rfl) ?hQ8a ?hy8a I1.out ?more8a
  case hi8a => rw [List.getElem?_toArray]; exact rfl
  case hQ8a => exact fun _ _ _ h => h
  case hy8a =>
    refine Or.inl ⟨by rfl, ?_⟩
    intro w' hSw
    clear hSw
    go_simp
    try with_reducible rfl
  simp only [Act.put, List.setIfInBounds_toArray, List.set_cons_zero, List.set_cons_succ]
  refine wpAnyH_take (i := 9) (oi := ?o9a) (v := undef) ?hi9a (by kernel_rfl) (by kernel_rfl) (by kernel_rfl) ?hQ9a ?hy9a I1.out ?more9a
  case hi9a => rw [List.getElem?_toArray]; exact rfl
  case hQ9a => exact fun _ _ _ h => h
  case hy9a =>
    exact Or.inr ⟨by rfl, rfl⟩
  simp only [Act.put, List.setIfInBounds_toArray, List.set_cons_zero, List.set_cons_succ]
  refine wpAnyH_take (i := 10) (oi := ?o10a) (v := undef) ?hi10a (by kernel_rfl) (by kernel_rfl) (by kernel_rfl) ?hQ10a ?hy10a I1.out ?more10a
  case hi10a => rw [List.getElem?_toArray]; exact rfl
  case hQ10a => exact fun _ _ _ h => h
  case hy10a =>
    exact Or.inr ⟨by rfl, rfl⟩
  simp only [Act.put, List.setIfInBounds_toArray, List.set_cons_zero, List.set_cons_succ]
  refine wpAnyH_take (i := 11) (oi := ?o11a) (v := undef) ?hi11a (by kernel_rfl) (by kernel_rfl) (by kernel_rfl) ?hQ11a ?hy11a I1.out ?more11a
  case hi11a => rw [List.getElem?_toArray]; exact rfl
  case hQ11a => exact fun _ _ _ h => h
  case hy11a =>
    exact Or.inr ⟨by rfl, rfl⟩
  simp only [Act.put, List.setIfInBounds_toArray, List.set_cons_zero, List.set_cons_succ]
  refine wpAnyH_take (i := 12) (oi := ?o12a) (v := undef) ?hi12a (by kernel_rfl) (by kernel_rfl) (by kernel_rfl) ?hQ12a ?hy12a I1.out ?more12a
  case hi12a => rw [List.getElem?_toArray]; exact rfl
  case hQ12a => exact fun _ _ _ h => h
  case hy12a =>
    exact Or.inr ⟨by rfl, rfl⟩
  simp only [Act.put, List.setIfInBounds_toArray, List.set_cons_zero, List.set_cons_succ]
  refine wpAnyH_take (i := 13) (oi := ?o13a) (v := undef) ?hi13a (by kernel_rfl) (by kernel_rfl) (by kernel_rfl) ?hQ13a ?hy13a I1.out ?more13a
  case hi13a => rw [List.getElem?_toArray]; exact rfl
  case hQ13a => exact fun _ _ _ h => h
  case hy13a =>
    exact Or.inr ⟨by rfl, rfl⟩
  simp only [Act.put, List.setIfInBounds_toArray, List.set_cons_zero, List.set_cons_succ]
  refine wpAnyH_take (i := 14) (oi := ?o14a) (v := undef) ?hi14a (by kernel_rfl) (by kernel_rfl) (by kernel_rfl) ?hQ14a ?hy14a I1.out ?more14a
  case hi14a => rw [List.getElem?_toArray]; exact rfl
  case hQ14a => exact fun _ _ _ h => h
  case hy14a =>
    exact Or.inr ⟨by rfl, rfl⟩
  simp only [Act.put, List.setIfInBounds_toArray, List.set_cons_zero, List.set_cons_succ]
  refine wpAnyH_take (i := 15) (oi := ?o15a) (v := undef) ?hi15a (by kernel_rfl) (by kernel_rfl) (by kernel_rfl) ?hQ15a ?hy15a I1.out ?more15a
  case hi15a => rw [List.getElem?_toArray]; exact rfl
  case hQ15a => exact fun _ _ _ h => h
  case hy15a =>
    exact Or.inr ⟨by rfl, rfl⟩
  simp only [Act.put, List.setIfInBounds_toArray, List.set_cons_zero, List.set_cons_succ]
  refine wpAnyH_take (i := 16) (oi := ?o16a) (v := undef) ?hi16a (by kernel_rfl) (by kernel_rfl) (by kernel_rfl) ?hQ16a ?hy16a I1.out ?more16a
  case hi16a => rw [List.getElem?_toArray]; exact rfl
  case hQ16a => exact fun _ _ _ h => h
  case hy16a =>
    exact Or.inr ⟨by rfl, rfl⟩
  simp only [Act.put, List.setIfInBounds_toArray, List.set_cons_zero, List.set_cons_succ]
  refine wpAnyH_take (i := 17) (oi := ?o17a) (v := ?v17a) ?hi17a (by kernel_rfl) (by kernel_rfl) (by kernel_rfl) ?hQ17a ?hy17a I1.out ?more17a
  case hi17a => rw [List.getElem?_toArray]; exact rfl
  case hQ17a => exact fun _ _ _ h => h
  case hy17a =>
    refine Or.inl ⟨by rfl, ?_⟩
    intro w' hSw
    clear hSw
    go_simp
    try with_reducible rfl
  simp only [Act.put, List.setIfInBounds_toArray, List.set_cons_zero, List.set_cons_succ]
  refine wpAnyH_done (by kernel_rfl) ?_ _
  go_wp2_with fail
  go_ret
  exact ⟨rfl, below_call0 H0.out.2.2.2 I1.out⟩
set_option maxRecDepth 100000 in
set_option maxHeartbeats 2000000 in
theorem pcheck_y (g b o x y : Nat) (hX : x < R256) (hY : y < R256) (hx : x < PP) (hy : ¬ y < PP) (w : World) (hM : FieldB w g PP) (hP : PointB w b o x y false) :
    Calls Tryd.prog 48 #[.agg #[.pointer (some ⟨g, 0, none⟩)], .pointer (some ⟨b, o, none⟩)] w fun e w' => e = .returned (.int .i64 30) ∧ Below w.heap.size w w' := by
  have K1 : Hid (∀ w, FieldB w g PP → Calls Tryd.prog 31 #[.pointer (some ⟨g, 0, none⟩), .agg #[.int .u64 (limb (x) 0 : Nat), .int .u64 (limb (x) 1 : Nat), .int .u64 (limb (x) 2 : Nat), .int .u64 (limb (x) 3 : Nat)]] w fun e w' => e = .returned (.int .i64 0) ∧ Below w.heap.size w w') := fun w h => by
    have k := check_any g PP x hX FM_P.2.1 w h
    unfold chkN at k
    rw [if_pos hx] at k
    exact k
  have K2 : Hid (∀ w, FieldB w g PP → Calls Tryd.prog 31 #[.pointer (some ⟨g, 0, none⟩), .agg #[.int .u64 (limb (y) 0 : Nat), .int .u64 (limb (y) 1 : Nat), .int .u64 (limb (y) 2 : Nat), .int .u64 (limb (y) 3 : Nat)]] w fun e w' => e = .returned (.int .i64 20) ∧ Below w.heap.size w w') := fun w h => by
    have k := check_any g PP y hY FM_P.2.1 w h
    unfold chkN at k
    rw [if_neg hy] at k
    exact k
  obtain ⟨w0, hw0⟩ : ∃ z, z = (w.alloc (.cells #[.pointer (some ⟨g, 0, none⟩)] 91)) := ⟨_, rfl⟩
  have H0 : Hid (FieldB w0 g PP ∧ PlB w0 w.heap.size g ∧ PointB w0 b o x y false ∧ Below w.heap.size w w0) := by
    rw [hw0]
    exact ⟨hM.alloc, PlB.new _ _ _, hP.alloc, below_alloc0 (Below.refl _ _) _⟩
  clear hM hP hX hY hx hy
  go_enter Tryd.func48, Tryd.ntmps48
  go_upto_region 1 with fail
  rw [← hw0]
  clear hw0
  obtain ⟨pz, p0, p1, p2, p3, p4, p5, p6, p7, p8⟩ := H0.out.2.2.1
  go_wp2_with fail
  clear pz p0 p1 p2 p3 p4 p5 p6 p7 p8
  refine wp_region_H (fun w' => Below w0.heap.size w0 w') 18 rfl (by kernel_rfl) ?_
  refine wpAnyH_take (i := 0) (oi := ?o0a) (v := ?v0a) ?hi0a (by kernel_rfl) (by kernel_rfl) (by kernel_rfl) ?hQ0a ?hy0a (Below.drew (Below.refl _ _)) ?more0a
  case hi0a => rw [List.getElem?_toArray]; exact rfl
  case hQ0a => exact fun _ _ _ h => h
  case hy0a =>
    refine Or.inl ⟨by rfl, ?_⟩
    intro w' hSw
    clear hSw
    go_simp
    try with_reducible rfl
  simp only [Act.put, List.setIfInBounds_toArray, List.set_cons_zero, List.set_cons_succ]
  refine wpAnyH_take (i := 1) (oi := ?o1a) (v := ?v1a) ?hi1a (by kernel_rfl) (by kernel_rfl) (by kernel_rfl) ?hQ1a ?hy1a (Below.drew (Below.refl _ _)) ?more1a
  case hi1a => rw [List.getElem?_toArray]; exact rfl
  case hQ1a => exact fun _ _ _ h => h
  case hy1a =>
    refine Or.inl ⟨by rfl, ?_⟩
    intro w' hSw
    obtain ⟨q0, qz⟩ := H0.out.2.1.call hSw
    obtain ⟨pz, p0, p1, p2, p3, p4, p5, p6, p7, p8⟩ := H0.out.2.2.1.call hSw
    clear hSw
    go_simp
    try with_reducible rfl
  simp only [Act.put, List.setIfInBounds_toArray, List.set_cons_zero, List.set_cons_succ]
  refine wpAnyH_take (i := 2) (oi := ?o2a) (v := ?v2a) ?hi2a (by kernel_rfl) (by kernel_rfl) (by kernel_rfl) ?hQ2a ?hy2a (Below.drew (Below.refl _ _)) ?more2a
  case hi2a => rw [List.getElem?_toArray]; exact rfl
  case hQ2a => exact fun _ _ _ h => h
  case hy2a =>
    refine Or.inl ⟨by rfl, ?_⟩
    intro w' hSw
    clear hSw
    go_simp
    try with_reducible rfl
  simp only [Act.put, List.setIfInBounds_toArray, List.set_cons_zero, List.set_cons_succ]
  refine wpAnyH_take (i := 3) (oi := ?o3a) (v := ?v3a) ?hi3a (by kernel_rfl) (by kernel_rfl) (by kernel_rfl) ?hQ3a ?hy3a (Below.drew (Below.refl _ _)) ?more3a
  case hi3a => rw [List.getElem?_toArray]; exact rfl
  case hQ3a => exact fun _ _ _ h => h
  case hy3a =>
    refine Or.inl ⟨by rfl, ?_⟩
    intro w' hSw
    clear hSw
    go_simp
    try with_reducible rfl
  simp only [Act.put, List.setIfInBounds_toArray, List.set_cons_zero, List.set_cons_succ]
  refine wpAnyH_take (i := 4) (oi := ?o4a) (v := ?v4a) ?hi4a (by kernel_rfl) (by kernel_rfl) (by kernel_rfl) ?hQ4a ?hy4a (Below.drew (Below.refl _ _)) ?more4a
  case hi4a => rw [List.getElem?_toArray]; exact rfl
  case hQ4a => exact fun _ _ _ h => h
  case hy4a =>
    refine Or.inl ⟨by rfl, ?_⟩
    intro w' hSw
    clear hSw
    go_simp
    try with_reducible rfl
  simp only [Act.put, List.setIfInBounds_toArray, List.set_cons_zero, List.set_cons_succ]
  refine wpAnyH_take (i := 5) (oi := ?o5a) (v := ?v5a) ?hi5a (by kernel_rfl) (by kernel_rfl) (by kernel_rfl) ?hQ5a ?hy5a (Below.drew (Below.refl _ _)) ?more5a
  case hi5a => rw [List.getElem?_toArray]; exact rfl
  case hQ5a => exact fun _ _ _ h => h
  case hy5a =>
    refine Or.inl ⟨by rfl, ?_⟩
    intro w' hSw
    obtain ⟨q0, qz⟩ := H0.out.2.1.call hSw
    obtain ⟨pz, p0, p1, p2, p3, p4, p5, p6, p7, p8⟩ := H0.out.2.2.1.call hSw
    clear hSw
    go_simp
    try with_reducible rfl
  simp only [Act.put, List.setIfInBounds_toArray, List.set_cons_zero, List.set_cons_succ]
  refine wpAnyH_one (i := 6) (o := ?o6a) (by kernel_rfl) ?hi6a ?hw6a ?st6a
  case hi6a => rw [List.getElem?_toArray]; exact rfl
  case hw6a => exact rfl
  intro K hK
  have HK6a : Hid _ := hK
  clear hK
  go_simp
  refine (K1.out _ (H0.out.1.call (Below.drew (Below.refl _ _)))).mono ?_
  rintro e w1 ⟨rfl, hq⟩
  have I1 : Hid (Below w0.heap.size w0 w1) := below_call0 (Below.drew (Below.refl _ _)) hq
  clear hq
  go_wp2_with fail
  refine HK6a.out _ _ ⟨I1.out, ?_⟩
  clear HK6a K
  try simp only [Act.put, List.setIfInBounds_toArray, List.set_cons_zero, List.set_cons_succ]
  refine wpAnyH_take (i := 7) (oi := ?o7a) (v := ?v7a) ?hi7a (by kernel_rfl) (by kernel_rfl) (by kernel_rfl) ?hQ7a ?hy7a I1.out ?more7a
  case hi7a => rw [List.getElem?_toArray]; exact rfl
  case hQ7a => exact fun _ _ _ h => h
  case hy7a =>
    refine Or.inl ⟨by rfl, ?_⟩
    intro w' hSw
    clear hSw
    go_simp
    try with_reducible rfl
  simp only [Act.put, List.setIfInBounds_toArray, List.set_cons_zero, List.set_cons_succ]
  refine wpAnyH_take (i := 8) (oi := ?o8a) (v := ?v8a) ?hi8a (by kernel_rfl) (by kernel_rfl) (by kernel_rfl) ?hQ8a ?hy8a I1.out ?more8a
  case hi8a => rw [List.getElem?_toArray]; exact rfl
  case hQ8a => exact fun _ _ _ h => h
  case hy8a =>
    refine Or.inl ⟨by rfl, ?_⟩
    intro w' hSw
    clear hSw
    go_simp
    try with_reducible rfl
  simp only [Act.put, List.setIfInBounds_toArray, List.set_cons_zero, List.set_cons_succ]
  refine wpAnyH_take (i := 9) (oi := ?o9a) (v := ?v9a) ?hi9a (by kernel_rfl) (by kernel_rfl) (by kernel_rfl) ?hQ9a ?hy9a I1.out ?more9a
  case hi9a => rw [List.getElem?_toArray]; exact rfl
  case hQ9a => exact fun _ _ _ h => h
  case hy9a =>
    refine Or.inl ⟨by rfl, ?_⟩
    intro w' hSw
    clear hSw
    go_simp
    try with_reducible rfl
  simp only [Act.put, List.setIfInBounds_toArray, List.set_cons_zero, List.set_cons_succ]
  refine wpAnyH_take (i := 10) (oi := ?o10a) (v := ?v10a) ?hi10a (by kernel_rfl) (by kernel_rfl) (by kernel_rfl) ?hQ10a ?hy10a I1.out ?more10a
  case hi10a => rw [List.getElem?_toArray]; exact rfl
  case hQ10a => exact fun _ _ _ h => h
  case hy10a =>
    refine Or.inl ⟨by rfl, ?_⟩
    intro w' hSw
    obtain ⟨q0, qz⟩ := H0.out.2.1.call hSw
    obtain ⟨pz, p0, p1, p2, p3, p4, p5, p6, p7, p8⟩ := H0.out.2.2.1.call hSw
    clear hSw
    go_simp
    try with_reducible rfl
  simp only [Act.put, List.setIfInBounds_toArray, List.set_cons_zero, List.set_cons_succ]
  refine wpAnyH_take (i := 11) (oi := ?o11a) (v := ?v11a) ?hi11a (by kernel_rfl) (by kernel_rfl) (by kernel_rfl) ?hQ11a ?hy11a I1.out ?more11a
  case hi11a => rw [List.getElem?_toArray]; exact rfl
  case hQ11a => exact fun _ _ _ h => h
  case hy11a =>
    refine Or.inl ⟨by rfl, ?_⟩
    intro w' hSw
    clear hSw
    go_simp
    try with_reducible rfl
  simp only [Act.put, List.setIfInBounds_toArray, List.set_cons_zero, List.set_cons_succ]
  refine wpAnyH_take (i := 12) (oi := ?o12a) (v := ?v12a) ?hi12a (by kernel_rfl) (by kernel_rfl) (by kernel_rfl) ?hQ12a ?hy12a I1.out ?more12a
  case hi12a => rw [List.getElem?_toArray]; exact rfl
  case hQ12a => exact fun _ _ _ h => h
  case hy12a =>
    refine Or.inl ⟨by rfl, ?_⟩
    intro w' hSw
    clear hSw
    go_simp
    try with_reducible rfl
  simp only [Act.put, List.setIfInBounds_toArray, List.set_cons_zero, List.set_cons_succ]
  refine wpAnyH_take (i := 13) (oi := ?o13a) (v := ?v13a) ?hi13a (by kernel_rfl) (by kernel_rfl) (by kernel_rfl) ?hQ13a ?hy13a I1.out ?more13a
  case hi13a => rw [List.getElem?_toArray]; exact rfl
  case hQ13a => exact fun _ _ _ h => h
  case hy13a =>
    refine Or.inl ⟨by rfl, ?_⟩
    intro w' hSw
    clear hSw
    go_simp
    try with_reducible rfl
  simp only [Act.put, List.setIfInBounds_toArray, List.set_cons_zero, List.set_cons_succ]
  refine wpAnyH_take (i := 14) (oi := ?o14a) (v := ?v14a) ?hi14a (by kernel_rfl) (by kernel_rfl) (by kernel_rfl) ?hQ14a ?hy14a I1.out ?more14a
  case hi14a => rw [List.getElem?_toArray]; exact rfl
  case hQ14a => exact fun _ _ _ h => h
  case hy14a =>
    refine Or.inl ⟨by rfl, ?_⟩
    intro w' hSw
    obtain ⟨q0, qz⟩ := H0.out.2.1.call hSw
    obtain ⟨pz, p0, p1, p2, p3, p4, p5, p6, p7, p8⟩ := H0.out.2.2.1.call hSw
    clear hSw
    go_simp
    try with_reducible rfl
  simp only [Act.put, List.setIfInBounds_toArray, List.set_cons_zero, List.set_cons_succ]
  refine wpAnyH_one (i := 15) (o := ?o15a) (by kernel_rfl) ?hi15a ?hw15a ?st15a
  case hi15a => rw [List.getElem?_toArray]; exact rfl
  case hw15a => exact rfl
  intro K hK
  have HK15a : Hid _ := hK
  clear hK
  go_simp
  refine (K2.out _ (H0.out.1.call I1.out)).mono ?_
  rintro e w2 ⟨rfl, hq⟩
  have I2 : Hid (Below w0.heap.size w0 w2) := below_call0 I1.out hq
  clear hq
  go_wp2_with fail
  refine HK15a.out _ _ ⟨I2.out, ?_⟩
  clear HK15a K
  try simp only [Act.put, List.setIfInBounds_toArray, List.set_cons_zero, List.set_cons_succ]
  refine wpAnyH_take (i := 16) (oi := ?o16a) (v := ?v16a) ?hi16a (by kernel_rfl) (by kernel_rfl) (by kernel_rfl) ?hQ16a ?hy16a I2.out ?more16a
  case hi16a => rw [List.getElem?_toArray]; exact rfl
  case hQ16a => exact fun _ _ _ h => h
  case hy16a =>
    refine Or.inl ⟨by rfl, ?_⟩
    intro w' hSw
    clear hSw
    go_simp
    try with_reducible rfl
  simp only [Act.put, List.setIfInBounds_toArray, List.set_cons_zero, List.set_cons_succ]
  refine wpAnyH_take (i := 17) (oi := ?o17a) (v := ?v17a) ?hi17a (by kernel_rfl) (by kernel_rfl) (by kernel_rfl) ?hQ17a ?hy17a I2.out ?more17a
  case hi17a => rw [List.getElem?_toArray]; exact rfl
  case hQ17a => exact fun _ _ _ h => h
  case hy17a =>
    refine Or.inl ⟨by rfl, ?_⟩
    intro w' hSw
    clear hSw
    go_simp
    try with_reducible rfl
  simp only [Act.put, List.setIfInBounds_toArray, List.set_cons_zero, List.set_cons_succ]
  refine wpAnyH_done (by kernel_rfl) ?_ _
  go_wp2_with fail
  go_ret
  exact ⟨rfl, below_call0 H0.out.2.2.2 I2.out⟩
set_option maxRecDepth 100000 in
set_option maxHeartbeats 2000000 in
theorem pcheck_on (g b o x y : Nat) (hX : x < R256) (hY : y < R256) (hx : x < PP) (hy : y < PP) (hc : mM y y = sqM x) (w : World) (hM : FieldB w g PP) (hP : PointB w b o x y false) :
    Calls Tryd.prog 48 #[.agg #[.pointer (some ⟨g, 0, none⟩)], .pointer (some ⟨b, o, none⟩)] w fun e w' => e = .returned (.int .i64 0) ∧ Below w.heap.size w w' := by
  have K1 : Hid (∀ w, FieldB w g PP → Calls Tryd.prog 31 #[.pointer (some ⟨g, 0, none⟩), .agg #[.int .u64 (limb (x) 0 : Nat), .int .u64 (limb (x) 1 : Nat), .int .u64 (limb (x) 2 : Nat), .int .u64 (limb (x) 3 : Nat)]] w fun e w' => e = .returned (.int .i64 0) ∧ Below w.heap.size w w') := fun w h => by
    have k := check_any g PP x hX FM_P.2.1 w h
    unfold chkN at k
    rw [if_pos hx] at k
    exact k
  have K2 : Hid (∀ w, FieldB w g PP → Calls Tryd.prog 31 #[.pointer (some ⟨g, 0, none⟩), .agg #[.int .u64 (limb (y) 0 : Nat), .int .u64 (limb (y) 1 : Nat), .int .u64 (limb (y) 2 : Nat), .int .u64 (limb (y) 3 : Nat)]] w fun e w' => e = .returned (.int .i64 0) ∧ Below w.heap.size w w') := fun w h => by
    have k := check_any g PP y hY FM_P.2.1 w h
    unfold chkN at k
    rw [if_pos hy] at k
    exact k
  obtain ⟨a, ea⟩ : ∃ a, a = mM y y := ⟨_, rfl⟩
  obtain ⟨c, ec⟩ : ∃ c, c = sqM x := ⟨_, rfl⟩
  have K3 : Hid (∀ w, FieldB w g PP → Calls Tryd.prog 62 #[.agg #[.pointer (some ⟨g, 0, none⟩)], .agg #[.int .u64 (limb (y) 0 : Nat), .int .u64 (limb (y) 1 : Nat), .int .u64 (limb (y) 2 : Nat), .int .u64 (limb (y) 3 : Nat)], .agg #[.int .u64 (limb (y) 0 : Nat), .int .u64 (limb (y) 1 : Nat), .int .u64 (limb (y) 2 : Nat), .int .u64 (limb (y) 3 : Nat)]] w fun e w' => e = .returned (.agg #[.int .u64 (limb (a) 0 : Nat), .int .u64 (limb (a) 1 : Nat), .int .u64 (limb (a) 2 : Nat), .int .u64 (limb (a) 3 : Nat)]) ∧ Below w.heap.size w w') := fun w h => by have k := ptimes_any g y y hy hy w h; rw [← ea] at k; exact k
  have K4 : Hid (∀ w, FieldB w g PP → Calls Tryd.prog 63 #[.agg #[.pointer (some ⟨g, 0, none⟩)], .agg #[.int .u64 (limb (x) 0 : Nat), .int .u64 (limb (x) 1 : Nat), .int .u64 (limb (x) 2 : Nat), .int .u64 (limb (x) 3 : Nat)]] w fun e w' => e = .returned (.agg #[.int .u64 (limb (c) 0 : Nat), .int .u64 (limb (c) 1 : Nat), .int .u64 (limb (c) 2 : Nat), .int .u64 (limb (c) 3 : Nat)]) ∧ Below w.heap.size w w') := fun w h => by have k := psquare_any g x hx w h; rw [← ec] at k; exact k
  have he : eq4 (limb a 0 : Nat) (limb a 1 : Nat) (limb a 2 : Nat) (limb a 3 : Nat) (limb c 0 : Nat) (limb c 1 : Nat) (limb c 2 : Nat) (limb c 3 : Nat) = true := by
    rw [eq4_num a c (by rw [ea]; exact Nat.lt_trans (mM_lt _ _) FM_P.2.1) (by rw [ec]; exact Nat.lt_trans (sqM_lt _) FM_P.2.1), ea, ec]
    exact decide_eq_true hc
  obtain ⟨w0, hw0⟩ : ∃ z, z = (w.alloc (.cells #[.pointer (some ⟨g, 0, none⟩)] 91)) := ⟨_, rfl⟩
  have H0 : Hid (FieldB w0 g PP ∧ PlB w0 w.heap.size g ∧ PointB w0 b o x y false ∧ Below w.heap.size w w0) := by
    rw [hw0]
    exact ⟨hM.alloc, PlB.new _ _ _, hP.alloc, below_alloc0 (Below.refl _ _) _⟩
  clear hM hP hX hY hx hy hc ea ec
  go_enter Tryd.func48, Tryd.ntmps48
  go_upto_region 1 with fail
  rw [← hw0]
  clear hw0
  obtain ⟨pz, p0, p1, p2, p3, p4, p5, p6, p7, p8⟩ := H0.out.2.2.1
  go_wp2_with fail
  clear pz p0 p1 p2 p3 p4 p5 p6 p7 p8
  refine wp_region_H (fun w' => Below w0.heap.size w0 w') 18 rfl (by kernel_rfl) ?_
  refine wpAnyH_take (i := 0) (oi := ?o0a) (v := ?v0a) ?hi0a (by kernel_rfl) (by kernel_rfl) (by kernel_rfl) ?hQ0a ?hy0a (Below.drew (Below.refl _ _)) ?more0a
  case hi0a => rw [List.getElem?_toArray]; exact rfl
  case hQ0a => exact fun _ _ _ h => h
  case hy0a =>
    refine Or.inl ⟨by rfl, ?_⟩
    intro w' hSw
    clear hSw
    go_simp
    try with_reducible rfl
  simp only [Act.put, List.setIfInBounds_toArray, List.set_cons_zero, List.set_cons_succ]
  refine wpAnyH_take (i := 1) (oi := ?o1a) (v := ?v1a) ?hi1a (by kernel_rfl) (by kernel_rfl) (by kernel_rfl) ?hQ1a ?hy1a (Below.drew (Below.refl _ _)) ?more1a
  case hi1a => rw [List.getElem?_toArray]; exact rfl
  case hQ1a => exact fun _ _ _ h => h
  case hy1a =>
    refine Or.inl ⟨by rfl, ?_⟩
    intro w' hSw
    obtain ⟨q0, qz⟩ := H0.out.2.1.call hSw
    obtain ⟨pz, p0, p1, p2, p3, p4, p5, p6, p7, p8⟩ := H0.out.2.2.1.call hSw
    clear hSw
    go_simp
    try with_reducible rfl
  simp only [Act.put, List.setIfInBounds_toArray, List.set_cons_zero, List.set_cons_succ]
  refine wpAnyH_take (i := 2) (oi := ?o2a) (v := ?v2a) ?hi2a (by kernel_rfl) (by kernel_rfl) (by kernel_rfl) ?hQ2a ?hy2a (Below.drew (Below.refl _ _)) ?more2a
  case hi2a => rw [List.getElem?_toArray]; exact rfl
  case hQ2a => exact fun _ _ _ h => h
  case hy2a =>
    refine Or.inl ⟨by rfl, ?_⟩
    intro w' hSw
    clear hSw
    go_simp
    try with_reducible rfl
  simp only [Act.put, List.setIfInBounds_toArray, List.set_cons_zero, List.set_cons_succ]
  refine wpAnyH_take (i := 3) (oi := ?o3a) (v := ?v3a) ?hi3a (by kernel_rfl) (by kernel_rfl) (by kernel_rfl) ?hQ3a ?hy3a (Below.drew (Below.refl _ _)) ?more3a
  case hi3a => rw [List.getElem?_toArray]; exact rfl
  case hQ3a => exact fun _ _ _ h => h
  case hy3a =>
    refine Or.inl ⟨by rfl, ?_⟩
    intro w' hSw
    clear hSw
    go_simp
    try with_reducible rfl
  simp only [Act.put, List.setIfInBounds_toArray, List.set_cons_zero, List.set_cons_succ]
  refine wpAnyH_take (i := 4) (oi := ?o4a) (v := ?v4a) ?hi4a (by kernel_rfl) (by kernel_rfl) (by kernel_rfl) ?hQ4a ?hy4a (Below.drew (Below.refl _ _)) ?more4a
  case hi4a => rw [List.getElem?_toArray]; exact rfl
  case hQ4a => exact fun _ _ _ h => h
  case hy4a =>
    refine Or.inl ⟨by rfl, ?_⟩
    intro w' hSw
    clear hSw
    go_simp
    try with_reducible rfl
  simp only [Act.put, List.setIfInBounds_toArray, List.set_cons_zero, List.set_cons_succ]
  refine wpAnyH_take (i := 5) (oi := ?o5a) (v := ?v5a) ?hi5a (by kernel_rfl) (by kernel_rfl) (by kernel_rfl) ?hQ5a ?hy5a (Below.drew (Below.refl _ _)) ?more5a
  case hi5a => rw [List.getElem?_toArray]; exact rfl
  case hQ5a => exact fun _ _ _ h => h
  case hy5a =>
    refine Or.inl ⟨by rfl, ?_⟩
    intro w' hSw
    obtain ⟨q0, qz⟩ := H0.out.2.1.call hSw
    obtain ⟨pz, p0, p1, p2, p3, p4, p5, p6, p7, p8⟩ := H0.out.2.2.1.call hSw
    clear hSw
    go_simp
    try with_reducible rfl
  simp only [Act.put, List.setIfInBounds_toArray, List.set_cons_zero, List.set_cons_succ]
  refine wpAnyH_one (i := 6) (o := ?o6a) (by kernel_rfl) ?hi6a ?hw6a ?st6a
  case hi6a => rw [List.getElem?_toArray]; exact rfl
  case hw6a => exact rfl
  intro K hK
  have HK6a : Hid _ := hK
  clear hK
  go_simp
  refine (K1.out _ (H0.out.1.call (Below.drew (Below.refl _ _)))).mono ?_
  rintro e w1 ⟨rfl, hq⟩
  have I1 : Hid (Below w0.heap.size w0 w1) := below_call0 (Below.drew (Below.refl _ _)) hq
  clear hq
  go_wp2_with fail
  refine HK6a.out _ _ ⟨I1.out, ?_⟩
  clear HK6a K
  try simp only [Act.put, List.setIfInBounds_toArray, List.set_cons_zero, List.set_cons_succ]
  refine wpAnyH_take (i := 7) (oi := ?o7a) (v := ?v7a) ?hi7a (by kernel_rfl) (by kernel_rfl) (by kernel_rfl) ?hQ7a ?hy7a I1.out ?more7a
  case hi7a => rw [List.getElem?_toArray]; exact rfl
  case hQ7a => exact fun _ _ _ h => h
  case hy7a =>
    refine Or.inl ⟨by rfl, ?_⟩
    intro w' hSw
    clear hSw
    go_simp
    try with_reducible rfl
  simp only [Act.put, List.setIfInBounds_toArray, List.set_cons_zero, List.set_cons_succ]
  refine wpAnyH_take (i := 8) (oi := ?o8a) (v := ?v8a) ?hi8a (by kernel_rfl) (by kernel_rfl) (by kernel_rfl) ?hQ8a ?hy8a I1.out ?more8a
  case hi8a => rw [List.getElem?_toArray]; exact rfl
  case hQ8a => exact fun _ _ _ h => h
  case hy8a =>
    refine Or.inl ⟨by rfl, ?_⟩
    intro w' hSw
    clear hSw
    go_simp
    try with_reducible rfl
  simp only [Act.put, List.setIfInBounds_toArray, List.set_cons_zero, List.set_cons_succ]
  refine wpAnyH_take (i := 9) (oi := ?o9a) (v := ?v9a) ?hi9a (by kernel_rfl) (by kernel_rfl) (by kernel_rfl) ?hQ9a ?hy9a I1.out ?more9a
  case hi9a => rw [List.getElem?_toArray]; exact rfl
  case hQ9a => exact fun _ _ _ h => h
  case hy9a =>
    refine Or.inl ⟨by rfl, ?_⟩
    intro w' hSw
    clear hSw
    go_simp
    try with_reducible rfl
  simp only [Act.put, List.setIfInBounds_toArray, List.set_cons_zero, List.set_cons_succ]
  refine wpAnyH_take (i := 10) (oi := ?o10a) (v := ?v10a) ?hi10a (by kernel_rfl) (by kernel_rfl) (by kernel_rfl) ?hQ10a ?hy10a I1.out ?more10a
  case hi10a => rw [List.getElem?_toArray]; exact rfl
  case hQ10a => exact fun _ _ _ h => h
  case hy10a =>
    refine Or.inl ⟨by rfl, ?_⟩
    intro w' hSw
    obtain ⟨q0, qz⟩ := H0.out.2.1.call hSw
    obtain ⟨pz, p0, p1, p2, p3, p4, p5, p6, p7, p8⟩ := H0.out.2.2.1.call hSw
    clear hSw
    go_simp
    try with_reducible rfl
  simp only [Act.put, List.setIfInBounds_toArray, List.set_cons_zero, List.set_cons_succ]
  refine wpAnyH_take (i := 11) (oi := ?o11a) (v := ?v11a) ?hi11a (by kernel_rfl) (by kernel_rfl) (by kernel_rfl) ?hQ11a ?hy11a I1.out ?more11a
  case hi11a => rw [List.getElem?_toArray]; exact rfl
  case hQ11a => exact fun _ _ _ h => h
  case hy11a =>
    refine Or.inl ⟨by rfl, ?_⟩
    intro w' hSw
    clear hSw
    go_simp
    try with_reducible rfl
  simp only [Act.put, List.setIfInBounds_toArray, List.set_cons_zero, List.set_cons_succ]
  refine wpAnyH_take (i := 12) (oi := ?o12a) (v := ?v12a) ?hi12a (by kernel_rfl) (by kernel_rfl) (by kernel_rfl) ?hQ12a ?hy12a I1.out ?more12a
  case hi12a => rw [List.getElem?_toArray]; exact rfl
  case hQ12a => exact fun _ _ _ h => h
  case hy12a =>
    refine Or.inl ⟨by rfl, ?_⟩
    intro w' hSw
    clear hSw
    go_simp
    try with_reducible rfl
  simp only [Act.put, List.setIfInBounds_toArray, List.set_cons_zero, List.set_cons_succ]
  refine wpAnyH_take (i := 13) (oi := ?o13a) (v := ?v13a) ?hi13a (by kernel_rfl) (by kernel_rfl) (by kernel_rfl) ?hQ13a ?hy13a I1.out ?more13a
  case hi13a => rw [List.getElem?_toArray]; exact rfl
  case hQ13a => exact fun _ _ _ h => h
  case hy13a =>
    refine Or.inl ⟨by rfl, ?_⟩
    intro w' hSw
    clear hSw
    go_simp
    try with_reducible rfl
  simp only [Act.put, List.setIfInBounds_toArray, List.set_cons_zero, List.set_cons_succ]
  refine wpAnyH_take (i := 14) (oi := ?o14a) (v := ?v14a) ?hi14a (by kernel_rfl) (by kernel_rfl) (by kernel_rfl) ?hQ14a ?hy14a I1.out ?more14a
  case hi14a => rw [List.getElem?_toArray]; exact rfl
  case hQ14a => exact fun _ _ _ h => h
  case hy14a =>
    refine Or.inl ⟨by rfl, ?_⟩
    intro w' hSw
    obtain ⟨q0, qz⟩ := H0.out.2.1.call hSw
    obtain ⟨pz, p0, p1, p2, p3, p4, p5, p6, p7, p8⟩ := H0.out.2.2.1.call hSw
    clear hSw
    go_simp
    try with_reducible rfl
  simp only [Act.put, List.setIfInBounds_toArray, List.set_cons_zero, List.set_cons_succ]
  refine wpAnyH_one (i := 15) (o := ?o15a) (by kernel_rfl) ?hi15a ?hw15a ?st15a
  case hi15a => rw [List.getElem?_toArray]; exact rfl
  case hw15a => exact rfl
  intro K hK
  have HK15a : Hid _ := hK
  clear hK
  go_simp
  refine (K2.out _ (H0.out.1.call I1.out)).mono ?_
  rintro e w2 ⟨rfl, hq⟩
  have I2 : Hid (Below w0.heap.size w0 w2) := below_call0 I1.out hq
  clear hq
  go_wp2_with fail
  refine HK15a.out _ _ ⟨I2.out, ?_⟩
  clear HK15a K
  try simp only [Act.put, List.setIfInBounds_toArray, List.set_cons_zero, List.set_cons_succ]
  refine wpAnyH_take (i := 16) (oi := ?o16a) (v := ?v16a) ?hi16a (by kernel_rfl) (by kernel_rfl) (by kernel_rfl) ?hQ16a ?hy16a I2.out ?more16a
  case hi16a => rw [List.getElem?_toArray]; exact rfl
  case hQ16a => exact fun _ _ _ h => h
  case hy16a =>
    refine Or.inl ⟨by rfl, ?_⟩
    intro w' hSw
    clear hSw
    go_simp
    try with_reducible rfl
  simp only [Act.put, List.setIfInBounds_toArray, List.set_cons_zero, List.set_cons_succ]
  refine wpAnyH_take (i := 17) (oi := ?o17a) (v := ?v17a) ?hi17a (by kernel_rfl) (by kernel_rfl) (by kernel_rfl) ?hQ17a ?hy17a I2.out ?more17a
  case hi17a => rw [List.getElem?_toArray]; exact rfl
  case hQ17a => exact fun _ _ _ h => h
  case hy17a =>
    refine Or.inl ⟨by rfl, ?_⟩
    intro w' hSw
    clear hSw
    go_simp
    try with_reducible rfl
  simp only [Act.put, List.setIfInBounds_toArray, List.set_cons_zero, List.set_cons_succ]
  refine wpAnyH_done (by kernel_rfl) ?_ _
  go_wp2_with fail
  have H2 : Hid (FieldB w2 g PP ∧ PlB w2 w.heap.size g ∧ PointB w2 b o x y false ∧ Below w.heap.size w w2) := ⟨H0.out.1.call I2.out, H0.out.2.1.call I2.out, H0.out.2.2.1.call I2.out, below_call0 H0.out.2.2.2 I2.out⟩
  clear H0 I1 I2
  refine wp_region_H (fun w' => Below w2.heap.size w2 w') 17 rfl (by kernel_rfl) ?_
  refine wpAnyH_take (i := 0) (oi := ?o0b) (v := ?v0b) ?hi0b (by kernel_rfl) (by kernel_rfl) (by kernel_rfl) ?hQ0b ?hy0b (Below.drew (Below.refl _ _)) ?more0b
  case hi0b => rw [List.getElem?_toArray]; exact rfl
  case hQ0b => exact fun _ _ _ h => h
  case hy0b =>
    refine Or.inl ⟨by rfl, ?_⟩
    intro w' hSw
    obtain ⟨q0, qz⟩ := H2.out.2.1.call hSw
    obtain ⟨pz, p0, p1, p2, p3, p4, p5, p6, p7, p8⟩ := H2.out.2.2.1.call hSw
    clear hSw
    go_simp
    try with_reducible rfl
  simp only [Act.put, List.setIfInBounds_toArray, List.set_cons_zero, List.set_cons_succ]
  refine wpAnyH_take (i := 1) (oi := ?o1b) (v := ?v1b) ?hi1b (by kernel_rfl) (by kernel_rfl) (by kernel_rfl) ?hQ1b ?hy1b (Below.drew (Below.refl _ _)) ?more1b
  case hi1b => rw [List.getElem?_toArray]; exact rfl
  case hQ1b => exact fun _ _ _ h => h
  case hy1b =>
    refine Or.inl ⟨by rfl, ?_⟩
    intro w' hSw
    clear hSw
    go_simp
    try with_reducible rfl
  simp only [Act.put, List.setIfInBounds_toArray, List.set_cons_zero, List.set_cons_succ]
  refine wpAnyH_take (i := 2) (oi := ?o2b) (v := ?v2b) ?hi2b (by kernel_rfl) (by kernel_rfl) (by kernel_rfl) ?hQ2b ?hy2b (Below.drew (Below.refl _ _)) ?more2b
  case hi2b => rw [List.getElem?_toArray]; exact rfl
  case hQ2b => exact fun _ _ _ h => h
  case hy2b =>
    refine Or.inl ⟨by rfl, ?_⟩
    intro w' hSw
    clear hSw
    go_simp
    try with_reducible rfl
  simp only [Act.put, List.setIfInBounds_toArray, List.set_cons_zero, List.set_cons_succ]
  refine wpAnyH_take (i := 3) (oi := ?o3b) (v := ?v3b) ?hi3b (by kernel_rfl) (by kernel_rfl) (by kernel_rfl) ?hQ3b ?hy3b (Below.drew (Below.refl _ _)) ?more3b
  case hi3b => rw [List.getElem?_toArray]; exact rfl
  case hQ3b => exact fun _ _ _ h => h
  case hy3b =>
    refine Or.inl ⟨by rfl, ?_⟩
    intro w' hSw
    clear hSw
    go_simp
    try with_reducible rfl
  simp only [Act.put, List.setIfInBounds_toArray, List.set_cons_zero, List.set_cons_succ]
  refine wpAnyH_take (i := 4) (oi := ?o4b) (v := ?v4b) ?hi4b (by kernel_rfl) (by kernel_rfl) (by kernel_rfl) ?hQ4b ?hy4b (Below.drew (Below.refl _ _)) ?more4b
  case hi4b => rw [List.getElem?_toArray]; exact rfl
  case hQ4b => exact fun _ _ _ h => h
  case hy4b =>
    refine Or.inl ⟨by rfl, ?_⟩
    intro w' hSw
    obtain ⟨q0, qz⟩ := H2.out.2.1.call hSw
    obtain ⟨pz, p0, p1, p2, p3, p4, p5, p6, p7, p8⟩ := H2.out.2.2.1.call hSw
    clear hSw
    go_simp
    try with_reducible rfl
  simp only [Act.put, List.setIfInBounds_toArray, List.set_cons_zero, List.set_cons_succ]
  refine wpAnyH_take (i := 5) (oi := ?o5b) (v := ?v5b) ?hi5b (by kernel_rfl) (by kernel_rfl) (by kernel_rfl) ?hQ5b ?hy5b (Below.drew (Below.refl _ _)) ?more5b
  case hi5b => rw [List.getElem?_toArray]; exact rfl
  case hQ5b => exact fun _ _ _ h => h
  case hy5b =>
    refine Or.inl ⟨by rfl, ?_⟩
    intro w' hSw
    clear hSw
    go_simp
    try with_reducible rfl
  simp only [Act.put, List.setIfInBounds_toArray, List.set_cons_zero, List.set_cons_succ]
  refine wpAnyH_take (i := 6) (oi := ?o6b) (v := ?v6b) ?hi6b (by kernel_rfl) (by kernel_rfl) (by kernel_rfl) ?hQ6b ?hy6b (Below.drew (Below.refl _ _)) ?more6b
  case hi6b => rw [List.getElem?_toArray]; exact rfl
  case hQ6b => exact fun _ _ _ h => h
  case hy6b =>
    refine Or.inl ⟨by rfl, ?_⟩
    intro w' hSw
    clear hSw
    go_simp
    try with_reducible rfl
  simp only [Act.put, List.setIfInBounds_toArray, List.set_cons_zero, List.set_cons_succ]
  refine wpAnyH_take (i := 7) (oi := ?o7b) (v := ?v7b) ?hi7b (by kernel_rfl) (by kernel_rfl) (by kernel_rfl) ?hQ7b ?hy7b (Below.drew (Below.refl _ _)) ?more7b
  case hi7b => rw [List.getElem?_toArray]; exact rfl
  case hQ7b => exact fun _ _ _ h => h
  case hy7b =>
    refine Or.inl ⟨by rfl, ?_⟩
    intro w' hSw
    clear hSw
    go_simp
    try with_reducible rfl
  simp only [Act.put, List.setIfInBounds_toArray, List.set_cons_zero, List.set_cons_succ]
  refine wpAnyH_take (i := 8) (oi := ?o8b) (v := ?v8b) ?hi8b (by kernel_rfl) (by kernel_rfl) (by kernel_rfl) ?hQ8b ?hy8b (Below.drew (Below.refl _ _)) ?more8b
  case hi8b => rw [List.getElem?_toArray]; exact rfl
  case hQ8b => exact fun _ _ _ h => h
  case hy8b =>
    refine Or.inl ⟨by rfl, ?_⟩
    intro w' hSw
    obtain ⟨q0, qz⟩ := H2.out.2.1.call hSw
    obtain ⟨pz, p0, p1, p2, p3, p4, p5, p6, p7, p8⟩ := H2.out.2.2.1.call hSw
    clear hSw
    go_simp
    try with_reducible rfl
  simp only [Act.put, List.setIfInBounds_toArray, List.set_cons_zero, List.set_cons_succ]
  refine wpAnyH_take (i := 10) (oi := ?o10b) (v := ?v10b) ?hi10b (by kernel_rfl) (by kernel_rfl) (by kernel_rfl) ?hQ10b ?hy10b (Below.drew (Below.refl _ _)) ?more10b
  case hi10b => rw [List.getElem?_toArray]; exact rfl
  case hQ10b => exact fun _ _ _ h => h
  case hy10b =>
    refine Or.inl ⟨by rfl, ?_⟩
    intro w' hSw
    obtain ⟨q0, qz⟩ := H2.out.2.1.call hSw
    obtain ⟨pz, p0, p1, p2, p3, p4, p5, p6, p7, p8⟩ := H2.out.2.2.1.call hSw
    clear hSw
    go_simp
    try with_reducible rfl
  simp only [Act.put, List.setIfInBounds_toArray, List.set_cons_zero, List.set_cons_succ]
  refine wpAnyH_take (i := 11) (oi := ?o11b) (v := ?v11b) ?hi11b (by kernel_rfl) (by kernel_rfl) (by kernel_rfl) ?hQ11b ?hy11b (Below.drew (Below.refl _ _)) ?more11b
  case hi11b => rw [List.getElem?_toArray]; exact rfl
  case hQ11b => exact fun _ _ _ h => h
  case hy11b =>
    refine Or.inl ⟨by rfl, ?_⟩
    intro w' hSw
    clear hSw
    go_simp
    try with_reducible rfl
  simp only [Act.put, List.setIfInBounds_toArray, List.set_cons_zero, List.set_cons_succ]
  refine wpAnyH_take (i := 12) (oi := ?o12b) (v := ?v12b) ?hi12b (by kernel_rfl) (by kernel_rfl) (by kernel_rfl) ?hQ12b ?hy12b (Below.drew (Below.refl _ _)) ?more12b
  case hi12b => rw [List.getElem?_toArray]; exact rfl
  case hQ12b => exact fun _ _ _ h => h
  case hy12b =>
    refine Or.inl ⟨by rfl, ?_⟩
    intro w' hSw
    clear hSw
    go_simp
    try with_reducible rfl
  simp only [Act.put, List.setIfInBounds_toArray, List.set_cons_zero, List.set_cons_succ]
  refine wpAnyH_take (i := 13) (oi := ?o13b) (v := ?v13b) ?hi13b (by kernel_rfl) (by kernel_rfl) (by kernel_rfl) ?hQ13b ?hy13b (Below.drew (Below.refl _ _)) ?more13b
  case hi13b => rw [List.getElem?_toArray]; exact rfl
  case hQ13b => exact fun _ _ _ h => h
  case hy13b =>
    refine Or.inl ⟨by rfl, ?_⟩
    intro w' hSw
    clear hSw
    go_simp
    try with_reducible rfl
  simp only [Act.put, List.setIfInBounds_toArray, List.set_cons_zero, List.set_cons_succ]
  refine wpAnyH_take (i := 14) (oi := ?o14b) (v := ?v14b) ?hi14b (by kernel_rfl) (by kernel_rfl) (by kernel_rfl) ?hQ14b ?hy14b (Below.drew (Below.refl _ _)) ?more14b
  case hi14b => rw [List.getElem?_toArray]; exact rfl
  case hQ14b => exact fun _ _ _ h => h
  case hy14b =>
    refine Or.inl ⟨by rfl, ?_⟩
    intro w' hSw
    obtain ⟨q0, qz⟩ := H2.out.2.1.call hSw
    obtain ⟨pz, p0, p1, p2, p3, p4, p5, p6, p7, p8⟩ := H2.out.2.2.1.call hSw
    clear hSw
    go_simp
    try with_reducible rfl
  simp only [Act.put, List.setIfInBounds_toArray, List.set_cons_zero, List.set_cons_succ]
  refine wpAnyH_one (i := 9) (o := ?o9b) (by kernel_rfl) ?hi9b ?hw9b ?st9b
  case hi9b => rw [List.getElem?_toArray]; exact rfl
  case hw9b => exact rfl
  intro K hK
  have HK9b : Hid _ := hK
  clear hK
  go_simp
  refine (K3.out _ (H2.out.1.call (Below.drew (Below.refl _ _)))).mono ?_
  rintro e w3 ⟨rfl, hq⟩
  have I3 : Hid (Below w2.heap.size w2 w3) := below_call0 (Below.drew (Below.refl _ _)) hq
  clear hq
  go_wp2_with fail
  refine HK9b.out _ _ ⟨I3.out, ?_⟩
  clear HK9b K
  try simp only [Act.put, List.setIfInBounds_toArray, List.set_cons_zero, List.set_cons_succ]
  refine wpAnyH_one (i := 15) (o := ?o15b) (by kernel_rfl) ?hi15b ?hw15b ?st15b
  case hi15b => rw [List.getElem?_toArray]; exact rfl
  case hw15b => exact rfl
  intro K hK
  have HK15b : Hid _ := hK
  clear hK
  go_simp
  refine (K4.out _ (H2.out.1.call I3.out)).mono ?_
  rintro e w4 ⟨rfl, hq⟩
  have I4 : Hid (Below w2.heap.size w2 w4) := below_call0 I3.out hq
  clear hq
  go_wp2_with fail
  refine HK15b.out _ _ ⟨I4.out, ?_⟩
  clear HK15b K
  try simp only [Act.put, List.setIfInBounds_toArray, List.set_cons_zero, List.set_cons_succ]
  refine wpAnyH_take (i := 16) (oi := ?o16b) (v := ?v16b) ?hi16b (by kernel_rfl) (by kernel_rfl) (by kernel_rfl) ?hQ16b ?hy16b I4.out ?more16b
  case hi16b => rw [List.getElem?_toArray]; exact rfl
  case hQ16b => exact fun _ _ _ h => h
  case hy16b =>
    refine Or.inl ⟨by rfl, ?_⟩
    intro w' hSw
    clear hSw
    go_simp
    try with_reducible rfl
  simp only [Act.put, List.setIfInBounds_toArray, List.set_cons_zero, List.set_cons_succ]
  refine wpAnyH_done (by kernel_rfl) ?_ _
  go_wp2_with fail
  go_ret
  exact ⟨rfl, below_call0 H2.out.2.2.2 I4.out⟩
set_option maxRecDepth 100000 in
set_option maxHeartbeats 2000000 in
theorem pcheck_off (g b o x y : Nat) (hX : x < R256) (hY : y < R256) (hx : x < PP) (hy : y < PP) (hc : mM y y ≠ sqM x) (w : World) (hM : FieldB w g PP) (hP : PointB w b o x y false) :
    Calls Tryd.prog 48 #[.agg #[.pointer (some ⟨g, 0, none⟩)], .pointer (some ⟨b, o, none⟩)] w fun e w' => e = .returned (.int .i64 30) ∧ Below w.heap.size w w' := by
  have K1 : Hid (∀ w, FieldB w g PP → Calls Tryd.prog 31 #[.pointer (some ⟨g, 0, none⟩), .agg #[.int .u64 (limb (x) 0 : Nat), .int .u64 (limb (x) 1 : Nat), .int .u64 (limb (x) 2 : Nat), .int .u64 (limb (x) 3 : Nat)]] w fun e w' => e = .returned (.int .i64 0) ∧ Below w.heap.size w w') := fun w h => by
    have k := check_any g PP x hX FM_P.2.1 w h
    unfold chkN at k
    rw [if_pos hx] at k
    exact k
  have K2 : Hid (∀ w, FieldB w g PP → Calls Tryd.prog 31 #[.pointer (some ⟨g, 0, none⟩), .agg #[.int .u64 (limb (y) 0 : Nat), .int .u64 (limb (y) 1 : Nat), .int .u64 (limb (y) 2 : Nat), .int .u64 (limb (y) 3 : Nat)]] w fun e w' => e = .returned (.int .i64 0) ∧ Below w.heap.size w w') := fun w h => by
    have k := check_any g PP y hY FM_P.2.1 w h
    unfold chkN at k
    rw [if_pos hy] at k
    exact k
  obtain ⟨a, ea⟩ : ∃ a, a = mM y y := ⟨_, rfl⟩
  obtain ⟨c, ec⟩ : ∃ c, c = sqM x := ⟨_, rfl⟩
  have K3 : Hid (∀ w, FieldB w g PP → Calls Tryd.prog 62 #[.agg #[.pointer (some ⟨g, 0, none⟩)], .agg #[.int .u64 (limb (y) 0 : Nat), .int .u64 (limb (y) 1 : Nat), .int .u64 (limb (y) 2 : Nat), .int .u64 (limb (y) 3 : Nat)], .agg #[.int .u64 (limb (y) 0 : Nat), .int .u64 (limb (y) 1 : Nat), .int .u64 (limb (y) 2 : Nat), .int .u64 (limb (y) 3 : Nat)]] w fun e w' => e = .returned (.agg #[.int .u64 (limb (a) 0 : Nat), .int .u64 (limb (a) 1 : Nat), .int .u64 (limb (a) 2 : Nat), .int .u64 (limb (a) 3 : Nat)]) ∧ Below w.heap.size w w') := fun w h => by have k := ptimes_any g y y hy hy w h; rw [← ea] at k; exact k
  have K4 : Hid (∀ w, FieldB w g PP → Calls Tryd.prog 63 #[.agg #[.pointer (some ⟨g, 0, none⟩)], .agg #[.int .u64 (limb (x) 0 : Nat), .int .u64 (limb (x) 1 : Nat), .int .u64 (limb (x) 2 : Nat), .int .u64 (limb (x) 3 : Nat)]] w fun e w' => e = .returned (.agg #[.int .u64 (limb (c) 0 : Nat), .int .u64 (limb (c) 1 : Nat), .int .u64 (limb (c) 2 : Nat), .int .u64 (limb (c) 3 : Nat)]) ∧ Below w.heap.size w w') := fun w h => by have k := psquare_any g x hx w h; rw [← ec] at k; exact k
  have he : eq4 (limb a 0 : Nat) (limb a 1 : Nat) (limb a 2 : Nat) (limb a 3 : Nat) (limb c 0 : Nat) (limb c 1 : Nat) (limb c 2 : Nat) (limb c 3 : Nat) = false := by
    rw [eq4_num a c (by rw [ea]; exact Nat.lt_trans (mM_lt _ _) FM_P.2.1) (by rw [ec]; exact Nat.lt_trans (sqM_lt _) FM_P.2.1), ea, ec]
    exact decide_eq_false hc
  obtain ⟨w0, hw0⟩ : ∃ z, z = (w.alloc (.cells #[.pointer (some ⟨g, 0, none⟩)] 91)) := ⟨_, rfl⟩
  have H0 : Hid (FieldB w0 g PP ∧ PlB w0 w.heap.size g ∧ PointB w0 b o x y false ∧ Below w.heap.size w w0) := by
    rw [hw0]
    exact ⟨hM.alloc, PlB.new _ _ _, hP.alloc, below_alloc0 (Below.refl _ _) _⟩
  clear hM hP hX hY hx hy hc ea ec
  go_enter Tryd.func48, Tryd.ntmps48
  go_upto_region 1 with fail
  rw [← hw0]
  clear hw0
  obtain ⟨pz, p0, p1, p2, p3, p4, p5, p6, p7, p8⟩ := H0.out.2.2.1
  go_wp2_with fail
  clear pz p0 p1 p2 p3 p4 p5 p6 p7 p8
  refine wp_region_H (fun w' => Below w0.heap.size w0 w') 18 rfl (by kernel_rfl) ?_
  refine wpAnyH_take (i := 0) (oi := ?o0a) (v := ?v0a) ?hi0a (by kernel_rfl) (by kernel_rfl) (by kernel_rfl) ?hQ0a ?hy0a (Below.drew (Below.refl _ _)) ?more0a
  case hi0a => rw [List.getElem?_toArray]; exact rfl
  case hQ0a => exact fun _ _ _ h => h
  case hy0a =>
    refine Or.inl ⟨by rfl, ?_⟩
    intro w' hSw
    clear hSw
    go_simp
    try with_reducible rfl
  simp only [Act.put, List.setIfInBounds_toArray, List.set_cons_zero, List.set_cons_succ]
  refine wpAnyH_take (i := 1) (oi := ?o1a) (v := ?v1a) ?hi1a (by kernel_rfl) (by kernel_rfl) (by kernel_rfl) ?hQ1a ?hy1a (Below.drew (Below.refl _ _)) ?more1a
  case hi1a => rw [List.getElem?_toArray]; exact rfl
  case hQ1a => exact fun _ _ _ h => h
  case hy1a =>
    refine Or.inl ⟨by rfl, ?_⟩
    intro w' hSw
    obtain ⟨q0, qz⟩ := H0.out.2.1.call hSw
    obtain ⟨pz, p0, p1, p2, p3, p4, p5, p6, p7, p8⟩ := H0.out.2.2.1.call hSw
    clear hSw
    go_simp
    try with_reducible rfl
  simp only [Act.put, List.setIfInBounds_toArray, List.set_cons_zero, List.set_cons_succ]
  refine wpAnyH_take (i := 2) (oi := ?o2a) (v := ?v2a) ?hi2a (by kernel_rfl) (by kernel_rfl) (by kernel_rfl) ?hQ2a ?hy2a (Below.drew (Below.refl _ _)) ?more2a
  case hi2a => rw [List.getElem?_toArray]; exact rfl
  case hQ2a => exact fun _ _ _ h => h
  case hy2a =>
    refine Or.inl ⟨by rfl, ?_⟩
    intro w' hSw
    clear hSw
    go_simp
    try with_reducible rfl
  simp only [Act.put, List.setIfInBounds_toArray, List.set_cons_zero, List.set_cons_succ]
  refine wpAnyH_take (i := 3) (oi := ?o3a) (v := ?v3a) ?hi3a (by kernel_rfl) (by kernel_rfl) (by kernel_rfl) ?hQ3a ?hy3a (Below.drew (Below.refl _ _)) ?more3a
  case hi3a => rw [List.getElem?_toArray]; exact rfl
  case hQ3a => exact fun _ _ _ h => h
  case hy3a =>
    refine Or.inl ⟨by rfl, ?_⟩
    intro w' hSw
    clear hSw
    go_simp
    try with_reducible rfl
  simp only [Act.put, List.setIfInBounds_toArray, List.set_cons_zero, List.set_cons_succ]
  refine wpAnyH_take (i := 4) (oi := ?o4a) (v := ?v4a) ?hi4a (by kernel_rfl) (by kernel_rfl) (by kernel_rfl) ?hQ4a ?hy4a (Below.drew (Below.refl _ _)) ?more4a
  case hi4a => rw [List.getElem?_toArray]; exact rfl
  case hQ4a => exact fun _ _ _ h => h
  case hy4a =>
    refine Or.inl ⟨by rfl, ?_⟩
    intro w' hSw
    clear hSw
    go_simp
    try with_reducible rfl
  simp only [Act.put, List.setIfInBounds_toArray, List.set_cons_zero, List.set_cons_succ]
  refine wpAnyH_take (i := 5) (oi := ?o5a) (v := ?v5a) ?hi5a (by kernel_rfl) (by kernel_rfl) (by kernel_rfl) ?hQ5a ?hy5a (Below.drew (Below.refl _ _)) ?more5a
  case hi5a => rw [List.getElem?_toArray]; exact rfl
  case hQ5a => exact fun _ _ _ h => h
  case hy5a =>
    refine Or.inl ⟨by rfl, ?_⟩
    intro w' hSw
    obtain ⟨q0, qz⟩ := H0.out.2.1.call hSw
    obtain ⟨pz, p0, p1, p2, p3, p4, p5, p6, p7, p8⟩ := H0.out.2.2.1.call hSw
    clear hSw
    go_simp
    try with_reducible rfl
  simp only [Act.put, List.setIfInBounds_toArray, List.set_cons_zero, List.set_cons_succ]
  refine wpAnyH_one (i := 6) (o := ?o6a) (by kernel_rfl) ?hi6a ?hw6a ?st6a
  case hi6a => rw [List.getElem?_toArray]; exact rfl
  case hw6a => exact rfl
  intro K hK
  have HK6a : Hid _ := hK
  clear hK
  go_simp
  refine (K1.out _ (H0.out.1.call (Below.drew (Below.refl _ _)))).mono ?_
  rintro e w1 ⟨rfl, hq⟩
  have I1 : Hid (Below w0.heap.size w0 w1) := below_call0 (Below.drew (Below.refl _ _)) hq
  clear hq
  go_wp2_with fail
  refine HK6a.out _ _ ⟨I1.out, ?_⟩
  clear HK6a K
  try simp only [Act.put, List.setIfInBounds_toArray, List.set_cons_zero, List.set_cons_succ]
  refine wpAnyH_take (i := 7) (oi := ?o7a) (v := ?v7a) ?hi7a (by kernel_rfl) (by kernel_rfl) (by kernel_rfl) ?hQ7a ?hy7a I1.out ?more7a
  case hi7a => rw [List.getElem?_toArray]; exact rfl
  case hQ7a => exact fun _ _ _ h => h
  case hy7a =>
    refine Or.inl ⟨by rfl, ?_⟩
    intro w' hSw
    clear hSw
    go_simp
    try with_reducible rfl
  simp only [Act.put, List.setIfInBounds_toArray, List.set_cons_zero, List.set_cons_succ]
  refine wpAnyH_take (i := 8) (oi := ?o8a) (v := ?v8a) ?hi8a (by kernel_rfl) (by kernel_rfl) (by kernel_rfl) ?hQ8a ?hy8a I1.out ?more8a
  case hi8a => rw [List.getElem?_toArray]; exact rfl
  case hQ8a => exact fun _ _ _ h => h
  case hy8a =>
    refine Or.inl ⟨by rfl, ?_⟩
    intro w' hSw
    clear hSw
    go_simp
    try with_reducible rfl
  simp only [Act.put, List.setIfInBounds_toArray, List.set_cons_zero, List.set_cons_succ]
  refine wpAnyH_take (i := 9) (oi := ?o9a) (v := ?v9a) ?hi9a (by kernel_rfl) (by kernel_rfl) (by kernel_rfl) ?hQ9a ?hy9a I1.out ?more9a
  case hi9a => rw [List.getElem?_toArray]; exact rfl
  case hQ9a => exact fun _ _ _ h => h
  case hy9a =>
    refine Or.inl ⟨by rfl, ?_⟩
    intro w' hSw
    clear hSw
    go_simp
    try with_reducible rfl
  simp only [Act.put, List.setIfInBounds_toArray, List.set_cons_zero, List.set_cons_succ]
  refine wpAnyH_take (i := 10) (oi := ?o10a) (v := ?v10a) ?hi10a (by kernel_rfl) (by kernel_rfl) (by kernel_rfl) ?hQ10a ?hy10a I1.out ?more10a
  case hi10a => rw [List.getElem?_toArray]; exact rfl
  case hQ10a => exact fun _ _ _ h => h
  case hy10a =>
    refine Or.inl ⟨by rfl, ?_⟩
    intro w' hSw
    obtain ⟨q0, qz⟩ := H0.out.2.1.call hSw
    obtain ⟨pz, p0, p1, p2, p3, p4, p5, p6, p7, p8⟩ := H0.out.2.2.1.call hSw
    clear hSw
    go_simp
    try with_reducible rfl
  simp only [Act.put, List.setIfInBounds_toArray, List.set_cons_zero, List.set_cons_succ]
  refine wpAnyH_take (i := 11) (oi := ?o11a) (v := ?v11a) ?hi11a (by kernel_rfl) (by kernel_rfl) (by kernel_rfl) ?hQ11a ?hy11a I1.out ?more11a
  case hi11a => rw [List.getElem?_toArray]; exact rfl
  case hQ11a => exact fun _ _ _ h => h
  case hy11a =>
    refine Or.inl ⟨by rfl, ?_⟩
    intro w' hSw
    clear hSw
    go_simp
    try with_reducible rfl
  simp only [Act.put, List.setIfInBounds_toArray, List.set_cons_zero, List.set_cons_succ]
  refine wpAnyH_take (i := 12) (oi := ?o12a) (v := ?v12a) ?hi12a (by kernel_rfl) (by kernel_rfl) (by kernel_rfl) ?hQ12a ?hy12a I1.out ?more12a
  case hi12a => rw [List.getElem?_toArray]; exact rfl
  case hQ12a => exact fun _ _ _ h => h
  case hy12a =>
    refine Or.inl ⟨by rfl, ?_⟩
    intro w' hSw
    clear hSw
    go_simp
    try with_reducible rfl
  simp only [Act.put, List.setIfInBounds_toArray, List.set_cons_zero, List.set_cons_succ]
  refine wpAnyH_take (i := 13) (oi := ?o13a) (v := ?v13a) ?hi13a (by kernel_rfl) (by kernel_rfl) (by kernel_rfl) ?hQ13a ?hy13a I1.out ?more13a
  case hi13a => rw [List.getElem?_toArray]; exact rfl
  case hQ13a => exact fun _ _ _ h => h
  case hy13a =>
    refine Or.inl ⟨by rfl, ?_⟩
    intro w' hSw
    clear hSw
    go_simp
    try with_reducible rfl
  simp only [Act.put, List.setIfInBounds_toArray, List.set_cons_zero, List.set_cons_succ]
  refine wpAnyH_take (i := 14) (oi := ?o14a) (v := ?v14a) ?hi14a (by kernel_rfl) (by kernel_rfl) (by kernel_rfl) ?hQ14a ?hy14a I1.out ?more14a
  case hi14a => rw [List.getElem?_toArray]; exact rfl
  case hQ14a => exact fun _ _ _ h => h
  case hy14a =>
    refine Or.inl ⟨by rfl, ?_⟩
    intro w' hSw
    obtain ⟨q0, qz⟩ := H0.out.2.1.call hSw
    obtain ⟨pz, p0, p1, p2, p3, p4, p5, p6, p7, p8⟩ := H0.out.2.2.1.call hSw
    clear hSw
    go_simp
    try with_reducible rfl
  simp only [Act.put, List.setIfInBounds_toArray, List.set_cons_zero, List.set_cons_succ]
  refine wpAnyH_one (i := 15) (o := ?o15a) (by kernel_rfl) ?hi15a ?hw15a ?st15a
  case hi15a => rw [List.getElem?_toArray]; exact rfl
  case hw15a => exact rfl
  intro K hK
  have HK15a : Hid _ := hK
  clear hK
  go_simp
  refine (K2.out _ (H0.out.1.call I1.out)).mono ?_
  rintro e w2 ⟨rfl, hq⟩
  have I2 : Hid (Below w0.heap.size w0 w2) := below_call0 I1.out hq
  clear hq
  go_wp2_with fail
  refine HK15a.out _ _ ⟨I2.out, ?_⟩
  clear HK15a K
  try simp only [Act.put, List.setIfInBounds_toArray, List.set_cons_zero, List.set_cons_succ]
  refine wpAnyH_take (i := 16) (oi := ?o16a) (v := ?v16a) ?hi16a (by kernel_rfl) (by kernel_rfl) (by kernel_rfl) ?hQ16a ?hy16a I2.out ?more16a
  case hi16a => rw [List.getElem?_toArray]; exact rfl
  case hQ16a => exact fun _ _ _ h => h
  case hy16a =>
    refine Or.inl ⟨by rfl, ?_⟩
    intro w' hSw
    clear hSw
    go_simp
    try with_reducible rfl
  simp only [Act.put, List.setIfInBounds_toArray, List.set_cons_zero, List.set_cons_succ]
  refine wpAnyH_take (i := 17) (oi := ?o17a) (v := ?v17a) ?hi17a (by kernel_rfl) (by kernel_rfl) (by kernel_rfl) ?hQ17a ?hy17a I2.out ?more17a
  case hi17a => rw [List.getElem?_toArray]; exact rfl
  case hQ17a => exact fun _ _ _ h => h
  case hy17a =>
    refine Or.inl ⟨by rfl, ?_⟩
    intro w' hSw
    clear hSw
    go_simp
    try with_reducible rfl
  simp only [Act.put, List.setIfInBounds_toArray, List.set_cons_zero, List.set_cons_succ]
  refine wpAnyH_done (by kernel_rfl) ?_ _
  go_wp2_with fail
  have H2 : Hid (FieldB w2 g PP ∧ PlB w2 w.heap.size g ∧ PointB w2 b o x y false ∧ Below w.heap.size w w2) := ⟨H0.out.1.call I2.out, H0.out.2.1.call I2.out, H0.out.2.2.1.call I2.out, below_call0 H0.out.2.2.2 I2.out⟩
  clear H0 I1 I2
  refine wp_region_H (fun w' => Below w2.heap.size w2 w') 17 rfl (by kernel_rfl) ?_
  refine wpAnyH_take (i := 0) (oi := ?o0b) (v := ?v0b) ?hi0b (by kernel_rfl) (by kernel_rfl) (by kernel_rfl) ?hQ0b ?hy0b (Below.drew (Below.refl _ _)) ?more0b
  case hi0b => rw [List.getElem?_toArray]; exact rfl
  case hQ0b => exact fun _ _ _ h => h
  case hy0b =>
    refine Or.inl ⟨by rfl, ?_⟩
    intro w' hSw
    obtain ⟨q0, qz⟩ := H2.out.2.1.call hSw
    obtain ⟨pz, p0, p1, p2, p3, p4, p5, p6, p7, p8⟩ := H2.out.2.2.1.call hSw
    clear hSw
    go_simp
    try with_reducible rfl
  simp only [Act.put, List.setIfInBounds_toArray, List.set_cons_zero, List.set_cons_succ]
  refine wpAnyH_take (i := 1) (oi := ?o1b) (v := ?v1b) ?hi1b (by kernel_rfl) (by kernel_rfl) (by kernel_rfl) ?hQ1b ?hy1b (Below.drew (Below.refl _ _)) ?more1b
  case hi1b => rw [List.getElem?_toArray]; exact rfl
  case hQ1b => exact fun _ _ _ h => h
  case hy1b =>
    refine Or.inl ⟨by rfl, ?_⟩
    intro w' hSw
    clear hSw
    go_simp
    try with_reducible rfl
  simp only [Act.put, List.setIfInBounds_toArray, List.set_cons_zero, List.set_cons_succ]
  refine wpAnyH_take (i := 2) (oi := ?o2b) (v := ?v2b) ?hi2b (by kernel_rfl) (by kernel_rfl) (by kernel_rfl) ?hQ2b ?hy2b (Below.drew (Below.refl _ _)) ?more2b
  case hi2b => rw [List.getElem?_toArray]; exact rfl
  case hQ2b => exact fun _ _ _ h => h
  case hy2b =>
    refine Or.inl ⟨by rfl, ?_⟩
    intro w' hSw
    clear hSw
    go_simp
    try with_reducible rfl
  simp only [Act.put, List.setIfInBounds_toArray, List.set_cons_zero, List.set_cons_succ]
  refine wpAnyH_take (i := 3) (oi := ?o3b) (v := ?v3b) ?hi3b (by kernel_rfl) (by kernel_rfl) (by kernel_rfl) ?hQ3b ?hy3b (Below.drew (Below.refl _ _)) ?more3b
  case hi3b => rw [List.getElem?_toArray]; exact rfl
  case hQ3b => exact fun _ _ _ h => h
  case hy3b =>
    refine Or.inl ⟨by rfl, ?_⟩
    intro w' hSw
    clear hSw
    go_simp
    try with_reducible rfl
  simp only [Act.put, List.setIfInBounds_toArray, List.set_cons_zero, List.set_cons_succ]
  refine wpAnyH_take (i := 4) (oi := ?o4b) (v := ?v4b) ?hi4b (by kernel_rfl) (by kernel_rfl) (by kernel_rfl) ?hQ4b ?hy4b (Below.drew (Below.refl _ _)) ?more4b
  case hi4b => rw [List.getElem?_toArray]; exact rfl
  case hQ4b => exact fun _ _ _ h => h
  case hy4b =>
    refine Or.inl ⟨by rfl, ?_⟩
    intro w' hSw
    obtain ⟨q0, qz⟩ := H2.out.2.1.call hSw
    obtain ⟨pz, p0, p1, p2, p3, p4, p5, p6, p7, p8⟩ := H2.out.2.2.1.call hSw
    clear hSw
    go_simp
    try with_reducible rfl
  simp only [Act.put, List.setIfInBounds_toArray, List.set_cons_zero, List.set_cons_succ]
  refine wpAnyH_take (i := 5) (oi := ?o5b) (v := ?v5b) ?hi5b (by kernel_rfl) (by kernel_rfl) (by kernel_rfl) ?hQ5b ?hy5b (Below.drew (Below.refl _ _)) ?more5b
  case hi5b => rw [List.getElem?_toArray]; exact rfl
  case hQ5b => exact fun _ _ _ h => h
  case hy5b =>
    refine Or.inl ⟨by rfl, ?_⟩
    intro w' hSw
    clear hSw
    go_simp
    try with_reducible rfl
  simp only [Act.put, List.setIfInBounds_toArray, List.set_cons_zero, List.set_cons_succ]
  refine wpAnyH_take (i := 6) (oi := ?o6b) (v := ?v6b) ?hi6b (by kernel_rfl) (by kernel_rfl) (by kernel_rfl) ?hQ6b ?hy6b (Below.drew (Below.refl _ _)) ?more6b
  case hi6b => rw [List.getElem?_toArray]; exact rfl
  case hQ6b => exact fun _ _ _ h => h
  case hy6b =>
    refine Or.inl ⟨by rfl, ?_⟩
    intro w' hSw
    clear hSw
    go_simp
    try with_reducible rfl
  simp only [Act.put, List.setIfInBounds_toArray, List.set_cons_zero, List.set_cons_succ]
  refine wpAnyH_take (i := 7) (oi := ?o7b) (v := ?v7b) ?hi7b (by kernel_rfl) (by kernel_rfl) (by kernel_rfl) ?hQ7b ?hy7b (Below.drew (Below.refl _ _)) ?more7b
  case hi7b => rw [List.getElem?_toArray]; exact rfl
  case hQ7b => exact fun _ _ _ h => h
  case hy7b =>
    refine Or.inl ⟨by rfl, ?_⟩
    intro w' hSw
    clear hSw
    go_simp
    try with_reducible rfl
  simp only [Act.put, List.setIfInBounds_toArray, List.set_cons_zero, List.set_cons_succ]
  refine wpAnyH_take (i := 8) (oi := ?o8b) (v := ?v8b) ?hi8b (by kernel_rfl) (by kernel_rfl) (by kernel_rfl) ?hQ8b ?hy8b (Below.drew (Below.refl _ _)) ?more8b
  case hi8b => rw [List.getElem?_toArray]; exact rfl
  case hQ8b => exact fun _ _ _ h => h
  case hy8b =>
    refine Or.inl ⟨by rfl, ?_⟩
    intro w' hSw
    obtain ⟨q0, qz⟩ := H2.out.2.1.call hSw
    obtain ⟨pz, p0, p1, p2, p3, p4, p5, p6, p7, p8⟩ := H2.out.2.2.1.call hSw
    clear hSw
    go_simp
    try with_reducible rfl
  simp only [Act.put, List.setIfInBounds_toArray, List.set_cons_zero, List.set_cons_succ]
  refine wpAnyH_take (i := 10) (oi := ?o10b) (v := ?v10b) ?hi10b (by kernel_rfl) (by kernel_rfl) (by kernel_rfl) ?hQ10b ?hy10b (Below.drew (Below.refl _ _)) ?more10b
  case hi10b => rw [List.getElem?_toArray]; exact rfl
  case hQ10b => exact fun _ _ _ h => h
  case hy10b =>
    refine Or.inl ⟨by rfl, ?_⟩
    intro w' hSw
    obtain ⟨q0, qz⟩ := H2.out.2.1.call hSw
    obtain ⟨pz, p0, p1, p2, p3, p4, p5, p6, p7, p8⟩ := H2.out.2.2.1.call hSw
    clear hSw
    go_simp
    try with_reducible rfl
  simp only [Act.put, List.setIfInBounds_toArray, List.set_cons_zero, List.set_cons_succ]
  refine wpAnyH_take (i := 11) (oi := ?o11b) (v := ?v11b) ?hi11b (by kernel_rfl) (by kernel_rfl) (by kernel_rfl) ?hQ11b ?hy11b (Below.drew (Below.refl _ _)) ?more11b
  case hi11b => rw [List.getElem?_toArray]; exact rfl
  case hQ11b => exact fun _ _ _ h => h
  case hy11b =>
    refine Or.inl ⟨by rfl, ?_⟩
    intro w' hSw
    clear hSw
    go_simp
    try with_reducible rfl
  simp only [Act.put, List.setIfInBounds_toArray, List.set_cons_zero, List.set_cons_succ]
  refine wpAnyH_take (i := 12) (oi := ?o12b) (v := ?v12b) ?hi12b (by kernel_rfl) (by kernel_rfl) (by kernel_rfl) ?hQ12b ?hy12b (Below.drew (Below.refl _ _)) ?more12b
  case hi12b => rw [List.getElem?_toArray]; exact rfl
  case hQ12b => exact fun _ _ _ h => h
  case hy12b =>
    refine Or.inl ⟨by rfl, ?_⟩
    intro w' hSw
    clear hSw
    go_simp
    try with_reducible rfl
  simp only [Act.put, List.setIfInBounds_toArray, List.set_cons_zero, List.set_cons_succ]
  refine wpAnyH_take (i := 13) (oi := ?o13b) (v := ?v13b) ?hi13b (by kernel_rfl) (by kernel_rfl) (by kernel_rfl) ?hQ13b ?hy13b (Below.drew (Below.refl _ _)) ?more13b
  case hi13b => rw [List.getElem?_toArray]; exact rfl
  case hQ13b => exact fun _ _ _ h => h
  case hy13b =>
    refine Or.inl ⟨by rfl, ?_⟩
    intro w' hSw
    clear hSw
    go_simp
    try with_reducible rfl
  simp only [Act.put, List.setIfInBounds_toArray, List.set_cons_zero, List.set_cons_succ]
  refine wpAnyH_take (i := 14) (oi := ?o14b) (v := ?v14b) ?hi14b (by kernel_rfl) (by kernel_rfl) (by kernel_rfl) ?hQ14b ?hy14b (Below.drew (Below.refl _ _)) ?more14b
  case hi14b => rw [List.getElem?_toArray]; exact rfl
  case hQ14b => exact fun _ _ _ h => h
  case hy14b =>
    refine Or.inl ⟨by rfl, ?_⟩
    intro w' hSw
    obtain ⟨q0, qz⟩ := H2.out.2.1.call hSw
    obtain ⟨pz, p0, p1, p2, p3, p4, p5, p6, p7, p8⟩ := H2.out.2.2.1.call hSw
    clear hSw
    go_simp
    try with_reducible rfl
  simp only [Act.put, List.setIfInBounds_toArray, List.set_cons_zero, List.set_cons_succ]
  refine wpAnyH_one (i := 9) (o := ?o9b) (by kernel_rfl) ?hi9b ?hw9b ?st9b
  case hi9b => rw [List.getElem?_toArray]; exact rfl
  case hw9b => exact rfl
  intro K hK
  have HK9b : Hid _ := hK
  clear hK
  go_simp
  refine (K3.out _ (H2.out.1.call (Below.drew (Below.refl _ _)))).mono ?_
  rintro e w3 ⟨rfl, hq⟩
  have I3 : Hid (Below w2.heap.size w2 w3) := below_call0 (Below.drew (Below.refl _ _)) hq
  clear hq
  go_wp2_with fail
  refine HK9b.out _ _ ⟨I3.out, ?_⟩
  clear HK9b K
  try simp only [Act.put, List.setIfInBounds_toArray, List.set_cons_zero, List.set_cons_succ]
  refine wpAnyH_one (i := 15) (o := ?o15b) (by kernel_rfl) ?hi15b ?hw15b ?st15b
  case hi15b => rw [List.getElem?_toArray]; exact rfl
  case hw15b => exact rfl
  intro K hK
  have HK15b : Hid _ := hK
  clear hK
  go_simp
  refine (K4.out _ (H2.out.1.call I3.out)).mono ?_
  rintro e w4 ⟨rfl, hq⟩
  have I4 : Hid (Below w2.heap.size w2 w4) := below_call0 I3.out hq
  clear hq
  go_wp2_with fail
  refine HK15b.out _ _ ⟨I4.out, ?_⟩
  clear HK15b K
  try simp only [Act.put, List.setIfInBounds_toArray, List.set_cons_zero, List.set_cons_succ]
  refine wpAnyH_take (i := 16) (oi := ?o16b) (v := ?v16b) ?hi16b (by kernel_rfl) (by kernel_rfl) (by kernel_rfl) ?hQ16b ?hy16b I4.out ?more16b
  case hi16b => rw [List.getElem?_toArray]; exact rfl
  case hQ16b => exact fun _ _ _ h => h
  case hy16b =>
    refine Or.inl ⟨by rfl, ?_⟩
    intro w' hSw
    clear hSw
    go_simp
    try with_reducible rfl
  simp only [Act.put, List.setIfInBounds_toArray, List.set_cons_zero, List.set_cons_succ]
  refine wpAnyH_done (by kernel_rfl) ?_ _
  go_wp2_with fail
  go_ret
  exact ⟨rfl, below_call0 H2.out.2.2.2 I4.out⟩
end Go.Proofs.YtchphekaonnfeaaDoor
