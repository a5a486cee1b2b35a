/- Package curve: the point where a spot is. -/
import Derived.Test.YtgmfecncfekjfaaDoorCvF
import Derived.Test.YtgmfecncfekjfaaDoorHeldB
import Derived.Deep.DeepCutAuto
namespace Go.Proofs.YtgmfecncfekjfaaDoor
open Go Go.RowKit Go.Lib
attribute [local go_sem] run_eq4

theorem Pend.newC {W : World} {b : Nat} {t : TypeId} (h : b = W.heap.size) : Pend (W.alloc (.cells #[.int .u64 0, .int .u64 0, .int .u64 0, .int .u64 0] t)) b := by subst h; exact Pend.new W t
set_option maxRecDepth 100000 in
set_option maxHeartbeats 2000000 in
theorem spoint_zero (s g x y : Nat) (w : World) (hS : SpotB w s g x y 0) :
  Calls Tryd.prog 32 #[.pointer (some ⟨s, 0, none⟩)] w fun e w' => e = .returned (.agg #[.int .u64 0, .int .u64 0, .int .u64 0, .int .u64 0, .int .u64 0, .int .u64 0, .int .u64 0, .int .u64 0, .bool true]) ∧ Below w.heap.size w w' := by
 obtain ⟨w0, hw0⟩ : ∃ z, z = (w.alloc (.cells #[.int .u64 0, .int .u64 0, .int .u64 0, .int .u64 0, .int .u64 0, .int .u64 0, .int .u64 0, .int .u64 0, .bool false] 26)) := ⟨_, rfl⟩
 have H0 : Hid (SpotB w0 s g x y 0 ∧ PtZ w0 w.heap.size ∧ Below w.heap.size w w0) := by
  rw [hw0]
  exact ⟨hS.alloc, PtZ.new _ rfl, below_alloc0 (Below.refl _ _) _⟩
 clear hS
 go_enter Tryd.func32, Tryd.ntmps32
 go_upto_region 1 with fail
 rw [← hw0]
 clear hw0
 obtain ⟨sz, sg, sx0, sx1, sx2, sx3, sy0, sy1, sy2, sy3, sz0, sz1, sz2, sz3, sf⟩ := H0.out.1
 rw [lit0.1] at sz0
 rw [lit0.2.1] at sz1
 rw [lit0.2.2.1] at sz2
 rw [lit0.2.2.2] at sz3
 have e0 : eq4 0 0 0 0 0 0 0 0 = true := rfl
 obtain ⟨rz, r0, r1, r2, r3, r4, r5, r6, r7, r8, fr⟩ := H0.out.2.1
 go_wp2_with fail
 clear sz sg sx0 sx1 sx2 sx3 sy0 sy1 sy2 sy3 sz0 sz1 sz2 sz3 sf rz r0 r1 r2 r3 r4 r5 r6 r7 r8 fr
 obtain ⟨w3, hw3⟩ : ∃ z, z = (((((((((w0.setCell ⟨w.heap.size, 0, none⟩ (.int .u64 (limb 0 0 : Nat))).setCell ⟨w.heap.size, 1, none⟩ (.int .u64 (limb 0 1 : Nat))).setCell ⟨w.heap.size, 2, none⟩ (.int .u64 (limb 0 2 : Nat))).setCell ⟨w.heap.size, 3, none⟩ (.int .u64 (limb 0 3 : Nat))).setCell ⟨w.heap.size, 4, none⟩ (.int .u64 (limb 0 0 : Nat))).setCell ⟨w.heap.size, 5, none⟩ (.int .u64 (limb 0 1 : Nat))).setCell ⟨w.heap.size, 6, none⟩ (.int .u64 (limb 0 2 : Nat))).setCell ⟨w.heap.size, 7, none⟩ (.int .u64 (limb 0 3 : Nat))).setCell ⟨w.heap.size, 8, none⟩ (.bool true)) := ⟨_, rfl⟩
 have H3 : PointO w3 w.heap.size 0 0 true ∧ Below w.heap.size w w3 := by
  rw [hw3]
  exact ⟨H0.out.2.1.put, below_put9 H0.out.2.2 (Nat.le_refl _)⟩
 rw [lit0.1, lit0.2.1, lit0.2.2.1, lit0.2.2.2] at hw3
 rw [← hw3]
 clear hw3
 obtain ⟨⟨rz, r0, r1, r2, r3, r4, r5, r6, r7, r8, fr⟩, hB⟩ := H3
 refine bodyPost_ret (v := .agg #[.int .u64 0, .int .u64 0, .int .u64 0, .int .u64 0, .int .u64 0, .int .u64 0, .int .u64 0, .int .u64 0, .bool true]) ?_ rfl ⟨rfl, hB⟩
 simp [results, Tryd.results32, go_sem, r0, r1, r2, r3, r4, r5, r6, r7, r8, lit0.1, lit0.2.1, lit0.2.2.1, lit0.2.2.2]
set_option maxRecDepth 100000 in
set_option maxHeartbeats 4000000 in
theorem spoint_fin (s g x y z i q : Nat) (hx : x < PP) (hy : y < PP) (hz : z < PP) (h0 : z ≠ 0) (hi : i = z ^ (PP - 2) % PP) (hq : q = mM i i) (w : World) (hM : FieldB w g PP) (hS : SpotB w s g x y z) :
  Calls Tryd.prog 32 #[.pointer (some ⟨s, 0, none⟩)] w fun e w' => e = .returned (.agg #[.int .u64 (limb (mM x q) 0 : Nat), .int .u64 (limb (mM x q) 1 : Nat), .int .u64 (limb (mM x q) 2 : Nat), .int .u64 (limb (mM x q) 3 : Nat), .int .u64 (limb (mM y (mM q i)) 0 : Nat), .int .u64 (limb (mM y (mM q i)) 1 : Nat), .int .u64 (limb (mM y (mM q i)) 2 : Nat), .int .u64 (limb (mM y (mM q i)) 3 : Nat), .bool false]) ∧ Below w.heap.size w w' := by
 have li : i < PP := by rw [hi]; exact Nat.mod_lt _ PPpos
 have lq : q < PP := by rw [hq]; exact mM_lt _ _
 obtain ⟨t, et⟩ : ∃ t, t = mM q i := ⟨_, rfl⟩
 obtain ⟨X, eX⟩ : ∃ X, X = mM x q := ⟨_, rfl⟩
 obtain ⟨Y, eY⟩ : ∃ Y, Y = mM y t := ⟨_, rfl⟩
 have lt : t < PP := by rw [et]; exact mM_lt _ _
 have K1 : Hid (∀ w, FieldB w g PP → Calls Tryd.prog 67 #[.pointer (some ⟨g, 0, none⟩), .agg #[.int .u64 (limb (z) 0 : Nat), .int .u64 (limb (z) 1 : Nat), .int .u64 (limb (z) 2 : Nat), .int .u64 (limb (z) 3 : Nat)]] w fun e w' => e = .returned (.tuple #[.agg #[.int .u64 (limb (i) 0 : Nat), .int .u64 (limb (i) 1 : Nat), .int .u64 (limb (i) 2 : Nat), .int .u64 (limb (i) 3 : Nat)], .int .i64 0]) ∧ Below w.heap.size w w') := fun w h => finv_in g PP z i FM_P hz h0 hi w h
 have K2 : Hid (∀ w, FieldB w g PP → Calls Tryd.prog 62 #[.agg #[.pointer (some ⟨g, 0, none⟩)], .agg #[.int .u64 (limb (i) 0 : Nat), .int .u64 (limb (i) 1 : Nat), .int .u64 (limb (i) 2 : Nat), .int .u64 (limb (i) 3 : Nat)], .agg #[.int .u64 (limb (i) 0 : Nat), .int .u64 (limb (i) 1 : Nat), .int .u64 (limb (i) 2 : Nat), .int .u64 (limb (i) 3 : Nat)]] w fun e w' => e = .returned (.agg #[.int .u64 (limb (q) 0 : Nat), .int .u64 (limb (q) 1 : Nat), .int .u64 (limb (q) 2 : Nat), .int .u64 (limb (q) 3 : Nat)]) ∧ Below w.heap.size w w') := fun w h => by have k := ptimes_any g i i li li w h; rw [← hq] at k; exact k
 have K3 : Hid (∀ w, FieldB w g PP → Calls Tryd.prog 62 #[.agg #[.pointer (some ⟨g, 0, none⟩)], .agg #[.int .u64 (limb (x) 0 : Nat), .int .u64 (limb (x) 1 : Nat), .int .u64 (limb (x) 2 : Nat), .int .u64 (limb (x) 3 : Nat)], .agg #[.int .u64 (limb (q) 0 : Nat), .int .u64 (limb (q) 1 : Nat), .int .u64 (limb (q) 2 : Nat), .int .u64 (limb (q) 3 : Nat)]] w fun e w' => e = .returned (.agg #[.int .u64 (limb (X) 0 : Nat), .int .u64 (limb (X) 1 : Nat), .int .u64 (limb (X) 2 : Nat), .int .u64 (limb (X) 3 : Nat)]) ∧ Below w.heap.size w w') := fun w h => by have k := ptimes_any g x q hx lq w h; rw [← eX] at k; exact k
 have K4 : Hid (∀ w, FieldB w g PP → Calls Tryd.prog 62 #[.agg #[.pointer (some ⟨g, 0, none⟩)], .agg #[.int .u64 (limb (q) 0 : Nat), .int .u64 (limb (q) 1 : Nat), .int .u64 (limb (q) 2 : Nat), .int .u64 (limb (q) 3 : Nat)], .agg #[.int .u64 (limb (i) 0 : Nat), .int .u64 (limb (i) 1 : Nat), .int .u64 (limb (i) 2 : Nat), .int .u64 (limb (i) 3 : Nat)]] w fun e w' => e = .returned (.agg #[.int .u64 (limb (t) 0 : Nat), .int .u64 (limb (t) 1 : Nat), .int .u64 (limb (t) 2 : Nat), .int .u64 (limb (t) 3 : Nat)]) ∧ Below w.heap.size w w') := fun w h => by have k := ptimes_any g q i lq li w h; rw [← et] at k; exact k
 have K5 : Hid (∀ w, FieldB w g PP → Calls Tryd.prog 62 #[.agg #[.pointer (some ⟨g, 0, none⟩)], .agg #[.int .u64 (limb (y) 0 : Nat), .int .u64 (limb (y) 1 : Nat), .int .u64 (limb (y) 2 : Nat), .int .u64 (limb (y) 3 : Nat)], .agg #[.int .u64 (limb (t) 0 : Nat), .int .u64 (limb (t) 1 : Nat), .int .u64 (limb (t) 2 : Nat), .int .u64 (limb (t) 3 : Nat)]] w fun e w' => e = .returned (.agg #[.int .u64 (limb (Y) 0 : Nat), .int .u64 (limb (Y) 1 : Nat), .int .u64 (limb (Y) 2 : Nat), .int .u64 (limb (Y) 3 : Nat)]) ∧ Below w.heap.size w w') := fun w h => by have k := ptimes_any g y t hy lt w h; rw [← eY] at k; exact k
 have e0 : eq4 (limb z 0 : Nat) (limb z 1 : Nat) (limb z 2 : Nat) (limb z 3 : Nat) 0 0 0 0 = false := by
  rw [eq4_zeroC z (Nat.lt_trans hz FM_P.2.1)]; exact decide_eq_false h0
 rw [← et, ← eY, ← eX]
 obtain ⟨w0, hw0⟩ : ∃ z, z = (w.alloc (.cells #[.int .u64 0, .int .u64 0, .int .u64 0, .int .u64 0, .int .u64 0, .int .u64 0, .int .u64 0, .int .u64 0, .bool false] 26)) := ⟨_, rfl⟩
 have H0 : Hid (FieldB w0 g PP ∧ SpotB w0 s g x y z ∧ PtZ w0 w.heap.size ∧ Below w.heap.size w w0) := by
  rw [hw0]
  exact ⟨hM.alloc, hS.alloc, PtZ.new _ rfl, below_alloc0 (Below.refl _ _) _⟩
 clear hS hM hx hy hz h0 hi hq li lq lt et eX eY
 go_enter Tryd.func32, Tryd.ntmps32
 go_upto_region 1 with fail
 rw [← hw0]
 clear hw0
 obtain ⟨sz, sg, sx0, sx1, sx2, sx3, sy0, sy1, sy2, sy3, sz0, sz1, sz2, sz3, sf⟩ := H0.out.2.1
 go_upto_region 3 with fail
 clear sz sg sx0 sx1 sx2 sx3 sy0 sy1 sy2 sy3 sz0 sz1 sz2 sz3 sf e0
 go_cut [3, 4] (fun v3 v4 wx => ∃ bl, v3 = .pointer (some ⟨bl, 0, none⟩) ∧ v4 = .int .i64 0 ∧ Own4 wx bl i ∧ Below w0.heap.size w0 wx)
 case first =>
  refine wp_region_N (fun w' => Below w0.heap.size w0 w') 14 16 rfl (by kernel_rfl) ?_
  refine wpAnyN_take (i := 0) (oi := ?o0a) (v := ?v0a) ?hi0a (by kernel_rfl) (by kernel_rfl) (by kernel_rfl) (by kernel_rfl) (by decide) (by kernel_rfl) ?hQ0a ?hy0a (Below.drew (Below.refl _ _)) ?more0a
  case hi0a => rw [List.getElem?_toArray]; exact rfl
  case hQ0a => exact fun _ _ _ h => h
  case hy0a =>
   refine Or.inl ⟨by rfl, ?_⟩
   intro w' hSw
   obtain ⟨sz, sg, sx0, sx1, sx2, sx3, sy0, sy1, sy2, sy3, sz0, sz1, sz2, sz3, sf⟩ := H0.out.2.1.call hSw
   clear hSw
   go_simp
   try with_reducible rfl
  simp only [Act.put, List.setIfInBounds_toArray, List.set_cons_zero, List.set_cons_succ]
  refine wpAnyN_take (i := 1) (oi := ?o1a) (v := ?v1a) ?hi1a (by kernel_rfl) (by kernel_rfl) (by kernel_rfl) (by kernel_rfl) (by decide) (by kernel_rfl) ?hQ1a ?hy1a (Below.drew (Below.refl _ _)) ?more1a
  case hi1a => rw [List.getElem?_toArray]; exact rfl
  case hQ1a => exact fun _ _ _ h => h
  case hy1a =>
   refine Or.inl ⟨by rfl, ?_⟩
   intro w' hSw
   obtain ⟨sz, sg, sx0, sx1, sx2, sx3, sy0, sy1, sy2, sy3, sz0, sz1, sz2, sz3, sf⟩ := H0.out.2.1.call hSw
   clear hSw
   go_simp
   try with_reducible rfl
  simp only [Act.put, List.setIfInBounds_toArray, List.set_cons_zero, List.set_cons_succ]
  refine wpAnyN_take (i := 2) (oi := ?o2a) (v := ?v2a) ?hi2a (by kernel_rfl) (by kernel_rfl) (by kernel_rfl) (by kernel_rfl) (by decide) (by kernel_rfl) ?hQ2a ?hy2a (Below.drew (Below.refl _ _)) ?more2a
  case hi2a => rw [List.getElem?_toArray]; exact rfl
  case hQ2a => exact fun _ _ _ h => h
  case hy2a =>
   refine Or.inl ⟨by rfl, ?_⟩
   intro w' hSw
   obtain ⟨sz, sg, sx0, sx1, sx2, sx3, sy0, sy1, sy2, sy3, sz0, sz1, sz2, sz3, sf⟩ := H0.out.2.1.call hSw
   clear hSw
   go_simp
   try with_reducible rfl
  simp only [Act.put, List.setIfInBounds_toArray, List.set_cons_zero, List.set_cons_succ]
  refine wpAnyN_take (i := 3) (oi := ?o3a) (v := ?v3a) ?hi3a (by kernel_rfl) (by kernel_rfl) (by kernel_rfl) (by kernel_rfl) (by decide) (by kernel_rfl) ?hQ3a ?hy3a (Below.drew (Below.refl _ _)) ?more3a
  case hi3a => rw [List.getElem?_toArray]; exact rfl
  case hQ3a => exact fun _ _ _ h => h
  case hy3a =>
   refine Or.inl ⟨by rfl, ?_⟩
   intro w' hSw
   obtain ⟨sz, sg, sx0, sx1, sx2, sx3, sy0, sy1, sy2, sy3, sz0, sz1, sz2, sz3, sf⟩ := H0.out.2.1.call hSw
   clear hSw
   go_simp
   try with_reducible rfl
  simp only [Act.put, List.setIfInBounds_toArray, List.set_cons_zero, List.set_cons_succ]
  refine wpAnyN_take (i := 4) (oi := ?o4a) (v := ?v4a) ?hi4a (by kernel_rfl) (by kernel_rfl) (by kernel_rfl) (by kernel_rfl) (by decide) (by kernel_rfl) ?hQ4a ?hy4a (Below.drew (Below.refl _ _)) ?more4a
  case hi4a => rw [List.getElem?_toArray]; exact rfl
  case hQ4a => exact fun _ _ _ h => h
  case hy4a =>
   refine Or.inl ⟨by rfl, ?_⟩
   intro w' hSw
   obtain ⟨sz, sg, sx0, sx1, sx2, sx3, sy0, sy1, sy2, sy3, sz0, sz1, sz2, sz3, sf⟩ := H0.out.2.1.call hSw
   clear hSw
   go_simp
   try with_reducible rfl
  simp only [Act.put, List.setIfInBounds_toArray, List.set_cons_zero, List.set_cons_succ]
  refine wpAnyN_take (i := 5) (oi := ?o5a) (v := ?v5a) ?hi5a (by kernel_rfl) (by kernel_rfl) (by kernel_rfl) (by kernel_rfl) (by decide) (by kernel_rfl) ?hQ5a ?hy5a (Below.drew (Below.refl _ _)) ?more5a
  case hi5a => rw [List.getElem?_toArray]; exact rfl
  case hQ5a => exact fun _ _ _ h => h
  case hy5a =>
   refine Or.inl ⟨by rfl, ?_⟩
   intro w' hSw
   obtain ⟨sz, sg, sx0, sx1, sx2, sx3, sy0, sy1, sy2, sy3, sz0, sz1, sz2, sz3, sf⟩ := H0.out.2.1.call hSw
   clear hSw
   go_simp
   try with_reducible rfl
  simp only [Act.put, List.setIfInBounds_toArray, List.set_cons_zero, List.set_cons_succ]
  refine wpAnyN_take (i := 6) (oi := ?o6a) (v := ?v6a) ?hi6a (by kernel_rfl) (by kernel_rfl) (by kernel_rfl) (by kernel_rfl) (by decide) (by kernel_rfl) ?hQ6a ?hy6a (Below.drew (Below.refl _ _)) ?more6a
  case hi6a => rw [List.getElem?_toArray]; exact rfl
  case hQ6a => exact fun _ _ _ h => h
  case hy6a =>
   refine Or.inl ⟨by rfl, ?_⟩
   intro w' hSw
   obtain ⟨sz, sg, sx0, sx1, sx2, sx3, sy0, sy1, sy2, sy3, sz0, sz1, sz2, sz3, sf⟩ := H0.out.2.1.call hSw
   clear hSw
   go_simp
   try with_reducible rfl
  simp only [Act.put, List.setIfInBounds_toArray, List.set_cons_zero, List.set_cons_succ]
  refine wpAnyN_take (i := 7) (oi := ?o7a) (v := ?v7a) ?hi7a (by kernel_rfl) (by kernel_rfl) (by kernel_rfl) (by kernel_rfl) (by decide) (by kernel_rfl) ?hQ7a ?hy7a (Below.drew (Below.refl _ _)) ?more7a
  case hi7a => rw [List.getElem?_toArray]; exact rfl
  case hQ7a => exact fun _ _ _ h => h
  case hy7a =>
   refine Or.inl ⟨by rfl, ?_⟩
   intro w' hSw
   obtain ⟨sz, sg, sx0, sx1, sx2, sx3, sy0, sy1, sy2, sy3, sz0, sz1, sz2, sz3, sf⟩ := H0.out.2.1.call hSw
   clear hSw
   go_simp
   try with_reducible rfl
  simp only [Act.put, List.setIfInBounds_toArray, List.set_cons_zero, List.set_cons_succ]
  refine wpAnyN_take (i := 8) (oi := ?o8a) (v := ?v8a) ?hi8a (by kernel_rfl) (by kernel_rfl) (by kernel_rfl) (by kernel_rfl) (by decide) (by kernel_rfl) ?hQ8a ?hy8a (Below.drew (Below.refl _ _)) ?more8a
  case hi8a => rw [List.getElem?_toArray]; exact rfl
  case hQ8a => exact fun _ _ _ h => h
  case hy8a =>
   refine Or.inl ⟨by rfl, ?_⟩
   intro w' hSw
   obtain ⟨sz, sg, sx0, sx1, sx2, sx3, sy0, sy1, sy2, sy3, sz0, sz1, sz2, sz3, sf⟩ := H0.out.2.1.call hSw
   clear hSw
   go_simp
   try with_reducible rfl
  simp only [Act.put, List.setIfInBounds_toArray, List.set_cons_zero, List.set_cons_succ]
  refine wpAnyN_two (i := 9) (j := 13) (o := ?o9ax1) (p := ?o13ax1) (by kernel_rfl) ?hi9ax1 ?hi13ax1 ?hw9ax1 ?hw13ax1 ?st9ax1 ?st13ax1
  case hi9ax1 => rw [List.getElem?_toArray]; exact rfl
  case hw9ax1 => exact rfl
  case hi13ax1 => rw [List.getElem?_toArray]; exact rfl
  case hw13ax1 => exact rfl
  case st9ax1 =>
   intro K hK
   have HK9ay2 : Hid _ := hK
   clear hK
   go_simp
   refine (K1.out _ (H0.out.1.call (Below.drew (Below.refl _ _)))).mono ?_
   rintro e w9ay2 ⟨rfl, hq⟩
   have H9ay2 : Hid (Below w0.heap.size w0 w9ay2) := below_call0 (Below.drew (Below.refl _ _)) hq
   clear hq
   go_wp2_with fail
   refine HK9ay2.out _ _ ⟨fun _ => H9ay2.out, ?_⟩
   clear HK9ay2 K
   try simp only [Act.put, List.setIfInBounds_toArray, List.set_cons_zero, List.set_cons_succ]
   refine wpAnyN_takeF (i := 10) (oi := ?o10ay2) (v := ?v10ay2) ?hi10ay2 (by kernel_rfl) (by kernel_rfl) (by kernel_rfl) (by decide) ?hQ10ay2 ?hy10ay2 H9ay2.out ?more10ay2
   case hi10ay2 => rw [List.getElem?_toArray]; exact rfl
   case hQ10ay2 => exact fun _ _ _ h => h
   case hy10ay2 =>
    refine Or.inl ⟨by rfl, ?_⟩
    intro w' hSw
    clear hSw
    go_simp
    try with_reducible rfl
   simp only [Act.put, List.setIfInBounds_toArray, List.set_cons_zero, List.set_cons_succ]
   refine wpAnyN_takeF (i := 11) (oi := ?o11ay2) (v := ?v11ay2) ?hi11ay2 (by kernel_rfl) (by kernel_rfl) (by kernel_rfl) (by decide) ?hQ11ay2 ?hy11ay2 H9ay2.out ?more11ay2
   case hi11ay2 => rw [List.getElem?_toArray]; exact rfl
   case hQ11ay2 => exact fun _ _ _ h => h
   case hy11ay2 =>
    refine Or.inl ⟨by rfl, ?_⟩
    intro w' hSw
    clear hSw
    go_simp
    try with_reducible rfl
   simp only [Act.put, List.setIfInBounds_toArray, List.set_cons_zero, List.set_cons_succ]
   refine wpAnyN_takeF (i := 12) (oi := ?o12ay2) (v := ?v12ay2) ?hi12ay2 (by kernel_rfl) (by kernel_rfl) (by kernel_rfl) (by decide) ?hQ12ay2 ?hy12ay2 H9ay2.out ?more12ay2
   case hi12ay2 => rw [List.getElem?_toArray]; exact rfl
   case hQ12ay2 => exact fun _ _ _ h => h
   case hy12ay2 =>
    refine Or.inl ⟨by rfl, ?_⟩
    intro w' hSw
    clear hSw
    go_simp
    try with_reducible rfl
   simp only [Act.put, List.setIfInBounds_toArray, List.set_cons_zero, List.set_cons_succ]
   refine wpAnyN_one (i := 13) (o := ?o13ay2) (by kernel_rfl) ?hi13ay2 ?hw13ay2 ?st13ay2
   case hi13ay2 => rw [List.getElem?_toArray]; exact rfl
   case hw13ay2 => exact rfl
   intro K hK
   have HK13ay2 : Hid _ := hK
   clear hK
   go_simp
   refine HK13ay2.out _ _ ⟨fun _ => (below_alloc0 H9ay2.out _), ?_⟩
   clear HK13ay2 K
   try simp only [Act.put, List.setIfInBounds_toArray, List.set_cons_zero, List.set_cons_succ]
   refine wpAnyN_one (i := 14) (o := ?o14ay2) (by kernel_rfl) ?hi14ay2 ?hw14ay2 ?st14ay2
   case hi14ay2 => rw [List.getElem?_toArray]; exact rfl
   case hw14ay2 => exact rfl
   intro K hK
   have HK14ay2 : Hid _ := hK
   clear hK
   obtain ⟨⟨o0, o1, o2, o3⟩, ⟨f0, f1, f2, f3⟩, oz⟩ := Pend.facts (Pend.newC (W := w9ay2) (t := 24) rfl)
   try simp only [World.size_alloc] at o0 o1 o2 o3 f0 f1 f2 f3 oz
   go_simp
   refine HK14ay2.out _ _ ⟨fun h => absurd h (by decide +kernel), ?_⟩
   clear HK14ay2 K
   try simp only [Act.put, List.setIfInBounds_toArray, List.set_cons_zero, List.set_cons_succ]
   refine wpAnyN_one (i := 15) (o := ?o15ay2) (by kernel_rfl) ?hi15ay2 ?hw15ay2 ?st15ay2
   case hi15ay2 => rw [List.getElem?_toArray]; exact rfl
   case hw15ay2 => exact rfl
   intro K hK
   have HK15ay2 : Hid _ := hK
   clear hK
   go_simp
   refine HK15ay2.out _ _ ⟨fun h => absurd h (by decide +kernel), ?_⟩
   clear HK15ay2 K
   try simp only [Act.put, List.setIfInBounds_toArray, List.set_cons_zero, List.set_cons_succ]
   refine wpAnyN_done (by kernel_rfl) ?_ _
   obtain ⟨wSay2, hwS⟩ : ∃ y, y = w9ay2.alloc (.cells #[.int .u64 (limb i 0 : Nat), .int .u64 (limb i 1 : Nat), .int .u64 (limb i 2 : Nat), .int .u64 (limb i 3 : Nat)] 24) := ⟨_, rfl⟩
   have HSay2 : Hid (Own4 wSay2 (w9ay2.heap.size) i ∧ Below w0.heap.size w0 wSay2) := by rw [hwS]; exact ⟨Own4.new' rfl, below_alloc0 H9ay2.out _⟩
   rw [← hwS]
   clear hwS o0 o1 o2 o3 f0 f1 f2 f3 oz
   go_wp2_with fail
   go_meet
   exact ⟨_, rfl, rfl, HSay2.out.1, HSay2.out.2⟩
  case st13ax1 =>
   intro K hK
   have HK13ay3 : Hid _ := hK
   clear hK
   go_simp
   refine HK13ay3.out _ _ ⟨fun _ => (below_alloc0 (Below.drew (Below.refl _ _)) _), ?_⟩
   clear HK13ay3 K
   try simp only [Act.put, List.setIfInBounds_toArray, List.set_cons_zero, List.set_cons_succ]
   refine wpAnyN_one (i := 9) (o := ?o9ay3) (by kernel_rfl) ?hi9ay3 ?hw9ay3 ?st9ay3
   case hi9ay3 => rw [List.getElem?_toArray]; exact rfl
   case hw9ay3 => exact rfl
   intro K hK
   have HK9ay3 : Hid _ := hK
   clear hK
   go_simp
   refine (K1.out _ (H0.out.1.call (below_alloc0 (Below.drew (Below.refl _ _)) _))).mono ?_
   rintro e w9ay3 ⟨rfl, hq⟩
   have H9ay3 : Hid (Below w0.heap.size w0 w9ay3) := below_call0 (below_alloc0 (Below.drew (Below.refl _ _)) _) hq
   have P9ay3 : Hid (Pend w9ay3 (w0.heap.size)) := Pend.call (Pend.newC (W := w0.drew) (t := 24) rfl) hq
   clear hq
   go_wp2_with fail
   refine HK9ay3.out _ _ ⟨fun _ => H9ay3.out, ?_⟩
   clear HK9ay3 K
   try simp only [Act.put, List.setIfInBounds_toArray, List.set_cons_zero, List.set_cons_succ]
   refine wpAnyN_takeF (i := 10) (oi := ?o10ay3) (v := ?v10ay3) ?hi10ay3 (by kernel_rfl) (by kernel_rfl) (by kernel_rfl) (by decide) ?hQ10ay3 ?hy10ay3 H9ay3.out ?more10ay3
   case hi10ay3 => rw [List.getElem?_toArray]; exact rfl
   case hQ10ay3 => exact fun _ _ _ h => h
   case hy10ay3 =>
    refine Or.inl ⟨by rfl, ?_⟩
    intro w' hSw
    clear hSw
    go_simp
    try with_reducible rfl
   simp only [Act.put, List.setIfInBounds_toArray, List.set_cons_zero, List.set_cons_succ]
   refine wpAnyN_takeF (i := 11) (oi := ?o11ay3) (v := ?v11ay3) ?hi11ay3 (by kernel_rfl) (by kernel_rfl) (by kernel_rfl) (by decide) ?hQ11ay3 ?hy11ay3 H9ay3.out ?more11ay3
   case hi11ay3 => rw [List.getElem?_toArray]; exact rfl
   case hQ11ay3 => exact fun _ _ _ h => h
   case hy11ay3 =>
    refine Or.inl ⟨by rfl, ?_⟩
    intro w' hSw
    clear hSw
    go_simp
    try with_reducible rfl
   simp only [Act.put, List.setIfInBounds_toArray, List.set_cons_zero, List.set_cons_succ]
   refine wpAnyN_takeF (i := 12) (oi := ?o12ay3) (v := ?v12ay3) ?hi12ay3 (by kernel_rfl) (by kernel_rfl) (by kernel_rfl) (by decide) ?hQ12ay3 ?hy12ay3 H9ay3.out ?more12ay3
   case hi12ay3 => rw [List.getElem?_toArray]; exact rfl
   case hQ12ay3 => exact fun _ _ _ h => h
   case hy12ay3 =>
    refine Or.inl ⟨by rfl, ?_⟩
    intro w' hSw
    clear hSw
    go_simp
    try with_reducible rfl
   simp only [Act.put, List.setIfInBounds_toArray, List.set_cons_zero, List.set_cons_succ]
   refine wpAnyN_one (i := 14) (o := ?o14ay3) (by kernel_rfl) ?hi14ay3 ?hw14ay3 ?st14ay3
   case hi14ay3 => rw [List.getElem?_toArray]; exact rfl
   case hw14ay3 => exact rfl
   intro K hK
   have HK14ay3 : Hid _ := hK
   clear hK
   obtain ⟨⟨o0, o1, o2, o3⟩, ⟨f0, f1, f2, f3⟩, oz⟩ := Pend.facts P9ay3.out
   try simp only [World.size_alloc] at o0 o1 o2 o3 f0 f1 f2 f3 oz
   go_simp
   refine HK14ay3.out _ _ ⟨fun h => absurd h (by decide +kernel), ?_⟩
   clear HK14ay3 K
   try simp only [Act.put, List.setIfInBounds_toArray, List.set_cons_zero, List.set_cons_succ]
   refine wpAnyN_one (i := 15) (o := ?o15ay3) (by kernel_rfl) ?hi15ay3 ?hw15ay3 ?st15ay3
   case hi15ay3 => rw [List.getElem?_toArray]; exact rfl
   case hw15ay3 => exact rfl
   intro K hK
   have HK15ay3 : Hid _ := hK
   clear hK
   go_simp
   refine HK15ay3.out _ _ ⟨fun h => absurd h (by decide +kernel), ?_⟩
   clear HK15ay3 K
   try simp only [Act.put, List.setIfInBounds_toArray, List.set_cons_zero, List.set_cons_succ]
   refine wpAnyN_done (by kernel_rfl) ?_ _
   obtain ⟨wSay3, hwS⟩ : ∃ y, y = ((((w9ay3.setCell ⟨w0.heap.size, 0, none⟩ (.int .u64 (limb i 0 : Nat))).setCell ⟨w0.heap.size, 1, none⟩ (.int .u64 (limb i 1 : Nat))).setCell ⟨w0.heap.size, 2, none⟩ (.int .u64 (limb i 2 : Nat))).setCell ⟨w0.heap.size, 3, none⟩ (.int .u64 (limb i 3 : Nat))) := ⟨_, rfl⟩
   have HSay3 : Hid (Own4 wSay3 (w0.heap.size) i ∧ Below w0.heap.size w0 wSay3) := by rw [hwS]; exact ⟨Pend.own P9ay3.out, Below.setCell (Below.setCell (Below.setCell (Below.setCell H9ay3.out (Nat.le_refl _) _) (Nat.le_refl _) _) (Nat.le_refl _) _) (Nat.le_refl _) _⟩
   rw [← hwS]
   clear hwS o0 o1 o2 o3 f0 f1 f2 f3 oz
   go_wp2_with fail
   go_meet
   exact ⟨_, rfl, rfl, HSay3.out.1, HSay3.out.2⟩
 case rest =>
  obtain ⟨bl, rfl, rfl, hO, hB⟩ := hcut
  have H1 : Hid (FieldB wc g PP ∧ SpotB wc s g x y z ∧ Own4 wc bl i ∧ PtZ wc w.heap.size ∧ Below w.heap.size w wc) := ⟨H0.out.1.call hB, H0.out.2.1.call hB, hO, H0.out.2.2.1.call hB, below_call0 H0.out.2.2.2 hB⟩
  clear hO hB H0
  generalize wc = w1 at H1 ⊢
  go_upto_region 4 with fail
  go_cut [5] (fun v5 wx => ∃ bq, v5 = .pointer (some ⟨bq, 0, none⟩) ∧ Own4 wx bq q ∧ Below w1.heap.size w1 wx)
  case first =>
   refine wp_region_N (fun w' => Below w1.heap.size w1 w') 8 9 rfl (by kernel_rfl) ?_
   refine wpAnyN_take (i := 0) (oi := ?o0b) (v := ?v0b) ?hi0b (by kernel_rfl) (by kernel_rfl) (by kernel_rfl) (by kernel_rfl) (by decide) (by kernel_rfl) ?hQ0b ?hy0b (Below.drew (Below.refl _ _)) ?more0b
   case hi0b => rw [List.getElem?_toArray]; exact rfl
   case hQ0b => exact fun _ _ _ h => h
   case hy0b =>
    refine Or.inl ⟨by rfl, ?_⟩
    intro w' hSw
    obtain ⟨sz, sg, sx0, sx1, sx2, sx3, sy0, sy1, sy2, sy3, sz0, sz1, sz2, sz3, sf⟩ := H1.out.2.1.call hSw
    obtain ⟨⟨i0, i1, i2, i3⟩, -, iz⟩ := (Own4.call H1.out.2.2.1 hSw).facts
    clear hSw
    go_simp
    try with_reducible rfl
   simp only [Act.put, List.setIfInBounds_toArray, List.set_cons_zero, List.set_cons_succ]
   refine wpAnyN_take (i := 1) (oi := ?o1b) (v := ?v1b) ?hi1b (by kernel_rfl) (by kernel_rfl) (by kernel_rfl) (by kernel_rfl) (by decide) (by kernel_rfl) ?hQ1b ?hy1b (Below.drew (Below.refl _ _)) ?more1b
   case hi1b => rw [List.getElem?_toArray]; exact rfl
   case hQ1b => exact fun _ _ _ h => h
   case hy1b =>
    refine Or.inl ⟨by rfl, ?_⟩
    intro w' hSw
    obtain ⟨sz, sg, sx0, sx1, sx2, sx3, sy0, sy1, sy2, sy3, sz0, sz1, sz2, sz3, sf⟩ := H1.out.2.1.call hSw
    obtain ⟨⟨i0, i1, i2, i3⟩, -, iz⟩ := (Own4.call H1.out.2.2.1 hSw).facts
    clear hSw
    go_simp
    try with_reducible rfl
   simp only [Act.put, List.setIfInBounds_toArray, List.set_cons_zero, List.set_cons_succ]
   refine wpAnyN_take (i := 2) (oi := ?o2b) (v := ?v2b) ?hi2b (by kernel_rfl) (by kernel_rfl) (by kernel_rfl) (by kernel_rfl) (by decide) (by kernel_rfl) ?hQ2b ?hy2b (Below.drew (Below.refl _ _)) ?more2b
   case hi2b => rw [List.getElem?_toArray]; exact rfl
   case hQ2b => exact fun _ _ _ h => h
   case hy2b =>
    refine Or.inl ⟨by rfl, ?_⟩
    intro w' hSw
    obtain ⟨sz, sg, sx0, sx1, sx2, sx3, sy0, sy1, sy2, sy3, sz0, sz1, sz2, sz3, sf⟩ := H1.out.2.1.call hSw
    obtain ⟨⟨i0, i1, i2, i3⟩, -, iz⟩ := (Own4.call H1.out.2.2.1 hSw).facts
    clear hSw
    go_simp
    try with_reducible rfl
   simp only [Act.put, List.setIfInBounds_toArray, List.set_cons_zero, List.set_cons_succ]
   refine wpAnyN_take (i := 3) (oi := ?o3b) (v := ?v3b) ?hi3b (by kernel_rfl) (by kernel_rfl) (by kernel_rfl) (by kernel_rfl) (by decide) (by kernel_rfl) ?hQ3b ?hy3b (Below.drew (Below.refl _ _)) ?more3b
   case hi3b => rw [List.getElem?_toArray]; exact rfl
   case hQ3b => exact fun _ _ _ h => h
   case hy3b =>
    refine Or.inl ⟨by rfl, ?_⟩
    intro w' hSw
    obtain ⟨sz, sg, sx0, sx1, sx2, sx3, sy0, sy1, sy2, sy3, sz0, sz1, sz2, sz3, sf⟩ := H1.out.2.1.call hSw
    obtain ⟨⟨i0, i1, i2, i3⟩, -, iz⟩ := (Own4.call H1.out.2.2.1 hSw).facts
    clear hSw
    go_simp
    try with_reducible rfl
   simp only [Act.put, List.setIfInBounds_toArray, List.set_cons_zero, List.set_cons_succ]
   refine wpAnyN_take (i := 4) (oi := ?o4b) (v := ?v4b) ?hi4b (by kernel_rfl) (by kernel_rfl) (by kernel_rfl) (by kernel_rfl) (by decide) (by kernel_rfl) ?hQ4b ?hy4b (Below.drew (Below.refl _ _)) ?more4b
   case hi4b => rw [List.getElem?_toArray]; exact rfl
   case hQ4b => exact fun _ _ _ h => h
   case hy4b =>
    refine Or.inl ⟨by rfl, ?_⟩
    intro w' hSw
    obtain ⟨sz, sg, sx0, sx1, sx2, sx3, sy0, sy1, sy2, sy3, sz0, sz1, sz2, sz3, sf⟩ := H1.out.2.1.call hSw
    obtain ⟨⟨i0, i1, i2, i3⟩, -, iz⟩ := (Own4.call H1.out.2.2.1 hSw).facts
    clear hSw
    go_simp
    try with_reducible rfl
   simp only [Act.put, List.setIfInBounds_toArray, List.set_cons_zero, List.set_cons_succ]
   refine wpAnyN_take (i := 5) (oi := ?o5b) (v := ?v5b) ?hi5b (by kernel_rfl) (by kernel_rfl) (by kernel_rfl) (by kernel_rfl) (by decide) (by kernel_rfl) ?hQ5b ?hy5b (Below.drew (Below.refl _ _)) ?more5b
   case hi5b => rw [List.getElem?_toArray]; exact rfl
   case hQ5b => exact fun _ _ _ h => h
   case hy5b =>
    refine Or.inl ⟨by rfl, ?_⟩
    intro w' hSw
    obtain ⟨sz, sg, sx0, sx1, sx2, sx3, sy0, sy1, sy2, sy3, sz0, sz1, sz2, sz3, sf⟩ := H1.out.2.1.call hSw
    obtain ⟨⟨i0, i1, i2, i3⟩, -, iz⟩ := (Own4.call H1.out.2.2.1 hSw).facts
    clear hSw
    go_simp
    try with_reducible rfl
   simp only [Act.put, List.setIfInBounds_toArray, List.set_cons_zero, List.set_cons_succ]
   refine wpAnyN_two (i := 6) (j := 7) (o := ?o6bx1) (p := ?o7bx1) (by kernel_rfl) ?hi6bx1 ?hi7bx1 ?hw6bx1 ?hw7bx1 ?st6bx1 ?st7bx1
   case hi6bx1 => rw [List.getElem?_toArray]; exact rfl
   case hw6bx1 => exact rfl
   case hi7bx1 => rw [List.getElem?_toArray]; exact rfl
   case hw7bx1 => exact rfl
   case st6bx1 =>
    intro K hK
    have HK6by2 : Hid _ := hK
    clear hK
    go_simp
    refine (K2.out _ (H1.out.1.call (Below.drew (Below.refl _ _)))).mono ?_
    rintro e w6by2 ⟨rfl, hq⟩
    have H6by2 : Hid (Below w1.heap.size w1 w6by2) := below_call0 (Below.drew (Below.refl _ _)) hq
    clear hq
    go_wp2_with fail
    refine HK6by2.out _ _ ⟨fun _ => H6by2.out, ?_⟩
    clear HK6by2 K
    try simp only [Act.put, List.setIfInBounds_toArray, List.set_cons_zero, List.set_cons_succ]
    refine wpAnyN_one (i := 7) (o := ?o7by2) (by kernel_rfl) ?hi7by2 ?hw7by2 ?st7by2
    case hi7by2 => rw [List.getElem?_toArray]; exact rfl
    case hw7by2 => exact rfl
    intro K hK
    have HK7by2 : Hid _ := hK
    clear hK
    go_simp
    refine HK7by2.out _ _ ⟨fun _ => (below_alloc0 H6by2.out _), ?_⟩
    clear HK7by2 K
    try simp only [Act.put, List.setIfInBounds_toArray, List.set_cons_zero, List.set_cons_succ]
    refine wpAnyN_one (i := 8) (o := ?o8by2) (by kernel_rfl) ?hi8by2 ?hw8by2 ?st8by2
    case hi8by2 => rw [List.getElem?_toArray]; exact rfl
    case hw8by2 => exact rfl
    intro K hK
    have HK8by2 : Hid _ := hK
    clear hK
    obtain ⟨⟨o0, o1, o2, o3⟩, ⟨f0, f1, f2, f3⟩, oz⟩ := Pend.facts (Pend.newC (W := w6by2) (t := 24) rfl)
    try simp only [World.size_alloc] at o0 o1 o2 o3 f0 f1 f2 f3 oz
    go_simp
    refine HK8by2.out _ _ ⟨fun h => absurd h (by decide +kernel), ?_⟩
    clear HK8by2 K
    try simp only [Act.put, List.setIfInBounds_toArray, List.set_cons_zero, List.set_cons_succ]
    refine wpAnyN_done (by kernel_rfl) ?_ _
    obtain ⟨wSby2, hwS⟩ : ∃ y, y = w6by2.alloc (.cells #[.int .u64 (limb q 0 : Nat), .int .u64 (limb q 1 : Nat), .int .u64 (limb q 2 : Nat), .int .u64 (limb q 3 : Nat)] 24) := ⟨_, rfl⟩
    have HSby2 : Hid (Own4 wSby2 (w6by2.heap.size) q ∧ Below w1.heap.size w1 wSby2) := by rw [hwS]; exact ⟨Own4.new' rfl, below_alloc0 H6by2.out _⟩
    rw [← hwS]
    clear hwS o0 o1 o2 o3 f0 f1 f2 f3 oz
    go_wp2_with fail
    go_meet
    exact ⟨_, rfl, HSby2.out.1, HSby2.out.2⟩
   case st7bx1 =>
    intro K hK
    have HK7by3 : Hid _ := hK
    clear hK
    go_simp
    refine HK7by3.out _ _ ⟨fun _ => (below_alloc0 (Below.drew (Below.refl _ _)) _), ?_⟩
    clear HK7by3 K
    try simp only [Act.put, List.setIfInBounds_toArray, List.set_cons_zero, List.set_cons_succ]
    refine wpAnyN_one (i := 6) (o := ?o6by3) (by kernel_rfl) ?hi6by3 ?hw6by3 ?st6by3
    case hi6by3 => rw [List.getElem?_toArray]; exact rfl
    case hw6by3 => exact rfl
    intro K hK
    have HK6by3 : Hid _ := hK
    clear hK
    go_simp
    refine (K2.out _ (H1.out.1.call (below_alloc0 (Below.drew (Below.refl _ _)) _))).mono ?_
    rintro e w6by3 ⟨rfl, hq⟩
    have H6by3 : Hid (Below w1.heap.size w1 w6by3) := below_call0 (below_alloc0 (Below.drew (Below.refl _ _)) _) hq
    have P6by3 : Hid (Pend w6by3 (w1.heap.size)) := Pend.call (Pend.newC (W := w1.drew) (t := 24) rfl) hq
    clear hq
    go_wp2_with fail
    refine HK6by3.out _ _ ⟨fun _ => H6by3.out, ?_⟩
    clear HK6by3 K
    try simp only [Act.put, List.setIfInBounds_toArray, List.set_cons_zero, List.set_cons_succ]
    refine wpAnyN_one (i := 8) (o := ?o8by3) (by kernel_rfl) ?hi8by3 ?hw8by3 ?st8by3
    case hi8by3 => rw [List.getElem?_toArray]; exact rfl
    case hw8by3 => exact rfl
    intro K hK
    have HK8by3 : Hid _ := hK
    clear hK
    obtain ⟨⟨o0, o1, o2, o3⟩, ⟨f0, f1, f2, f3⟩, oz⟩ := Pend.facts P6by3.out
    try simp only [World.size_alloc] at o0 o1 o2 o3 f0 f1 f2 f3 oz
    go_simp
    refine HK8by3.out _ _ ⟨fun h => absurd h (by decide +kernel), ?_⟩
    clear HK8by3 K
    try simp only [Act.put, List.setIfInBounds_toArray, List.set_cons_zero, List.set_cons_succ]
    refine wpAnyN_done (by kernel_rfl) ?_ _
    obtain ⟨wSby3, hwS⟩ : ∃ y, y = ((((w6by3.setCell ⟨w1.heap.size, 0, none⟩ (.int .u64 (limb q 0 : Nat))).setCell ⟨w1.heap.size, 1, none⟩ (.int .u64 (limb q 1 : Nat))).setCell ⟨w1.heap.size, 2, none⟩ (.int .u64 (limb q 2 : Nat))).setCell ⟨w1.heap.size, 3, none⟩ (.int .u64 (limb q 3 : Nat))) := ⟨_, rfl⟩
    have HSby3 : Hid (Own4 wSby3 (w1.heap.size) q ∧ Below w1.heap.size w1 wSby3) := by rw [hwS]; exact ⟨Pend.own P6by3.out, Below.setCell (Below.setCell (Below.setCell (Below.setCell H6by3.out (Nat.le_refl _) _) (Nat.le_refl _) _) (Nat.le_refl _) _) (Nat.le_refl _) _⟩
    rw [← hwS]
    clear hwS o0 o1 o2 o3 f0 f1 f2 f3 oz
    go_wp2_with fail
    go_meet
    exact ⟨_, rfl, HSby3.out.1, HSby3.out.2⟩
  case rest =>
   obtain ⟨bq, rfl, hO, hB⟩ := hcut
   have H2 : Hid (FieldB wc g PP ∧ SpotB wc s g x y z ∧ Own4 wc bl i ∧ Own4 wc bq q ∧ PtZ wc w.heap.size ∧ Below w.heap.size w wc) := ⟨H1.out.1.call hB, H1.out.2.1.call hB, H1.out.2.2.1.call hB, hO, H1.out.2.2.2.1.call hB, below_call0 H1.out.2.2.2.2 hB⟩
   clear hO hB H1
   generalize wc = w2 at H2 ⊢
   go_wp2_with fail
   refine wp_region_N (fun w' => Below w2.heap.size w2 w') 27 28 rfl (by kernel_rfl) ?_
   refine wpAnyN_take (i := 0) (oi := ?o0) (v := ?v0) ?hi0 (by kernel_rfl) (by kernel_rfl) (by kernel_rfl) (by kernel_rfl) (by decide) (by kernel_rfl) ?hQ0 ?hy0 (Below.drew (Below.refl _ _)) ?more0
   case hi0 => rw [List.getElem?_toArray]; exact rfl
   case hQ0 => exact fun _ _ _ h => h
   case hy0 =>
    refine Or.inl ⟨by rfl, ?_⟩
    intro w' hSw
    obtain ⟨sz, sg, sx0, sx1, sx2, sx3, sy0, sy1, sy2, sy3, sz0, sz1, sz2, sz3, sf⟩ := H2.out.2.1.call hSw
    obtain ⟨⟨i0, i1, i2, i3⟩, -, iz⟩ := (Own4.call H2.out.2.2.1 hSw).facts
    obtain ⟨⟨q0, q1, q2, q3⟩, -, qz⟩ := (Own4.call H2.out.2.2.2.1 hSw).facts
    clear hSw
    go_simp
    try with_reducible rfl
   simp only [Act.put, List.setIfInBounds_toArray, List.set_cons_zero, List.set_cons_succ]
   refine wpAnyN_take (i := 1) (oi := ?o1) (v := ?v1) ?hi1 (by kernel_rfl) (by kernel_rfl) (by kernel_rfl) (by kernel_rfl) (by decide) (by kernel_rfl) ?hQ1 ?hy1 (Below.drew (Below.refl _ _)) ?more1
   case hi1 => rw [List.getElem?_toArray]; exact rfl
   case hQ1 => exact fun _ _ _ h => h
   case hy1 =>
    refine Or.inl ⟨by rfl, ?_⟩
    intro w' hSw
    obtain ⟨sz, sg, sx0, sx1, sx2, sx3, sy0, sy1, sy2, sy3, sz0, sz1, sz2, sz3, sf⟩ := H2.out.2.1.call hSw
    obtain ⟨⟨i0, i1, i2, i3⟩, -, iz⟩ := (Own4.call H2.out.2.2.1 hSw).facts
    obtain ⟨⟨q0, q1, q2, q3⟩, -, qz⟩ := (Own4.call H2.out.2.2.2.1 hSw).facts
    clear hSw
    go_simp
    try with_reducible rfl
   simp only [Act.put, List.setIfInBounds_toArray, List.set_cons_zero, List.set_cons_succ]
   refine wpAnyN_take (i := 2) (oi := ?o2) (v := ?v2) ?hi2 (by kernel_rfl) (by kernel_rfl) (by kernel_rfl) (by kernel_rfl) (by decide) (by kernel_rfl) ?hQ2 ?hy2 (Below.drew (Below.refl _ _)) ?more2
   case hi2 => rw [List.getElem?_toArray]; exact rfl
   case hQ2 => exact fun _ _ _ h => h
   case hy2 =>
    refine Or.inl ⟨by rfl, ?_⟩
    intro w' hSw
    obtain ⟨sz, sg, sx0, sx1, sx2, sx3, sy0, sy1, sy2, sy3, sz0, sz1, sz2, sz3, sf⟩ := H2.out.2.1.call hSw
    obtain ⟨⟨i0, i1, i2, i3⟩, -, iz⟩ := (Own4.call H2.out.2.2.1 hSw).facts
    obtain ⟨⟨q0, q1, q2, q3⟩, -, qz⟩ := (Own4.call H2.out.2.2.2.1 hSw).facts
    clear hSw
    go_simp
    try with_reducible rfl
   simp only [Act.put, List.setIfInBounds_toArray, List.set_cons_zero, List.set_cons_succ]
   refine wpAnyN_take (i := 3) (oi := ?o3) (v := ?v3) ?hi3 (by kernel_rfl) (by kernel_rfl) (by kernel_rfl) (by kernel_rfl) (by decide) (by kernel_rfl) ?hQ3 ?hy3 (Below.drew (Below.refl _ _)) ?more3
   case hi3 => rw [List.getElem?_toArray]; exact rfl
   case hQ3 => exact fun _ _ _ h => h
   case hy3 =>
    refine Or.inl ⟨by rfl, ?_⟩
    intro w' hSw
    obtain ⟨sz, sg, sx0, sx1, sx2, sx3, sy0, sy1, sy2, sy3, sz0, sz1, sz2, sz3, sf⟩ := H2.out.2.1.call hSw
    obtain ⟨⟨i0, i1, i2, i3⟩, -, iz⟩ := (Own4.call H2.out.2.2.1 hSw).facts
    obtain ⟨⟨q0, q1, q2, q3⟩, -, qz⟩ := (Own4.call H2.out.2.2.2.1 hSw).facts
    clear hSw
    go_simp
    try with_reducible rfl
   simp only [Act.put, List.setIfInBounds_toArray, List.set_cons_zero, List.set_cons_succ]
   refine wpAnyN_take (i := 4) (oi := ?o4) (v := ?v4) ?hi4 (by kernel_rfl) (by kernel_rfl) (by kernel_rfl) (by kernel_rfl) (by decide) (by kernel_rfl) ?hQ4 ?hy4 (Below.drew (Below.refl _ _)) ?more4
   case hi4 => rw [List.getElem?_toArray]; exact rfl
   case hQ4 => exact fun _ _ _ h => h
   case hy4 =>
    refine Or.inl ⟨by rfl, ?_⟩
    intro w' hSw
    obtain ⟨sz, sg, sx0, sx1, sx2, sx3, sy0, sy1, sy2, sy3, sz0, sz1, sz2, sz3, sf⟩ := H2.out.2.1.call hSw
    obtain ⟨⟨i0, i1, i2, i3⟩, -, iz⟩ := (Own4.call H2.out.2.2.1 hSw).facts
    obtain ⟨⟨q0, q1, q2, q3⟩, -, qz⟩ := (Own4.call H2.out.2.2.2.1 hSw).facts
    clear hSw
    go_simp
    try with_reducible rfl
   simp only [Act.put, List.setIfInBounds_toArray, List.set_cons_zero, List.set_cons_succ]
   refine wpAnyN_take (i := 5) (oi := ?o5) (v := ?v5) ?hi5 (by kernel_rfl) (by kernel_rfl) (by kernel_rfl) (by kernel_rfl) (by decide) (by kernel_rfl) ?hQ5 ?hy5 (Below.drew (Below.refl _ _)) ?more5
   case hi5 => rw [List.getElem?_toArray]; exact rfl
   case hQ5 => exact fun _ _ _ h => h
   case hy5 =>
    refine Or.inl ⟨by rfl, ?_⟩
    intro w' hSw
    obtain ⟨sz, sg, sx0, sx1, sx2, sx3, sy0, sy1, sy2, sy3, sz0, sz1, sz2, sz3, sf⟩ := H2.out.2.1.call hSw
    obtain ⟨⟨i0, i1, i2, i3⟩, -, iz⟩ := (Own4.call H2.out.2.2.1 hSw).facts
    obtain ⟨⟨q0, q1, q2, q3⟩, -, qz⟩ := (Own4.call H2.out.2.2.2.1 hSw).facts
    clear hSw
    go_simp
    try with_reducible rfl
   simp only [Act.put, List.setIfInBounds_toArray, List.set_cons_zero, List.set_cons_succ]
   refine wpAnyN_take (i := 6) (oi := ?o6) (v := ?v6) ?hi6 (by kernel_rfl) (by kernel_rfl) (by kernel_rfl) (by kernel_rfl) (by decide) (by kernel_rfl) ?hQ6 ?hy6 (Below.drew (Below.refl _ _)) ?more6
   case hi6 => rw [List.getElem?_toArray]; exact rfl
   case hQ6 => exact fun _ _ _ h => h
   case hy6 =>
    refine Or.inl ⟨by rfl, ?_⟩
    intro w' hSw
    obtain ⟨sz, sg, sx0, sx1, sx2, sx3, sy0, sy1, sy2, sy3, sz0, sz1, sz2, sz3, sf⟩ := H2.out.2.1.call hSw
    obtain ⟨⟨i0, i1, i2, i3⟩, -, iz⟩ := (Own4.call H2.out.2.2.1 hSw).facts
    obtain ⟨⟨q0, q1, q2, q3⟩, -, qz⟩ := (Own4.call H2.out.2.2.2.1 hSw).facts
    clear hSw
    go_simp
    try with_reducible rfl
   simp only [Act.put, List.setIfInBounds_toArray, List.set_cons_zero, List.set_cons_succ]
   refine wpAnyN_take (i := 7) (oi := ?o7) (v := ?v7) ?hi7 (by kernel_rfl) (by kernel_rfl) (by kernel_rfl) (by kernel_rfl) (by decide) (by kernel_rfl) ?hQ7 ?hy7 (Below.drew (Below.refl _ _)) ?more7
   case hi7 => rw [List.getElem?_toArray]; exact rfl
   case hQ7 => exact fun _ _ _ h => h
   case hy7 =>
    refine Or.inl ⟨by rfl, ?_⟩
    intro w' hSw
    obtain ⟨sz, sg, sx0, sx1, sx2, sx3, sy0, sy1, sy2, sy3, sz0, sz1, sz2, sz3, sf⟩ := H2.out.2.1.call hSw
    obtain ⟨⟨i0, i1, i2, i3⟩, -, iz⟩ := (Own4.call H2.out.2.2.1 hSw).facts
    obtain ⟨⟨q0, q1, q2, q3⟩, -, qz⟩ := (Own4.call H2.out.2.2.2.1 hSw).facts
    clear hSw
    go_simp
    try with_reducible rfl
   simp only [Act.put, List.setIfInBounds_toArray, List.set_cons_zero, List.set_cons_succ]
   refine wpAnyN_take (i := 8) (oi := ?o8) (v := ?v8) ?hi8 (by kernel_rfl) (by kernel_rfl) (by kernel_rfl) (by kernel_rfl) (by decide) (by kernel_rfl) ?hQ8 ?hy8 (Below.drew (Below.refl _ _)) ?more8
   case hi8 => rw [List.getElem?_toArray]; exact rfl
   case hQ8 => exact fun _ _ _ h => h
   case hy8 =>
    refine Or.inl ⟨by rfl, ?_⟩
    intro w' hSw
    obtain ⟨sz, sg, sx0, sx1, sx2, sx3, sy0, sy1, sy2, sy3, sz0, sz1, sz2, sz3, sf⟩ := H2.out.2.1.call hSw
    obtain ⟨⟨i0, i1, i2, i3⟩, -, iz⟩ := (Own4.call H2.out.2.2.1 hSw).facts
    obtain ⟨⟨q0, q1, q2, q3⟩, -, qz⟩ := (Own4.call H2.out.2.2.2.1 hSw).facts
    clear hSw
    go_simp
    try with_reducible rfl
   simp only [Act.put, List.setIfInBounds_toArray, List.set_cons_zero, List.set_cons_succ]
   refine wpAnyN_takeF (i := 10) (oi := ?o10) (v := ?v10) ?hi10 (by kernel_rfl) (by kernel_rfl) (by kernel_rfl) (by decide) ?hQ10 ?hy10 (Below.drew (Below.refl _ _)) ?more10
   case hi10 => rw [List.getElem?_toArray]; exact rfl
   case hQ10 => exact fun _ _ _ h => h
   case hy10 =>
    refine Or.inl ⟨by rfl, ?_⟩
    intro w' hSw
    clear hSw
    go_simp
    try with_reducible rfl
   simp only [Act.put, List.setIfInBounds_toArray, List.set_cons_zero, List.set_cons_succ]
   refine wpAnyN_takeF (i := 11) (oi := ?o11) (v := ?v11) ?hi11 (by kernel_rfl) (by kernel_rfl) (by kernel_rfl) (by decide) ?hQ11 ?hy11 (Below.drew (Below.refl _ _)) ?more11
   case hi11 => rw [List.getElem?_toArray]; exact rfl
   case hQ11 => exact fun _ _ _ h => h
   case hy11 =>
    refine Or.inl ⟨by rfl, ?_⟩
    intro w' hSw
    clear hSw
    go_simp
    try with_reducible rfl
   simp only [Act.put, List.setIfInBounds_toArray, List.set_cons_zero, List.set_cons_succ]
   refine wpAnyN_takeF (i := 12) (oi := ?o12) (v := ?v12) ?hi12 (by kernel_rfl) (by kernel_rfl) (by kernel_rfl) (by decide) ?hQ12 ?hy12 (Below.drew (Below.refl _ _)) ?more12
   case hi12 => rw [List.getElem?_toArray]; exact rfl
   case hQ12 => exact fun _ _ _ h => h
   case hy12 =>
    refine Or.inl ⟨by rfl, ?_⟩
    intro w' hSw
    clear hSw
    go_simp
    try with_reducible rfl
   simp only [Act.put, List.setIfInBounds_toArray, List.set_cons_zero, List.set_cons_succ]
   refine wpAnyN_takeL (i := 13) (oi := ?o13) (v := ?v13) [25, 27] ?hi13 (by kernel_rfl) (by kernel_rfl) (by kernel_rfl) (by kernel_rfl) (by decide) (by decide) (by kernel_rfl) ?hQ13 ?hy13 (Below.drew (Below.refl _ _)) ?more13
   case hi13 => rw [List.getElem?_toArray]; exact rfl
   case hQ13 => exact fun _ _ _ h => h
   case hy13 =>
    refine Or.inl ⟨by rfl, ?_⟩
    intro w' hSw
    obtain ⟨sz, sg, sx0, sx1, sx2, sx3, sy0, sy1, sy2, sy3, sz0, sz1, sz2, sz3, sf⟩ := H2.out.2.1.call hSw
    obtain ⟨⟨i0, i1, i2, i3⟩, -, iz⟩ := (Own4.call H2.out.2.2.1 hSw).facts
    obtain ⟨⟨q0, q1, q2, q3⟩, -, qz⟩ := (Own4.call H2.out.2.2.2.1 hSw).facts
    clear hSw
    go_simp
    try with_reducible rfl
   simp only [Act.put, List.setIfInBounds_toArray, List.set_cons_zero, List.set_cons_succ]
   refine wpAnyN_takeF (i := 14) (oi := ?o14) (v := ?v14) ?hi14 (by kernel_rfl) (by kernel_rfl) (by kernel_rfl) (by decide) ?hQ14 ?hy14 (Below.drew (Below.refl _ _)) ?more14
   case hi14 => rw [List.getElem?_toArray]; exact rfl
   case hQ14 => exact fun _ _ _ h => h
   case hy14 =>
    refine Or.inl ⟨by rfl, ?_⟩
    intro w' hSw
    clear hSw
    go_simp
    try with_reducible rfl
   simp only [Act.put, List.setIfInBounds_toArray, List.set_cons_zero, List.set_cons_succ]
   refine wpAnyN_takeF (i := 15) (oi := ?o15) (v := ?v15) ?hi15 (by kernel_rfl) (by kernel_rfl) (by kernel_rfl) (by decide) ?hQ15 ?hy15 (Below.drew (Below.refl _ _)) ?more15
   case hi15 => rw [List.getElem?_toArray]; exact rfl
   case hQ15 => exact fun _ _ _ h => h
   case hy15 =>
    refine Or.inl ⟨by rfl, ?_⟩
    intro w' hSw
    clear hSw
    go_simp
    try with_reducible rfl
   simp only [Act.put, List.setIfInBounds_toArray, List.set_cons_zero, List.set_cons_succ]
   refine wpAnyN_takeF (i := 16) (oi := ?o16) (v := ?v16) ?hi16 (by kernel_rfl) (by kernel_rfl) (by kernel_rfl) (by decide) ?hQ16 ?hy16 (Below.drew (Below.refl _ _)) ?more16
   case hi16 => rw [List.getElem?_toArray]; exact rfl
   case hQ16 => exact fun _ _ _ h => h
   case hy16 =>
    refine Or.inl ⟨by rfl, ?_⟩
    intro w' hSw
    clear hSw
    go_simp
    try with_reducible rfl
   simp only [Act.put, List.setIfInBounds_toArray, List.set_cons_zero, List.set_cons_succ]
   refine wpAnyN_takeL (i := 17) (oi := ?o17) (v := ?v17) [25, 27] ?hi17 (by kernel_rfl) (by kernel_rfl) (by kernel_rfl) (by kernel_rfl) (by decide) (by decide) (by kernel_rfl) ?hQ17 ?hy17 (Below.drew (Below.refl _ _)) ?more17
   case hi17 => rw [List.getElem?_toArray]; exact rfl
   case hQ17 => exact fun _ _ _ h => h
   case hy17 =>
    refine Or.inl ⟨by rfl, ?_⟩
    intro w' hSw
    obtain ⟨sz, sg, sx0, sx1, sx2, sx3, sy0, sy1, sy2, sy3, sz0, sz1, sz2, sz3, sf⟩ := H2.out.2.1.call hSw
    obtain ⟨⟨i0, i1, i2, i3⟩, -, iz⟩ := (Own4.call H2.out.2.2.1 hSw).facts
    obtain ⟨⟨q0, q1, q2, q3⟩, -, qz⟩ := (Own4.call H2.out.2.2.2.1 hSw).facts
    clear hSw
    go_simp
    try with_reducible rfl
   simp only [Act.put, List.setIfInBounds_toArray, List.set_cons_zero, List.set_cons_succ]
   refine wpAnyN_takeF (i := 18) (oi := ?o18) (v := ?v18) ?hi18 (by kernel_rfl) (by kernel_rfl) (by kernel_rfl) (by decide) ?hQ18 ?hy18 (Below.drew (Below.refl _ _)) ?more18
   case hi18 => rw [List.getElem?_toArray]; exact rfl
   case hQ18 => exact fun _ _ _ h => h
   case hy18 =>
    refine Or.inl ⟨by rfl, ?_⟩
    intro w' hSw
    clear hSw
    go_simp
    try with_reducible rfl
   simp only [Act.put, List.setIfInBounds_toArray, List.set_cons_zero, List.set_cons_succ]
   refine wpAnyN_takeF (i := 19) (oi := ?o19) (v := ?v19) ?hi19 (by kernel_rfl) (by kernel_rfl) (by kernel_rfl) (by decide) ?hQ19 ?hy19 (Below.drew (Below.refl _ _)) ?more19
   case hi19 => rw [List.getElem?_toArray]; exact rfl
   case hQ19 => exact fun _ _ _ h => h
   case hy19 =>
    refine Or.inl ⟨by rfl, ?_⟩
    intro w' hSw
    clear hSw
    go_simp
    try with_reducible rfl
   simp only [Act.put, List.setIfInBounds_toArray, List.set_cons_zero, List.set_cons_succ]
   refine wpAnyN_takeF (i := 20) (oi := ?o20) (v := ?v20) ?hi20 (by kernel_rfl) (by kernel_rfl) (by kernel_rfl) (by decide) ?hQ20 ?hy20 (Below.drew (Below.refl _ _)) ?more20
   case hi20 => rw [List.getElem?_toArray]; exact rfl
   case hQ20 => exact fun _ _ _ h => h
   case hy20 =>
    refine Or.inl ⟨by rfl, ?_⟩
    intro w' hSw
    clear hSw
    go_simp
    try with_reducible rfl
   simp only [Act.put, List.setIfInBounds_toArray, List.set_cons_zero, List.set_cons_succ]
   refine wpAnyN_takeL (i := 21) (oi := ?o21) (v := ?v21) [24, 25, 27] ?hi21 (by kernel_rfl) (by kernel_rfl) (by kernel_rfl) (by kernel_rfl) (by decide) (by decide) (by kernel_rfl) ?hQ21 ?hy21 (Below.drew (Below.refl _ _)) ?more21
   case hi21 => rw [List.getElem?_toArray]; exact rfl
   case hQ21 => exact fun _ _ _ h => h
   case hy21 =>
    refine Or.inl ⟨by rfl, ?_⟩
    intro w' hSw
    obtain ⟨sz, sg, sx0, sx1, sx2, sx3, sy0, sy1, sy2, sy3, sz0, sz1, sz2, sz3, sf⟩ := H2.out.2.1.call hSw
    obtain ⟨⟨i0, i1, i2, i3⟩, -, iz⟩ := (Own4.call H2.out.2.2.1 hSw).facts
    obtain ⟨⟨q0, q1, q2, q3⟩, -, qz⟩ := (Own4.call H2.out.2.2.2.1 hSw).facts
    clear hSw
    go_simp
    try with_reducible rfl
   simp only [Act.put, List.setIfInBounds_toArray, List.set_cons_zero, List.set_cons_succ]
   refine wpAnyN_takeL (i := 22) (oi := ?o22) (v := ?v22) [24, 25, 27] ?hi22 (by kernel_rfl) (by kernel_rfl) (by kernel_rfl) (by kernel_rfl) (by decide) (by decide) (by kernel_rfl) ?hQ22 ?hy22 (Below.drew (Below.refl _ _)) ?more22
   case hi22 => rw [List.getElem?_toArray]; exact rfl
   case hQ22 => exact fun _ _ _ h => h
   case hy22 =>
    refine Or.inl ⟨by rfl, ?_⟩
    intro w' hSw
    obtain ⟨sz, sg, sx0, sx1, sx2, sx3, sy0, sy1, sy2, sy3, sz0, sz1, sz2, sz3, sf⟩ := H2.out.2.1.call hSw
    obtain ⟨⟨i0, i1, i2, i3⟩, -, iz⟩ := (Own4.call H2.out.2.2.1 hSw).facts
    obtain ⟨⟨q0, q1, q2, q3⟩, -, qz⟩ := (Own4.call H2.out.2.2.2.1 hSw).facts
    clear hSw
    go_simp
    try with_reducible rfl
   simp only [Act.put, List.setIfInBounds_toArray, List.set_cons_zero, List.set_cons_succ]
   refine wpAnyN_takeL (i := 23) (oi := ?o23) (v := ?v23) [24, 25, 27] ?hi23 (by kernel_rfl) (by kernel_rfl) (by kernel_rfl) (by kernel_rfl) (by decide) (by decide) (by kernel_rfl) ?hQ23 ?hy23 (Below.drew (Below.refl _ _)) ?more23
   case hi23 => rw [List.getElem?_toArray]; exact rfl
   case hQ23 => exact fun _ _ _ h => h
   case hy23 =>
    refine Or.inl ⟨by rfl, ?_⟩
    intro w' hSw
    obtain ⟨sz, sg, sx0, sx1, sx2, sx3, sy0, sy1, sy2, sy3, sz0, sz1, sz2, sz3, sf⟩ := H2.out.2.1.call hSw
    obtain ⟨⟨i0, i1, i2, i3⟩, -, iz⟩ := (Own4.call H2.out.2.2.1 hSw).facts
    obtain ⟨⟨q0, q1, q2, q3⟩, -, qz⟩ := (Own4.call H2.out.2.2.2.1 hSw).facts
    clear hSw
    go_simp
    try with_reducible rfl
   simp only [Act.put, List.setIfInBounds_toArray, List.set_cons_zero, List.set_cons_succ]
   refine wpAnyN_one (i := 9) (o := ?o9) (by kernel_rfl) ?hi9 ?hw9 ?st9
   case hi9 => rw [List.getElem?_toArray]; exact rfl
   case hw9 => exact rfl
   intro K hK
   have HK9 : Hid _ := hK
   clear hK
   go_simp
   refine (K3.out _ (H2.out.1.call (Below.drew (Below.refl _ _)))).mono ?_
   rintro e w3 ⟨rfl, hq⟩
   have I3 : Hid (Below w2.heap.size w2 w3) := below_call0 (Below.drew (Below.refl _ _)) hq
   clear hq
   go_wp2_with fail
   refine HK9.out _ _ ⟨fun _ => I3.out, ?_⟩
   clear HK9 K
   try simp only [Act.put, List.setIfInBounds_toArray, List.set_cons_zero, List.set_cons_succ]
   refine wpAnyN_one (i := 24) (o := ?o24) (by kernel_rfl) ?hi24 ?hw24 ?st24
   case hi24 => rw [List.getElem?_toArray]; exact rfl
   case hw24 => exact rfl
   intro K hK
   have HK24 : Hid _ := hK
   clear hK
   go_simp
   refine (K4.out _ (H2.out.1.call I3.out)).mono ?_
   rintro e w4 ⟨rfl, hq⟩
   have I4 : Hid (Below w2.heap.size w2 w4) := below_call0 I3.out hq
   clear hq
   go_wp2_with fail
   refine HK24.out _ _ ⟨fun _ => I4.out, ?_⟩
   clear HK24 K
   try simp only [Act.put, List.setIfInBounds_toArray, List.set_cons_zero, List.set_cons_succ]
   refine wpAnyN_one (i := 25) (o := ?o25) (by kernel_rfl) ?hi25 ?hw25 ?st25
   case hi25 => rw [List.getElem?_toArray]; exact rfl
   case hw25 => exact rfl
   intro K hK
   have HK25 : Hid _ := hK
   clear hK
   go_simp
   refine (K5.out _ (H2.out.1.call I4.out)).mono ?_
   rintro e w5 ⟨rfl, hq⟩
   have I5 : Hid (Below w2.heap.size w2 w5) := below_call0 I4.out hq
   clear hq
   obtain ⟨rz, r0, r1, r2, r3, r4, r5, r6, r7, r8, fr⟩ := H2.out.2.2.2.2.1.call I5.out
   go_wp2_with fail
   refine HK25.out _ _ ⟨fun _ => I5.out, ?_⟩
   clear HK25 K
   try simp only [Act.put, List.setIfInBounds_toArray, List.set_cons_zero, List.set_cons_succ]
   refine wpAnyN_takeF (i := 26) (oi := ?o26) (v := ?v26) ?hi26 (by kernel_rfl) (by kernel_rfl) (by kernel_rfl) (by decide) ?hQ26 ?hy26 I5.out ?more26
   case hi26 => rw [List.getElem?_toArray]; exact rfl
   case hQ26 => exact fun _ _ _ h => h
   case hy26 =>
    refine Or.inl ⟨by rfl, ?_⟩
    intro w' hSw
    clear hSw
    go_simp
    try with_reducible rfl
   simp only [Act.put, List.setIfInBounds_toArray, List.set_cons_zero, List.set_cons_succ]
   refine wpAnyN_one (i := 27) (o := ?o27) (by kernel_rfl) ?hi27 ?hw27 ?st27
   case hi27 => rw [List.getElem?_toArray]; exact rfl
   case hw27 => exact rfl
   intro K hK
   have HK27 : Hid _ := hK
   clear hK
   go_simp
   refine HK27.out _ _ ⟨fun h => absurd h (by decide +kernel), ?_⟩
   clear HK27 K
   try simp only [Act.put, List.setIfInBounds_toArray, List.set_cons_zero, List.set_cons_succ]
   refine wpAnyN_done (by kernel_rfl) ?_ _
   go_wp2_with fail
   clear rz r0 r1 r2 r3 r4 r5 r6 r7 r8 fr
   obtain ⟨w6, hw6⟩ : ∃ z, z = (((((((((w5.setCell ⟨w.heap.size, 0, none⟩ (.int .u64 (limb X 0 : Nat))).setCell ⟨w.heap.size, 1, none⟩ (.int .u64 (limb X 1 : Nat))).setCell ⟨w.heap.size, 2, none⟩ (.int .u64 (limb X 2 : Nat))).setCell ⟨w.heap.size, 3, none⟩ (.int .u64 (limb X 3 : Nat))).setCell ⟨w.heap.size, 4, none⟩ (.int .u64 (limb Y 0 : Nat))).setCell ⟨w.heap.size, 5, none⟩ (.int .u64 (limb Y 1 : Nat))).setCell ⟨w.heap.size, 6, none⟩ (.int .u64 (limb Y 2 : Nat))).setCell ⟨w.heap.size, 7, none⟩ (.int .u64 (limb Y 3 : Nat))).setCell ⟨w.heap.size, 8, none⟩ (.bool false)) := ⟨_, rfl⟩
   rw [← hw6]
   have H6 : PointO w6 w.heap.size X Y false ∧ Below w.heap.size w w6 := by
    rw [hw6]
    exact ⟨(H2.out.2.2.2.2.1.call I5.out).put, below_put9 (below_call0 H2.out.2.2.2.2.2 I5.out) (Nat.le_refl _)⟩
   clear hw6
   obtain ⟨⟨rz, r0, r1, r2, r3, r4, r5, r6, r7, r8, fr⟩, hB⟩ := H6
   refine bodyPost_ret (v := .agg #[.int .u64 (limb (X) 0 : Nat), .int .u64 (limb (X) 1 : Nat), .int .u64 (limb (X) 2 : Nat), .int .u64 (limb (X) 3 : Nat), .int .u64 (limb (Y) 0 : Nat), .int .u64 (limb (Y) 1 : Nat), .int .u64 (limb (Y) 2 : Nat), .int .u64 (limb (Y) 3 : Nat), .bool false]) ?_ rfl ⟨rfl, hB⟩
   simp [results, Tryd.results32, go_sem, r0, r1, r2, r3, r4, r5, r6, r7, r8]
end Go.Proofs.YtgmfecncfekjfaaDoor
