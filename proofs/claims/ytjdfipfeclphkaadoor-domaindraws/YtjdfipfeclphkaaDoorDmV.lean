/- The law DomainDraws. -/
import Derived.Test.YtjdfipfeclphkaaDoorMgF
import Derived.Test.YtjdfipfeclphkaaDoorMgD
namespace Go.Proofs.YtjdfipfeclphkaaDoor
open Go Go.RowKit Go.Lib
attribute [local go_sem] run_eq4

theorem drN_pos (h : ByteArray) : drN h ≠ 0 ∧ drN h < QQ := by
  unfold drN
  by_cases c : scN h = 0
  · rw [if_pos c]; exact ⟨by decide, by decide⟩
  · rw [if_neg c]; exact ⟨c, scN_lt h⟩
set_option maxRecDepth 100000 in
set_option maxHeartbeats 4000000 in
theorem draws_big (s t : ByteArray) (n : Int) (hb : 20000 < s.size + t.size) (hs : s.size < 140737488351233) (ht : t.size < 140737488351233) (w : World) (hG : GlobD w) (hz : 2 < w.heap.size) :
    Calls Tryd.prog 4 #[.string s, .string t, .int .i64 n] w fun e w' => e = .returned (.bool true) ∧ Below w.heap.size w w' := by
  have hb' : (20000 : Int) < (s.size : Int) + (t.size : Int) := by omega
  have hb2 : (s.size : Int) + (t.size : Int) < 281474976710656 := by omega
  have KO : Hid _ := fun (w : World) (hG : GlobD w) (hz : 2 < w.heap.size) => one_any w hG hz
  have HG : Hid (GlobD w ∧ 2 < w.heap.size) := ⟨hG, hz⟩
  clear hb hs ht hG hz
  go_enter Tryd.func4, Tryd.ntmps4
  go_wp2_with fail
  refine (KO.out _ HG.out.1 HG.out.2).mono ?_
  rintro e w1 ⟨rfl, hb1⟩
  have H1 : Hid (Below w.heap.size w w1) := hb1
  clear hb1
  go_wp2_with fail
  go_ret
  exact ⟨rfl, H1.out⟩
set_option maxRecDepth 100000 in
set_option maxHeartbeats 4000000 in
theorem draws_no (s t : ByteArray) (n : Int) (hb : s.size + t.size ≤ 20000) (hd : drawB t n = false) (w : World) (hG : GlobD w) (hz : 2 < w.heap.size) :
    Calls Tryd.prog 4 #[.string s, .string t, .int .i64 n] w fun e w' => e = .returned (.bool true) ∧ Below w.heap.size w w' := by
  have hb' : ¬ ((20000 : Int) < (s.size : Int) + (t.size : Int)) := by omega
  have hb2 : (s.size : Int) + (t.size : Int) < 281474976710656 := by omega
  have KO : Hid _ := fun (w : World) (hG : GlobD w) (hz : 2 < w.heap.size) => one_any w hG hz
  have K1 : Hid _ := fun (w : World) => ddraw_no s t n hd w
  have K2 : Hid _ := fun (w : World) => rdraw_no s t n hd w
  have HG : Hid (GlobD w ∧ 2 < w.heap.size) := ⟨hG, hz⟩
  have q0 : eq4 0 0 0 0 0 0 0 0 = true := by decide
  clear hb hd hG hz
  go_enter Tryd.func4, Tryd.ntmps4
  go_wp2_with fail
  refine (K1.out _).mono ?_
  rintro e w1 ⟨rfl, hb1⟩
  have H1 : Hid (Below w.heap.size w w1) := hb1
  clear hb1
  go_wp2_with fail
  refine (K2.out _).mono ?_
  rintro e w2 ⟨rfl, hb2'⟩
  have H2 : Hid (Below w.heap.size w w2 ∧ NS w2 w1.heap.size 0) := ⟨below_call0' (below_alloc0' H1.out _) hb2', NS.ncall (n := 0) hb2'⟩
  clear hb2' H1
  obtain ⟨⟨x0, x1, x2, x3⟩, xz⟩ := H2.out.2.facts
  rw [limb_nought] at x0 x1 x2 x3
  obtain ⟨w3, hw3⟩ : ∃ x, x = w2.alloc (.cells #[.int .u64 0, .int .u64 0, .int .u64 0, .int .u64 0] 32) := ⟨_, rfl⟩
  have HX : Hid (NS w3 w1.heap.size 0) := by rw [hw3]; exact H2.out.2.alloc
  have HW : Hid (Below w.heap.size w w3) := by rw [hw3]; exact below_alloc0' H2.out.1 _
  go_wp2_with fail
  rw [← hw3]
  clear hw3 H2 x0 x1 x2 x3 xz
  refine wp_region_H (fun w' => Below w3.heap.size w3 w') 25 rfl (by kernel_rfl) ?_
  refine wpAnyH_take (i := 0) (oi := ?o0n) (v := ?v0n) ?hi0n (by kernel_rfl) (by kernel_rfl) (by kernel_rfl) ?hQ0n ?hy0n (Below.drew (Below.refl _ _)) ?more0n
  case hi0n => rw [List.getElem?_toArray]; exact rfl
  case hQ0n => exact fun _ _ _ h => h
  case hy0n =>
    refine Or.inl ⟨by rfl, ?_⟩
    intro w' hSw
    obtain ⟨⟨x0, x1, x2, x3⟩, xz⟩ := (NS.call HX.out hSw).facts
    rw [limb_nought] at x0 x1 x2 x3
    clear hSw
    go_simp
    try with_reducible rfl
  simp only [Act.put, List.setIfInBounds_toArray, List.set_cons_zero, List.set_cons_succ]
  refine wpAnyH_take (i := 1) (oi := ?o1n) (v := ?v1n) ?hi1n (by kernel_rfl) (by kernel_rfl) (by kernel_rfl) ?hQ1n ?hy1n (Below.drew (Below.refl _ _)) ?more1n
  case hi1n => rw [List.getElem?_toArray]; exact rfl
  case hQ1n => exact fun _ _ _ h => h
  case hy1n =>
    refine Or.inl ⟨by rfl, ?_⟩
    intro w' hSw
    obtain ⟨⟨x0, x1, x2, x3⟩, xz⟩ := (NS.call HX.out hSw).facts
    rw [limb_nought] at x0 x1 x2 x3
    clear hSw
    go_simp
    try with_reducible rfl
  simp only [Act.put, List.setIfInBounds_toArray, List.set_cons_zero, List.set_cons_succ]
  refine wpAnyH_take (i := 2) (oi := ?o2n) (v := ?v2n) ?hi2n (by kernel_rfl) (by kernel_rfl) (by kernel_rfl) ?hQ2n ?hy2n (Below.drew (Below.refl _ _)) ?more2n
  case hi2n => rw [List.getElem?_toArray]; exact rfl
  case hQ2n => exact fun _ _ _ h => h
  case hy2n =>
    refine Or.inl ⟨by rfl, ?_⟩
    intro w' hSw
    obtain ⟨⟨x0, x1, x2, x3⟩, xz⟩ := (NS.call HX.out hSw).facts
    rw [limb_nought] at x0 x1 x2 x3
    clear hSw
    go_simp
    try with_reducible rfl
  simp only [Act.put, List.setIfInBounds_toArray, List.set_cons_zero, List.set_cons_succ]
  refine wpAnyH_take (i := 3) (oi := ?o3n) (v := ?v3n) ?hi3n (by kernel_rfl) (by kernel_rfl) (by kernel_rfl) ?hQ3n ?hy3n (Below.drew (Below.refl _ _)) ?more3n
  case hi3n => rw [List.getElem?_toArray]; exact rfl
  case hQ3n => exact fun _ _ _ h => h
  case hy3n =>
    refine Or.inl ⟨by rfl, ?_⟩
    intro w' hSw
    obtain ⟨⟨x0, x1, x2, x3⟩, xz⟩ := (NS.call HX.out hSw).facts
    rw [limb_nought] at x0 x1 x2 x3
    clear hSw
    go_simp
    try with_reducible rfl
  simp only [Act.put, List.setIfInBounds_toArray, List.set_cons_zero, List.set_cons_succ]
  refine wpAnyH_take (i := 4) (oi := ?o4n) (v := ?v4n) ?hi4n (by kernel_rfl) (by kernel_rfl) (by kernel_rfl) ?hQ4n ?hy4n (Below.drew (Below.refl _ _)) ?more4n
  case hi4n => rw [List.getElem?_toArray]; exact rfl
  case hQ4n => exact fun _ _ _ h => h
  case hy4n =>
    refine Or.inl ⟨by rfl, ?_⟩
    intro w' hSw
    obtain ⟨⟨x0, x1, x2, x3⟩, xz⟩ := (NS.call HX.out hSw).facts
    rw [limb_nought] at x0 x1 x2 x3
    clear hSw
    go_simp
    try with_reducible rfl
  simp only [Act.put, List.setIfInBounds_toArray, List.set_cons_zero, List.set_cons_succ]
  refine wpAnyH_take (i := 5) (oi := ?o5n) (v := ?v5n) ?hi5n (by kernel_rfl) (by kernel_rfl) (by kernel_rfl) ?hQ5n ?hy5n (Below.drew (Below.refl _ _)) ?more5n
  case hi5n => rw [List.getElem?_toArray]; exact rfl
  case hQ5n => exact fun _ _ _ h => h
  case hy5n =>
    refine Or.inl ⟨by rfl, ?_⟩
    intro w' hSw
    obtain ⟨⟨x0, x1, x2, x3⟩, xz⟩ := (NS.call HX.out hSw).facts
    rw [limb_nought] at x0 x1 x2 x3
    clear hSw
    go_simp
    try with_reducible rfl
  simp only [Act.put, List.setIfInBounds_toArray, List.set_cons_zero, List.set_cons_succ]
  refine wpAnyH_take (i := 6) (oi := ?o6n) (v := ?v6n) ?hi6n (by kernel_rfl) (by kernel_rfl) (by kernel_rfl) ?hQ6n ?hy6n (Below.drew (Below.refl _ _)) ?more6n
  case hi6n => rw [List.getElem?_toArray]; exact rfl
  case hQ6n => exact fun _ _ _ h => h
  case hy6n =>
    refine Or.inl ⟨by rfl, ?_⟩
    intro w' hSw
    obtain ⟨⟨x0, x1, x2, x3⟩, xz⟩ := (NS.call HX.out hSw).facts
    rw [limb_nought] at x0 x1 x2 x3
    clear hSw
    go_simp
    try with_reducible rfl
  simp only [Act.put, List.setIfInBounds_toArray, List.set_cons_zero, List.set_cons_succ]
  refine wpAnyH_take (i := 7) (oi := ?o7n) (v := ?v7n) ?hi7n (by kernel_rfl) (by kernel_rfl) (by kernel_rfl) ?hQ7n ?hy7n (Below.drew (Below.refl _ _)) ?more7n
  case hi7n => rw [List.getElem?_toArray]; exact rfl
  case hQ7n => exact fun _ _ _ h => h
  case hy7n =>
    refine Or.inl ⟨by rfl, ?_⟩
    intro w' hSw
    obtain ⟨⟨x0, x1, x2, x3⟩, xz⟩ := (NS.call HX.out hSw).facts
    rw [limb_nought] at x0 x1 x2 x3
    clear hSw
    go_simp
    try with_reducible rfl
  simp only [Act.put, List.setIfInBounds_toArray, List.set_cons_zero, List.set_cons_succ]
  refine wpAnyH_take (i := 8) (oi := ?o8n) (v := undef) ?hi8n (by kernel_rfl) (by kernel_rfl) (by kernel_rfl) ?hQ8n ?hy8n (Below.drew (Below.refl _ _)) ?more8n
  case hi8n => rw [List.getElem?_toArray]; exact rfl
  case hQ8n => exact fun _ _ _ h => h
  case hy8n =>
    exact Or.inr ⟨by rfl, rfl⟩
  simp only [Act.put, List.setIfInBounds_toArray, List.set_cons_zero, List.set_cons_succ]
  refine wpAnyH_take (i := 9) (oi := ?o9n) (v := undef) ?hi9n (by kernel_rfl) (by kernel_rfl) (by kernel_rfl) ?hQ9n ?hy9n (Below.drew (Below.refl _ _)) ?more9n
  case hi9n => rw [List.getElem?_toArray]; exact rfl
  case hQ9n => exact fun _ _ _ h => h
  case hy9n =>
    exact Or.inr ⟨by rfl, rfl⟩
  simp only [Act.put, List.setIfInBounds_toArray, List.set_cons_zero, List.set_cons_succ]
  refine wpAnyH_take (i := 10) (oi := ?o10n) (v := undef) ?hi10n (by kernel_rfl) (by kernel_rfl) (by kernel_rfl) ?hQ10n ?hy10n (Below.drew (Below.refl _ _)) ?more10n
  case hi10n => rw [List.getElem?_toArray]; exact rfl
  case hQ10n => exact fun _ _ _ h => h
  case hy10n =>
    exact Or.inr ⟨by rfl, rfl⟩
  simp only [Act.put, List.setIfInBounds_toArray, List.set_cons_zero, List.set_cons_succ]
  refine wpAnyH_take (i := 11) (oi := ?o11n) (v := undef) ?hi11n (by kernel_rfl) (by kernel_rfl) (by kernel_rfl) ?hQ11n ?hy11n (Below.drew (Below.refl _ _)) ?more11n
  case hi11n => rw [List.getElem?_toArray]; exact rfl
  case hQ11n => exact fun _ _ _ h => h
  case hy11n =>
    exact Or.inr ⟨by rfl, rfl⟩
  simp only [Act.put, List.setIfInBounds_toArray, List.set_cons_zero, List.set_cons_succ]
  refine wpAnyH_take (i := 12) (oi := ?o12n) (v := undef) ?hi12n (by kernel_rfl) (by kernel_rfl) (by kernel_rfl) ?hQ12n ?hy12n (Below.drew (Below.refl _ _)) ?more12n
  case hi12n => rw [List.getElem?_toArray]; exact rfl
  case hQ12n => exact fun _ _ _ h => h
  case hy12n =>
    exact Or.inr ⟨by rfl, rfl⟩
  simp only [Act.put, List.setIfInBounds_toArray, List.set_cons_zero, List.set_cons_succ]
  refine wpAnyH_take (i := 13) (oi := ?o13n) (v := undef) ?hi13n (by kernel_rfl) (by kernel_rfl) (by kernel_rfl) ?hQ13n ?hy13n (Below.drew (Below.refl _ _)) ?more13n
  case hi13n => rw [List.getElem?_toArray]; exact rfl
  case hQ13n => exact fun _ _ _ h => h
  case hy13n =>
    exact Or.inr ⟨by rfl, rfl⟩
  simp only [Act.put, List.setIfInBounds_toArray, List.set_cons_zero, List.set_cons_succ]
  refine wpAnyH_take (i := 14) (oi := ?o14n) (v := undef) ?hi14n (by kernel_rfl) (by kernel_rfl) (by kernel_rfl) ?hQ14n ?hy14n (Below.drew (Below.refl _ _)) ?more14n
  case hi14n => rw [List.getElem?_toArray]; exact rfl
  case hQ14n => exact fun _ _ _ h => h
  case hy14n =>
    exact Or.inr ⟨by rfl, rfl⟩
  simp only [Act.put, List.setIfInBounds_toArray, List.set_cons_zero, List.set_cons_succ]
  refine wpAnyH_take (i := 15) (oi := ?o15n) (v := undef) ?hi15n (by kernel_rfl) (by kernel_rfl) (by kernel_rfl) ?hQ15n ?hy15n (Below.drew (Below.refl _ _)) ?more15n
  case hi15n => rw [List.getElem?_toArray]; exact rfl
  case hQ15n => exact fun _ _ _ h => h
  case hy15n =>
    exact Or.inr ⟨by rfl, rfl⟩
  simp only [Act.put, List.setIfInBounds_toArray, List.set_cons_zero, List.set_cons_succ]
  refine wpAnyH_take (i := 16) (oi := ?o16n) (v := undef) ?hi16n (by kernel_rfl) (by kernel_rfl) (by kernel_rfl) ?hQ16n ?hy16n (Below.drew (Below.refl _ _)) ?more16n
  case hi16n => rw [List.getElem?_toArray]; exact rfl
  case hQ16n => exact fun _ _ _ h => h
  case hy16n =>
    exact Or.inr ⟨by rfl, rfl⟩
  simp only [Act.put, List.setIfInBounds_toArray, List.set_cons_zero, List.set_cons_succ]
  refine wpAnyH_take (i := 17) (oi := ?o17n) (v := undef) ?hi17n (by kernel_rfl) (by kernel_rfl) (by kernel_rfl) ?hQ17n ?hy17n (Below.drew (Below.refl _ _)) ?more17n
  case hi17n => rw [List.getElem?_toArray]; exact rfl
  case hQ17n => exact fun _ _ _ h => h
  case hy17n =>
    exact Or.inr ⟨by rfl, rfl⟩
  simp only [Act.put, List.setIfInBounds_toArray, List.set_cons_zero, List.set_cons_succ]
  refine wpAnyH_take (i := 18) (oi := ?o18n) (v := undef) ?hi18n (by kernel_rfl) (by kernel_rfl) (by kernel_rfl) ?hQ18n ?hy18n (Below.drew (Below.refl _ _)) ?more18n
  case hi18n => rw [List.getElem?_toArray]; exact rfl
  case hQ18n => exact fun _ _ _ h => h
  case hy18n =>
    exact Or.inr ⟨by rfl, rfl⟩
  simp only [Act.put, List.setIfInBounds_toArray, List.set_cons_zero, List.set_cons_succ]
  refine wpAnyH_take (i := 19) (oi := ?o19n) (v := undef) ?hi19n (by kernel_rfl) (by kernel_rfl) (by kernel_rfl) ?hQ19n ?hy19n (Below.drew (Below.refl _ _)) ?more19n
  case hi19n => rw [List.getElem?_toArray]; exact rfl
  case hQ19n => exact fun _ _ _ h => h
  case hy19n =>
    exact Or.inr ⟨by rfl, rfl⟩
  simp only [Act.put, List.setIfInBounds_toArray, List.set_cons_zero, List.set_cons_succ]
  refine wpAnyH_take (i := 20) (oi := ?o20n) (v := ?v20n) ?hi20n (by kernel_rfl) (by kernel_rfl) (by kernel_rfl) ?hQ20n ?hy20n (Below.drew (Below.refl _ _)) ?more20n
  case hi20n => rw [List.getElem?_toArray]; exact rfl
  case hQ20n => exact fun _ _ _ h => h
  case hy20n =>
    refine Or.inl ⟨by rfl, ?_⟩
    intro w' hSw
    obtain ⟨⟨x0, x1, x2, x3⟩, xz⟩ := (NS.call HX.out hSw).facts
    rw [limb_nought] at x0 x1 x2 x3
    clear hSw
    go_simp
    try with_reducible rfl
  simp only [Act.put, List.setIfInBounds_toArray, List.set_cons_zero, List.set_cons_succ]
  refine wpAnyH_take (i := 21) (oi := ?o21n) (v := ?v21n) ?hi21n (by kernel_rfl) (by kernel_rfl) (by kernel_rfl) ?hQ21n ?hy21n (Below.drew (Below.refl _ _)) ?more21n
  case hi21n => rw [List.getElem?_toArray]; exact rfl
  case hQ21n => exact fun _ _ _ h => h
  case hy21n =>
    refine Or.inl ⟨by rfl, ?_⟩
    intro w' hSw
    obtain ⟨⟨x0, x1, x2, x3⟩, xz⟩ := (NS.call HX.out hSw).facts
    rw [limb_nought] at x0 x1 x2 x3
    clear hSw
    go_simp
    try with_reducible rfl
  simp only [Act.put, List.setIfInBounds_toArray, List.set_cons_zero, List.set_cons_succ]
  refine wpAnyH_one (i := 22) (o := ?o22n) (by kernel_rfl) ?hi22n ?hw22n ?st22n
  case hi22n => rw [List.getElem?_toArray]; exact rfl
  case hw22n => exact rfl
  intro K hK
  have HK22n : Hid _ := hK
  clear hK
  go_simp
  refine (KO.out _ (HG.out.1.call (below_call0' HW.out (Below.drew (Below.refl _ _)))) (Nat.lt_of_lt_of_le HG.out.2 (below_call0' HW.out (Below.drew (Below.refl _ _))).size)).mono ?_
  rintro e w4 ⟨rfl, hq⟩
  have B4 : Hid (Below w3.heap.size w3 w4) := below_call0' (Below.drew (Below.refl _ _)) hq
  clear hq
  go_wp2_with fail
  refine HK22n.out _ _ ⟨B4.out, ?_⟩
  clear HK22n K
  try simp only [Act.put, List.setIfInBounds_toArray, List.set_cons_zero, List.set_cons_succ]
  refine wpAnyH_take (i := 23) (oi := ?o23n) (v := ?v23n) ?hi23n (by kernel_rfl) (by kernel_rfl) (by kernel_rfl) ?hQ23n ?hy23n B4.out ?more23n
  case hi23n => rw [List.getElem?_toArray]; exact rfl
  case hQ23n => exact fun _ _ _ h => h
  case hy23n =>
    refine Or.inl ⟨by rfl, ?_⟩
    intro w' hSw
    obtain ⟨⟨x0, x1, x2, x3⟩, xz⟩ := (NS.call HX.out hSw).facts
    rw [limb_nought] at x0 x1 x2 x3
    clear hSw
    go_simp
    try with_reducible rfl
  simp only [Act.put, List.setIfInBounds_toArray, List.set_cons_zero, List.set_cons_succ]
  refine wpAnyH_take (i := 24) (oi := ?o24n) (v := ?v24n) ?hi24n (by kernel_rfl) (by kernel_rfl) (by kernel_rfl) ?hQ24n ?hy24n B4.out ?more24n
  case hi24n => rw [List.getElem?_toArray]; exact rfl
  case hQ24n => exact fun _ _ _ h => h
  case hy24n =>
    refine Or.inl ⟨by rfl, ?_⟩
    intro w' hSw
    obtain ⟨⟨x0, x1, x2, x3⟩, xz⟩ := (NS.call HX.out hSw).facts
    rw [limb_nought] at x0 x1 x2 x3
    clear hSw
    go_simp
    try with_reducible rfl
  simp only [Act.put, List.setIfInBounds_toArray, List.set_cons_zero, List.set_cons_succ]
  refine wpAnyH_done (by kernel_rfl) ?_ _
  go_wp2_with fail
  go_ret
  exact ⟨rfl, below_call0' HW.out B4.out⟩
set_option maxRecDepth 100000 in
set_option maxHeartbeats 4000000 in
theorem draws_in (s t : ByteArray) (n : Nat) (hb : s.size + t.size ≤ 20000) (hn : n ≤ 1099511627776) (ht : tagB t = true) (w : World) (hG : GlobD w) (hz : 2 < w.heap.size) (hQ : GlobQ w) :
    Calls Tryd.prog 4 #[.string s, .string t, .int .i64 (n : Nat)] w fun e w' => e = .returned (.bool true) ∧ Below w.heap.size w w' := by
  have hb' : ¬ ((20000 : Int) < (s.size : Int) + (t.size : Int)) := by omega
  have hb2 : (s.size : Int) + (t.size : Int) < 281474976710656 := by omega
  have KO : Hid _ := fun (w : World) (hG : GlobD w) (hz : 2 < w.heap.size) => one_any w hG hz
  have K1 : Hid _ := fun (w : World) (hG : GlobD w) (hz : 2 < w.heap.size) (hQ : GlobQ w) => ddraw_in s t n hn (by omega) ht w hG hz hQ
  have K2 : Hid _ := fun (w : World) => rdraw_in s t n hn (by omega) ht w
  obtain ⟨V, hV⟩ : ∃ V, V = drN (drH s t n) := ⟨_, rfl⟩
  rw [← hV] at K1 K2
  have hp : V ≠ 0 ∧ V < QQ := by rw [hV]; exact drN_pos _
  have hVR : V < R256 := Nat.lt_trans hp.2 QQ_lt
  have KS : Hid _ := fun (w : World) => scalars2_any w
  have KH : Hid _ := fun (w : World) => has2_any QQ V QQ_lt hVR w
  rw [decide_eq_true hp.2] at KH
  obtain ⟨G, hGG⟩ : ∃ G, G = R256 - QQ := ⟨_, rfl⟩
  rw [← hGG] at KS KH
  obtain ⟨m, hm⟩ : ∃ m, m = QQ := ⟨_, rfl⟩
  rw [← hm] at KS KH
  have ev : eq4 (limb V 0 : Nat) (limb V 1 : Nat) (limb V 2 : Nat) (limb V 3 : Nat) (limb V 0 : Nat) (limb V 1 : Nat) (limb V 2 : Nat) (limb V 3 : Nat) = true := by rw [eq4_num V V hVR hVR]; exact decide_eq_true rfl
  have ez : eq4 (limb V 0 : Nat) (limb V 1 : Nat) (limb V 2 : Nat) (limb V 3 : Nat) 0 0 0 0 = false := by rw [eq4_zero V hVR]; exact decide_eq_false hp.1
  have HG : Hid (GlobD w ∧ 2 < w.heap.size ∧ GlobQ w) := ⟨hG, hz, hQ⟩
  clear hb hn ht hG hz hQ hV hp hVR hGG hm
  go_enter Tryd.func4, Tryd.ntmps4
  go_wp2_with fail
  refine (K1.out _ HG.out.1 HG.out.2.1 HG.out.2.2).mono ?_
  rintro e w1 ⟨rfl, hb1⟩
  have H1 : Hid (Below w.heap.size w w1) := hb1
  clear hb1
  go_wp2_with fail
  refine (K2.out _).mono ?_
  rintro e w2 ⟨rfl, hb2'⟩
  have H2 : Hid (Below w.heap.size w w2 ∧ NS w2 w1.heap.size V) := ⟨below_call0' (below_alloc0' H1.out _) hb2', NS.ncall hb2'⟩
  clear hb2' H1
  obtain ⟨⟨x0, x1, x2, x3⟩, xz⟩ := H2.out.2.facts
  obtain ⟨w3, hw3⟩ : ∃ x, x = w2.alloc (.cells #[.int .u64 (limb V 0 : Nat), .int .u64 (limb V 1 : Nat), .int .u64 (limb V 2 : Nat), .int .u64 (limb V 3 : Nat)] 32) := ⟨_, rfl⟩
  have HX : Hid (NS w3 w1.heap.size V) := by rw [hw3]; exact H2.out.2.alloc
  have HW : Hid (Below w.heap.size w w3) := by rw [hw3]; exact below_alloc0' H2.out.1 _
  go_wp2_with fail
  rw [← hw3]
  clear hw3 H2 x0 x1 x2 x3 xz
  refine wp_region_H (fun w' => Below w3.heap.size w3 w') 25 rfl (by kernel_rfl) ?_
  refine wpAnyH_take (i := 0) (oi := ?o0i) (v := ?v0i) ?hi0i (by kernel_rfl) (by kernel_rfl) (by kernel_rfl) ?hQ0i ?hy0i (Below.drew (Below.refl _ _)) ?more0i
  case hi0i => rw [List.getElem?_toArray]; exact rfl
  case hQ0i => exact fun _ _ _ h => h
  case hy0i =>
    refine Or.inl ⟨by rfl, ?_⟩
    intro w' hSw
    obtain ⟨⟨x0, x1, x2, x3⟩, xz⟩ := (NS.call HX.out hSw).facts
    clear hSw
    go_simp
    try with_reducible rfl
  simp only [Act.put, List.setIfInBounds_toArray, List.set_cons_zero, List.set_cons_succ]
  refine wpAnyH_take (i := 1) (oi := ?o1i) (v := ?v1i) ?hi1i (by kernel_rfl) (by kernel_rfl) (by kernel_rfl) ?hQ1i ?hy1i (Below.drew (Below.refl _ _)) ?more1i
  case hi1i => rw [List.getElem?_toArray]; exact rfl
  case hQ1i => exact fun _ _ _ h => h
  case hy1i =>
    refine Or.inl ⟨by rfl, ?_⟩
    intro w' hSw
    obtain ⟨⟨x0, x1, x2, x3⟩, xz⟩ := (NS.call HX.out hSw).facts
    clear hSw
    go_simp
    try with_reducible rfl
  simp only [Act.put, List.setIfInBounds_toArray, List.set_cons_zero, List.set_cons_succ]
  refine wpAnyH_take (i := 2) (oi := ?o2i) (v := ?v2i) ?hi2i (by kernel_rfl) (by kernel_rfl) (by kernel_rfl) ?hQ2i ?hy2i (Below.drew (Below.refl _ _)) ?more2i
  case hi2i => rw [List.getElem?_toArray]; exact rfl
  case hQ2i => exact fun _ _ _ h => h
  case hy2i =>
    refine Or.inl ⟨by rfl, ?_⟩
    intro w' hSw
    obtain ⟨⟨x0, x1, x2, x3⟩, xz⟩ := (NS.call HX.out hSw).facts
    clear hSw
    go_simp
    try with_reducible rfl
  simp only [Act.put, List.setIfInBounds_toArray, List.set_cons_zero, List.set_cons_succ]
  refine wpAnyH_take (i := 3) (oi := ?o3i) (v := undef) ?hi3i (by kernel_rfl) (by kernel_rfl) (by kernel_rfl) ?hQ3i ?hy3i (Below.drew (Below.refl _ _)) ?more3i
  case hi3i => rw [List.getElem?_toArray]; exact rfl
  case hQ3i => exact fun _ _ _ h => h
  case hy3i =>
    exact Or.inr ⟨by rfl, rfl⟩
  simp only [Act.put, List.setIfInBounds_toArray, List.set_cons_zero, List.set_cons_succ]
  refine wpAnyH_take (i := 4) (oi := ?o4i) (v := undef) ?hi4i (by kernel_rfl) (by kernel_rfl) (by kernel_rfl) ?hQ4i ?hy4i (Below.drew (Below.refl _ _)) ?more4i
  case hi4i => rw [List.getElem?_toArray]; exact rfl
  case hQ4i => exact fun _ _ _ h => h
  case hy4i =>
    exact Or.inr ⟨by rfl, rfl⟩
  simp only [Act.put, List.setIfInBounds_toArray, List.set_cons_zero, List.set_cons_succ]
  refine wpAnyH_take (i := 5) (oi := ?o5i) (v := undef) ?hi5i (by kernel_rfl) (by kernel_rfl) (by kernel_rfl) ?hQ5i ?hy5i (Below.drew (Below.refl _ _)) ?more5i
  case hi5i => rw [List.getElem?_toArray]; exact rfl
  case hQ5i => exact fun _ _ _ h => h
  case hy5i =>
    exact Or.inr ⟨by rfl, rfl⟩
  simp only [Act.put, List.setIfInBounds_toArray, List.set_cons_zero, List.set_cons_succ]
  refine wpAnyH_take (i := 6) (oi := ?o6i) (v := ?v6i) ?hi6i (by kernel_rfl) (by kernel_rfl) (by kernel_rfl) ?hQ6i ?hy6i (Below.drew (Below.refl _ _)) ?more6i
  case hi6i => rw [List.getElem?_toArray]; exact rfl
  case hQ6i => exact fun _ _ _ h => h
  case hy6i =>
    refine Or.inl ⟨by rfl, ?_⟩
    intro w' hSw
    obtain ⟨⟨x0, x1, x2, x3⟩, xz⟩ := (NS.call HX.out hSw).facts
    clear hSw
    go_simp
    try with_reducible rfl
  simp only [Act.put, List.setIfInBounds_toArray, List.set_cons_zero, List.set_cons_succ]
  refine wpAnyH_take (i := 7) (oi := ?o7i) (v := ?v7i) ?hi7i (by kernel_rfl) (by kernel_rfl) (by kernel_rfl) ?hQ7i ?hy7i (Below.drew (Below.refl _ _)) ?more7i
  case hi7i => rw [List.getElem?_toArray]; exact rfl
  case hQ7i => exact fun _ _ _ h => h
  case hy7i =>
    refine Or.inl ⟨by rfl, ?_⟩
    intro w' hSw
    obtain ⟨⟨x0, x1, x2, x3⟩, xz⟩ := (NS.call HX.out hSw).facts
    clear hSw
    go_simp
    try with_reducible rfl
  simp only [Act.put, List.setIfInBounds_toArray, List.set_cons_zero, List.set_cons_succ]
  refine wpAnyH_take (i := 8) (oi := ?o8i) (v := ?v8i) ?hi8i (by kernel_rfl) (by kernel_rfl) (by kernel_rfl) ?hQ8i ?hy8i (Below.drew (Below.refl _ _)) ?more8i
  case hi8i => rw [List.getElem?_toArray]; exact rfl
  case hQ8i => exact fun _ _ _ h => h
  case hy8i =>
    refine Or.inl ⟨by rfl, ?_⟩
    intro w' hSw
    obtain ⟨⟨x0, x1, x2, x3⟩, xz⟩ := (NS.call HX.out hSw).facts
    clear hSw
    go_simp
    try with_reducible rfl
  simp only [Act.put, List.setIfInBounds_toArray, List.set_cons_zero, List.set_cons_succ]
  refine wpAnyH_take (i := 9) (oi := ?o9i) (v := ?v9i) ?hi9i (by kernel_rfl) (by kernel_rfl) (by kernel_rfl) ?hQ9i ?hy9i (Below.drew (Below.refl _ _)) ?more9i
  case hi9i => rw [List.getElem?_toArray]; exact rfl
  case hQ9i => exact fun _ _ _ h => h
  case hy9i =>
    refine Or.inl ⟨by rfl, ?_⟩
    intro w' hSw
    obtain ⟨⟨x0, x1, x2, x3⟩, xz⟩ := (NS.call HX.out hSw).facts
    clear hSw
    go_simp
    try with_reducible rfl
  simp only [Act.put, List.setIfInBounds_toArray, List.set_cons_zero, List.set_cons_succ]
  refine wpAnyH_take (i := 10) (oi := ?o10i) (v := ?v10i) ?hi10i (by kernel_rfl) (by kernel_rfl) (by kernel_rfl) ?hQ10i ?hy10i (Below.drew (Below.refl _ _)) ?more10i
  case hi10i => rw [List.getElem?_toArray]; exact rfl
  case hQ10i => exact fun _ _ _ h => h
  case hy10i =>
    refine Or.inl ⟨by rfl, ?_⟩
    intro w' hSw
    obtain ⟨⟨x0, x1, x2, x3⟩, xz⟩ := (NS.call HX.out hSw).facts
    clear hSw
    go_simp
    try with_reducible rfl
  simp only [Act.put, List.setIfInBounds_toArray, List.set_cons_zero, List.set_cons_succ]
  refine wpAnyH_take (i := 11) (oi := ?o11i) (v := ?v11i) ?hi11i (by kernel_rfl) (by kernel_rfl) (by kernel_rfl) ?hQ11i ?hy11i (Below.drew (Below.refl _ _)) ?more11i
  case hi11i => rw [List.getElem?_toArray]; exact rfl
  case hQ11i => exact fun _ _ _ h => h
  case hy11i =>
    refine Or.inl ⟨by rfl, ?_⟩
    intro w' hSw
    obtain ⟨⟨x0, x1, x2, x3⟩, xz⟩ := (NS.call HX.out hSw).facts
    clear hSw
    go_simp
    try with_reducible rfl
  simp only [Act.put, List.setIfInBounds_toArray, List.set_cons_zero, List.set_cons_succ]
  refine wpAnyH_take (i := 12) (oi := ?o12i) (v := ?v12i) ?hi12i (by kernel_rfl) (by kernel_rfl) (by kernel_rfl) ?hQ12i ?hy12i (Below.drew (Below.refl _ _)) ?more12i
  case hi12i => rw [List.getElem?_toArray]; exact rfl
  case hQ12i => exact fun _ _ _ h => h
  case hy12i =>
    refine Or.inl ⟨by rfl, ?_⟩
    intro w' hSw
    obtain ⟨⟨x0, x1, x2, x3⟩, xz⟩ := (NS.call HX.out hSw).facts
    clear hSw
    go_simp
    try with_reducible rfl
  simp only [Act.put, List.setIfInBounds_toArray, List.set_cons_zero, List.set_cons_succ]
  refine wpAnyH_take (i := 13) (oi := ?o13i) (v := ?v13i) ?hi13i (by kernel_rfl) (by kernel_rfl) (by kernel_rfl) ?hQ13i ?hy13i (Below.drew (Below.refl _ _)) ?more13i
  case hi13i => rw [List.getElem?_toArray]; exact rfl
  case hQ13i => exact fun _ _ _ h => h
  case hy13i =>
    refine Or.inl ⟨by rfl, ?_⟩
    intro w' hSw
    obtain ⟨⟨x0, x1, x2, x3⟩, xz⟩ := (NS.call HX.out hSw).facts
    clear hSw
    go_simp
    try with_reducible rfl
  simp only [Act.put, List.setIfInBounds_toArray, List.set_cons_zero, List.set_cons_succ]
  refine wpAnyH_take (i := 14) (oi := ?o14i) (v := ?v14i) ?hi14i (by kernel_rfl) (by kernel_rfl) (by kernel_rfl) ?hQ14i ?hy14i (Below.drew (Below.refl _ _)) ?more14i
  case hi14i => rw [List.getElem?_toArray]; exact rfl
  case hQ14i => exact fun _ _ _ h => h
  case hy14i =>
    refine Or.inl ⟨by rfl, ?_⟩
    intro w' hSw
    obtain ⟨⟨x0, x1, x2, x3⟩, xz⟩ := (NS.call HX.out hSw).facts
    clear hSw
    go_simp
    try with_reducible rfl
  simp only [Act.put, List.setIfInBounds_toArray, List.set_cons_zero, List.set_cons_succ]
  refine wpAnyH_take (i := 15) (oi := ?o15i) (v := ?v15i) ?hi15i (by kernel_rfl) (by kernel_rfl) (by kernel_rfl) ?hQ15i ?hy15i (Below.drew (Below.refl _ _)) ?more15i
  case hi15i => rw [List.getElem?_toArray]; exact rfl
  case hQ15i => exact fun _ _ _ h => h
  case hy15i =>
    refine Or.inl ⟨by rfl, ?_⟩
    intro w' hSw
    obtain ⟨⟨x0, x1, x2, x3⟩, xz⟩ := (NS.call HX.out hSw).facts
    clear hSw
    go_simp
    try with_reducible rfl
  simp only [Act.put, List.setIfInBounds_toArray, List.set_cons_zero, List.set_cons_succ]
  refine wpAnyH_take (i := 17) (oi := ?o17i) (v := ?v17i) ?hi17i (by kernel_rfl) (by kernel_rfl) (by kernel_rfl) ?hQ17i ?hy17i (Below.drew (Below.refl _ _)) ?more17i
  case hi17i => rw [List.getElem?_toArray]; exact rfl
  case hQ17i => exact fun _ _ _ h => h
  case hy17i =>
    refine Or.inl ⟨by rfl, ?_⟩
    intro w' hSw
    obtain ⟨⟨x0, x1, x2, x3⟩, xz⟩ := (NS.call HX.out hSw).facts
    clear hSw
    go_simp
    try with_reducible rfl
  simp only [Act.put, List.setIfInBounds_toArray, List.set_cons_zero, List.set_cons_succ]
  refine wpAnyH_one (i := 16) (o := ?o16i) (by kernel_rfl) ?hi16i ?hw16i ?st16i
  case hi16i => rw [List.getElem?_toArray]; exact rfl
  case hw16i => exact rfl
  intro K hK
  have HK16i : Hid _ := hK
  clear hK
  go_simp
  refine (KS.out _).mono ?_
  rintro e w4 ⟨rfl, hq⟩
  have B4 : Hid (Below w3.heap.size w3 w4) := below_call0' (Below.drew (Below.refl _ _)) hq
  clear hq
  go_wp2_with fail
  refine HK16i.out _ _ ⟨B4.out, ?_⟩
  clear HK16i K
  try simp only [Act.put, List.setIfInBounds_toArray, List.set_cons_zero, List.set_cons_succ]
  refine wpAnyH_one (i := 18) (o := ?o18i) (by kernel_rfl) ?hi18i ?hw18i ?st18i
  case hi18i => rw [List.getElem?_toArray]; exact rfl
  case hw18i => exact rfl
  intro K hK
  have HK18i : Hid _ := hK
  clear hK
  go_simp
  refine (KH.out _).mono ?_
  rintro e w5 ⟨rfl, hq⟩
  have B5 : Hid (Below w3.heap.size w3 w5) := below_call0' B4.out hq
  clear hq
  go_wp2_with fail
  refine HK18i.out _ _ ⟨B5.out, ?_⟩
  clear HK18i K
  try simp only [Act.put, List.setIfInBounds_toArray, List.set_cons_zero, List.set_cons_succ]
  refine wpAnyH_take (i := 19) (oi := ?o19i) (v := ?v19i) ?hi19i (by kernel_rfl) (by kernel_rfl) (by kernel_rfl) ?hQ19i ?hy19i B5.out ?more19i
  case hi19i => rw [List.getElem?_toArray]; exact rfl
  case hQ19i => exact fun _ _ _ h => h
  case hy19i =>
    refine Or.inl ⟨by rfl, ?_⟩
    intro w' hSw
    obtain ⟨⟨x0, x1, x2, x3⟩, xz⟩ := (NS.call HX.out hSw).facts
    clear hSw
    go_simp
    try with_reducible rfl
  simp only [Act.put, List.setIfInBounds_toArray, List.set_cons_zero, List.set_cons_succ]
  refine wpAnyH_take (i := 20) (oi := ?o20i) (v := ?v20i) ?hi20i (by kernel_rfl) (by kernel_rfl) (by kernel_rfl) ?hQ20i ?hy20i B5.out ?more20i
  case hi20i => rw [List.getElem?_toArray]; exact rfl
  case hQ20i => exact fun _ _ _ h => h
  case hy20i =>
    refine Or.inl ⟨by rfl, ?_⟩
    intro w' hSw
    obtain ⟨⟨x0, x1, x2, x3⟩, xz⟩ := (NS.call HX.out hSw).facts
    clear hSw
    go_simp
    try with_reducible rfl
  simp only [Act.put, List.setIfInBounds_toArray, List.set_cons_zero, List.set_cons_succ]
  refine wpAnyH_take (i := 21) (oi := ?o21i) (v := ?v21i) ?hi21i (by kernel_rfl) (by kernel_rfl) (by kernel_rfl) ?hQ21i ?hy21i B5.out ?more21i
  case hi21i => rw [List.getElem?_toArray]; exact rfl
  case hQ21i => exact fun _ _ _ h => h
  case hy21i =>
    refine Or.inl ⟨by rfl, ?_⟩
    intro w' hSw
    obtain ⟨⟨x0, x1, x2, x3⟩, xz⟩ := (NS.call HX.out hSw).facts
    clear hSw
    go_simp
    try with_reducible rfl
  simp only [Act.put, List.setIfInBounds_toArray, List.set_cons_zero, List.set_cons_succ]
  refine wpAnyH_one (i := 22) (o := ?o22i) (by kernel_rfl) ?hi22i ?hw22i ?st22i
  case hi22i => rw [List.getElem?_toArray]; exact rfl
  case hw22i => exact rfl
  intro K hK
  have HK22i : Hid _ := hK
  clear hK
  go_simp
  refine (KO.out _ (HG.out.1.call (below_call0' HW.out B5.out)) (Nat.lt_of_lt_of_le HG.out.2.1 (below_call0' HW.out B5.out).size)).mono ?_
  rintro e w6 ⟨rfl, hq⟩
  have B6 : Hid (Below w3.heap.size w3 w6) := below_call0' B5.out hq
  clear hq
  go_wp2_with fail
  refine HK22i.out _ _ ⟨B6.out, ?_⟩
  clear HK22i K
  try simp only [Act.put, List.setIfInBounds_toArray, List.set_cons_zero, List.set_cons_succ]
  refine wpAnyH_take (i := 23) (oi := ?o23i) (v := ?v23i) ?hi23i (by kernel_rfl) (by kernel_rfl) (by kernel_rfl) ?hQ23i ?hy23i B6.out ?more23i
  case hi23i => rw [List.getElem?_toArray]; exact rfl
  case hQ23i => exact fun _ _ _ h => h
  case hy23i =>
    refine Or.inl ⟨by rfl, ?_⟩
    intro w' hSw
    obtain ⟨⟨x0, x1, x2, x3⟩, xz⟩ := (NS.call HX.out hSw).facts
    clear hSw
    go_simp
    try with_reducible rfl
  simp only [Act.put, List.setIfInBounds_toArray, List.set_cons_zero, List.set_cons_succ]
  refine wpAnyH_take (i := 24) (oi := ?o24i) (v := ?v24i) ?hi24i (by kernel_rfl) (by kernel_rfl) (by kernel_rfl) ?hQ24i ?hy24i B6.out ?more24i
  case hi24i => rw [List.getElem?_toArray]; exact rfl
  case hQ24i => exact fun _ _ _ h => h
  case hy24i =>
    refine Or.inl ⟨by rfl, ?_⟩
    intro w' hSw
    obtain ⟨⟨x0, x1, x2, x3⟩, xz⟩ := (NS.call HX.out hSw).facts
    clear hSw
    go_simp
    try with_reducible rfl
  simp only [Act.put, List.setIfInBounds_toArray, List.set_cons_zero, List.set_cons_succ]
  refine wpAnyH_done (by kernel_rfl) ?_ _
  go_wp2_with fail
  go_ret
  exact ⟨rfl, below_call0' HW.out B6.out⟩
theorem domainDraws_any (s t : ByteArray) (n : Int) (hs : s.size < 140737488351233) (ht : t.size < 140737488351233) (w : World) (hG : GlobD w) (hz : 2 < w.heap.size) (hQ : GlobQ w) :
    Calls Tryd.prog 4 #[.string s, .string t, .int .i64 n] w fun e w' => e = .returned (.bool true) ∧ Below w.heap.size w w' := by
  rcases Nat.lt_or_ge 20000 (s.size + t.size) with hb | hb
  · exact draws_big s t n hb hs ht w hG hz
  rcases Bool.eq_false_or_eq_true (drawB t n) with hd | hd
  · unfold drawB at hd
    rw [Bool.and_eq_true] at hd
    have h2 : 0 ≤ n ∧ n ≤ 1099511627776 := of_decide_eq_true hd.2
    obtain ⟨m, rfl⟩ : ∃ m : Nat, n = (m : Nat) := ⟨n.toNat, by omega⟩
    exact draws_in s t m hb (by omega) hd.1 w hG hz hQ
  · exact draws_no s t n hb hd w hG hz
end Go.Proofs.YtjdfipfeclphkaaDoor
