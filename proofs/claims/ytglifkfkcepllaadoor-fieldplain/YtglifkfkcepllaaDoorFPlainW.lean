/- The walk of the statement FieldPlain. -/
import Derived.Test.YtglifkfkcepllaaDoorFieldH
import Derived.Test.YtglifkfkcepllaaDoorRef2F
import Derived.Test.YtglifkfkcepllaaDoorProdR
import Derived.Test.YtglifkfkcepllaaDoorWalk
import Derived.Test.YtglifkfkcepllaaDoorHeldR
namespace Go.Proofs.YtglifkfkcepllaaDoor
open Go.RowKit
attribute [local go_sem] run_eq4

set_option maxRecDepth 100000 in
set_option maxHeartbeats 8000000 in
theorem plain_go (base : Bool) (m a b V r : Nat)
    (k1 : ∀ w, Glob w → GlobQ w → Calls Tryd.prog 9 #[.bool base] w fun e w' => ∃ g, e = .returned (.tuple #[.pointer (some ⟨g, 0, none⟩), .agg #[.int .u64 (limb m 0 : Nat), .int .u64 (limb m 1 : Nat), .int .u64 (limb m 2 : Nat), .int .u64 (limb m 3 : Nat), .int .u64 (limb (R256 - m) 0 : Nat), .int .u64 (limb (R256 - m) 1 : Nat), .int .u64 (limb (R256 - m) 2 : Nat), .int .u64 (limb (R256 - m) 3 : Nat)]]) ∧ FieldB w' g m ∧ Below w.heap.size w w')
    (k2 : ∀ w, Calls Tryd.prog 21 #[.agg #[.int .u64 (limb (a) 0 : Nat), .int .u64 (limb (a) 1 : Nat), .int .u64 (limb (a) 2 : Nat), .int .u64 (limb (a) 3 : Nat)], .agg #[.int .u64 (limb (b) 0 : Nat), .int .u64 (limb (b) 1 : Nat), .int .u64 (limb (b) 2 : Nat), .int .u64 (limb (b) 3 : Nat)]] w fun e w' => e = .returned (.agg #[.int .u64 (limb (V) 0 : Nat), .int .u64 (limb (V) 1 : Nat), .int .u64 (limb (V) 2 : Nat), .int .u64 (limb (V) 3 : Nat), .int .u64 (limb (V) 4 : Nat), .int .u64 (limb (V) 5 : Nat), .int .u64 (limb (V) 6 : Nat), .int .u64 (limb (V) 7 : Nat)]) ∧ Below w.heap.size w w')
    (k3 : ∀ (g : Nat) (w : World), FieldB w g m → Calls Tryd.prog 23 #[.pointer (some ⟨g, 0, none⟩), .agg #[.int .u64 (limb (V) 0 : Nat), .int .u64 (limb (V) 1 : Nat), .int .u64 (limb (V) 2 : Nat), .int .u64 (limb (V) 3 : Nat), .int .u64 (limb (V) 4 : Nat), .int .u64 (limb (V) 5 : Nat), .int .u64 (limb (V) 6 : Nat), .int .u64 (limb (V) 7 : Nat)]] w fun e w' => e = .returned (.agg #[.int .u64 (limb (r) 0 : Nat), .int .u64 (limb (r) 1 : Nat), .int .u64 (limb (r) 2 : Nat), .int .u64 (limb (r) 3 : Nat)]) ∧ Below w.heap.size w w')
    (k4 : ∀ w, Calls Tryd.prog 25 #[.agg #[.int .u64 (limb (a) 0 : Nat), .int .u64 (limb (a) 1 : Nat), .int .u64 (limb (a) 2 : Nat), .int .u64 (limb (a) 3 : Nat)], .agg #[.int .u64 (limb (b) 0 : Nat), .int .u64 (limb (b) 1 : Nat), .int .u64 (limb (b) 2 : Nat), .int .u64 (limb (b) 3 : Nat)], .agg #[.int .u64 (limb (m) 0 : Nat), .int .u64 (limb (m) 1 : Nat), .int .u64 (limb (m) 2 : Nat), .int .u64 (limb (m) 3 : Nat)]] w fun e w' => e = .returned (.agg #[.int .u64 (limb (r) 0 : Nat), .int .u64 (limb (r) 1 : Nat), .int .u64 (limb (r) 2 : Nat), .int .u64 (limb (r) 3 : Nat)]) ∧ Below w.heap.size w w')
    (w : World) (hG : Glob w) (hQ : GlobQ w) : Calls Tryd.prog 5 #[.bool base, .agg #[.int .u64 (limb (a) 0 : Nat), .int .u64 (limb (a) 1 : Nat), .int .u64 (limb (a) 2 : Nat), .int .u64 (limb (a) 3 : Nat)], .agg #[.int .u64 (limb (b) 0 : Nat), .int .u64 (limb (b) 1 : Nat), .int .u64 (limb (b) 2 : Nat), .int .u64 (limb (b) 3 : Nat)]] w fun e w' => e = .returned (.bool true) ∧ Below w.heap.size w w' := by
  have HG : Hid (Glob w ∧ GlobQ w) := ⟨hG, hQ⟩
  have K1 : Hid _ := k1
  have K2 : Hid _ := k2
  have K3 : Hid _ := k3
  have K4 : Hid _ := k4
  have er : eq4 (limb r 0 : Nat) (limb r 1 : Nat) (limb r 2 : Nat) (limb r 3 : Nat) (limb r 0 : Nat) (limb r 1 : Nat) (limb r 2 : Nat) (limb r 3 : Nat) = true := by simp [eq4]
  clear hG hQ k1 k2 k3 k4
  go_enter Tryd.func5, Tryd.ntmps5
  go_wp2_with fail
  refine (K1.out _ (Glob.alloc (Glob.alloc HG.out.1)) (GlobQ.alloc (GlobQ.alloc HG.out.2))).mono ?_
  rintro e w1 ⟨g, rfl, hF1, hb1⟩
  have HA1 : Hid (NS w1 (w.heap.size) a) := by
    have t := NS.call (W := _) (NS.alloc (NS.new _ _ _)) hb1
    try simp only [World.size_alloc] at t
    exact t
  have HB1 : Hid (NS w1 (w.heap.size + 1) b) := by
    have t := NS.call (W := _) (NS.new _ _ _) hb1
    try simp only [World.size_alloc] at t
    exact t
  have HW1 : Hid (Below w.heap.size w w1) := below_call0 (below_alloc0 (below_alloc0 (Below.refl _ _) _) _) hb1
  have HG1 : Hid (Glob w1) := Glob.call (Glob.alloc (Glob.alloc HG.out.1)) hb1
  have HF1 : Hid (FieldB w1 g m) := hF1
  clear hb1
  clear hF1
  go_wp2_with fail
  obtain ⟨w2, hX⟩ : ∃ x, x = (w1 : World).alloc (.cells #[.int .u64 (limb m 0 : Nat), .int .u64 (limb m 1 : Nat), .int .u64 (limb m 2 : Nat), .int .u64 (limb m 3 : Nat), .int .u64 (limb (R256 - m) 0 : Nat), .int .u64 (limb (R256 - m) 1 : Nat), .int .u64 (limb (R256 - m) 2 : Nat), .int .u64 (limb (R256 - m) 3 : Nat)] 27) := ⟨_, rfl⟩
  rw [← hX]
  have HA2 : Hid (NS w2 (w.heap.size) a) := by rw [hX]; exact NS.alloc HA1.out
  have HB2 : Hid (NS w2 (w.heap.size + 1) b) := by rw [hX]; exact NS.alloc HB1.out
  have HG2 : Hid (Glob w2) := by rw [hX]; exact Glob.alloc HG1.out
  have HF2 : Hid (FieldB w2 g m) := by rw [hX]; exact FieldB.alloc HF1.out
  have HS2 : Hid (FieldB w2 w1.heap.size m) := by rw [hX]; exact FieldB.new _ _ _
  have HW2 : Hid (Below w.heap.size w w2) := by rw [hX]; exact below_alloc0 HW1.out _
  clear hX HA1 HB1 HW1 HG1 HF1
  refine wp_region_H (fun w' => Below w2.heap.size w2 w') 15 rfl (by kernel_rfl) ?_
  refine wpAnyH_take (i := 0) (oi := ?o0) (v := ?v0) ?hi0 (by kernel_rfl) (by kernel_rfl) (by kernel_rfl) ?hQ0 ?hy0 (Below.drew (Below.refl _ _)) ?more0
  case hi0 => rw [List.getElem?_toArray]; exact rfl
  case hQ0 => exact fun _ _ _ h => h
  case hy0 =>
    refine Or.inl ⟨by rfl, ?_⟩
    intro w' hSw
    clear hSw
    go_simp
    try with_reducible rfl
  simp only [Act.put, List.setIfInBounds_toArray, List.set_cons_zero, List.set_cons_succ]
  refine wpAnyH_take (i := 1) (oi := ?o1) (v := ?v1) ?hi1 (by kernel_rfl) (by kernel_rfl) (by kernel_rfl) ?hQ1 ?hy1 (Below.drew (Below.refl _ _)) ?more1
  case hi1 => rw [List.getElem?_toArray]; exact rfl
  case hQ1 => exact fun _ _ _ h => h
  case hy1 =>
    refine Or.inl ⟨by rfl, ?_⟩
    intro w' hSw
    obtain ⟨⟨aa0, aa1, aa2, aa3⟩, aaz⟩ := (NS.call HA2.out hSw).facts
    clear hSw
    go_simp
    try with_reducible rfl
  simp only [Act.put, List.setIfInBounds_toArray, List.set_cons_zero, List.set_cons_succ]
  refine wpAnyH_take (i := 2) (oi := ?o2) (v := ?v2) ?hi2 (by kernel_rfl) (by kernel_rfl) (by kernel_rfl) ?hQ2 ?hy2 (Below.drew (Below.refl _ _)) ?more2
  case hi2 => rw [List.getElem?_toArray]; exact rfl
  case hQ2 => exact fun _ _ _ h => h
  case hy2 =>
    refine Or.inl ⟨by rfl, ?_⟩
    intro w' hSw
    obtain ⟨⟨bb0, bb1, bb2, bb3⟩, bbz⟩ := (NS.call HB2.out hSw).facts
    clear hSw
    go_simp
    try with_reducible rfl
  simp only [Act.put, List.setIfInBounds_toArray, List.set_cons_zero, List.set_cons_succ]
  refine wpAnyH_take (i := 5) (oi := ?o5) (v := ?v5) ?hi5 (by kernel_rfl) (by kernel_rfl) (by kernel_rfl) ?hQ5 ?hy5 (Below.drew (Below.refl _ _)) ?more5
  case hi5 => rw [List.getElem?_toArray]; exact rfl
  case hQ5 => exact fun _ _ _ h => h
  case hy5 =>
    refine Or.inl ⟨by rfl, ?_⟩
    intro w' hSw
    obtain ⟨⟨aa0, aa1, aa2, aa3⟩, aaz⟩ := (NS.call HA2.out hSw).facts
    clear hSw
    go_simp
    try with_reducible rfl
  simp only [Act.put, List.setIfInBounds_toArray, List.set_cons_zero, List.set_cons_succ]
  refine wpAnyH_take (i := 6) (oi := ?o6) (v := ?v6) ?hi6 (by kernel_rfl) (by kernel_rfl) (by kernel_rfl) ?hQ6 ?hy6 (Below.drew (Below.refl _ _)) ?more6
  case hi6 => rw [List.getElem?_toArray]; exact rfl
  case hQ6 => exact fun _ _ _ h => h
  case hy6 =>
    refine Or.inl ⟨by rfl, ?_⟩
    intro w' hSw
    obtain ⟨⟨bb0, bb1, bb2, bb3⟩, bbz⟩ := (NS.call HB2.out hSw).facts
    clear hSw
    go_simp
    try with_reducible rfl
  simp only [Act.put, List.setIfInBounds_toArray, List.set_cons_zero, List.set_cons_succ]
  refine wpAnyH_take (i := 7) (oi := ?o7) (v := ?v7) ?hi7 (by kernel_rfl) (by kernel_rfl) (by kernel_rfl) ?hQ7 ?hy7 (Below.drew (Below.refl _ _)) ?more7
  case hi7 => rw [List.getElem?_toArray]; exact rfl
  case hQ7 => exact fun _ _ _ h => h
  case hy7 =>
    refine Or.inl ⟨by rfl, ?_⟩
    intro w' hSw
    clear hSw
    go_simp
    try with_reducible rfl
  simp only [Act.put, List.setIfInBounds_toArray, List.set_cons_zero, List.set_cons_succ]
  refine wpAnyH_take (i := 8) (oi := ?o8) (v := ?v8) ?hi8 (by kernel_rfl) (by kernel_rfl) (by kernel_rfl) ?hQ8 ?hy8 (Below.drew (Below.refl _ _)) ?more8
  case hi8 => rw [List.getElem?_toArray]; exact rfl
  case hQ8 => exact fun _ _ _ h => h
  case hy8 =>
    refine Or.inl ⟨by rfl, ?_⟩
    intro w' hSw
    obtain ⟨sm0, sm1, sm2, sm3⟩ := (FieldB.call HS2.out hSw).1.facts
    obtain ⟨sg0, sg1, sg2, sg3⟩ := (FieldB.call HS2.out hSw).gap
    clear hSw
    go_simp
    try with_reducible rfl
  simp only [Act.put, List.setIfInBounds_toArray, List.set_cons_zero, List.set_cons_succ]
  refine wpAnyH_one (i := 3) (o := ?o3) (by kernel_rfl) ?hi3 ?hw3 ?st3
  case hi3 => rw [List.getElem?_toArray]; exact rfl
  case hw3 => exact rfl
  intro K hK
  have HK3 : Hid _ := hK
  clear hK
  go_simp
  refine (K2.out _).mono ?_
  rintro e wr2_1 ⟨rfl, hq⟩
  have HB2_1 : Hid (Below w2.heap.size w2 wr2_1) := below_call0 (Below.drew (Below.refl _ _)) hq
  clear hq
  go_wp2_with fail
  refine HK3.out _ _ ⟨HB2_1.out, ?_⟩
  clear HK3 K
  try simp only [Act.put, List.setIfInBounds_toArray, List.set_cons_zero, List.set_cons_succ]
  refine wpAnyH_one (i := 4) (o := ?o4) (by kernel_rfl) ?hi4 ?hw4 ?st4
  case hi4 => rw [List.getElem?_toArray]; exact rfl
  case hw4 => exact rfl
  intro K hK
  have HK4 : Hid _ := hK
  clear hK
  go_simp
  refine (K3.out g _ (FieldB.call HF2.out HB2_1.out)).mono ?_
  rintro e wr2_2 ⟨rfl, hq⟩
  have HB2_2 : Hid (Below w2.heap.size w2 wr2_2) := below_call0 HB2_1.out hq
  clear hq
  go_wp2_with fail
  refine HK4.out _ _ ⟨HB2_2.out, ?_⟩
  clear HK4 K
  try simp only [Act.put, List.setIfInBounds_toArray, List.set_cons_zero, List.set_cons_succ]
  refine wpAnyH_one (i := 9) (o := ?o9) (by kernel_rfl) ?hi9 ?hw9 ?st9
  case hi9 => rw [List.getElem?_toArray]; exact rfl
  case hw9 => exact rfl
  intro K hK
  have HK9 : Hid _ := hK
  clear hK
  go_simp
  refine (K4.out _).mono ?_
  rintro e wr2_3 ⟨rfl, hq⟩
  have HB2_3 : Hid (Below w2.heap.size w2 wr2_3) := below_call0 HB2_2.out hq
  clear hq
  go_wp2_with fail
  refine HK9.out _ _ ⟨HB2_3.out, ?_⟩
  clear HK9 K
  try simp only [Act.put, List.setIfInBounds_toArray, List.set_cons_zero, List.set_cons_succ]
  refine wpAnyH_take (i := 10) (oi := ?o10) (v := ?v10) ?hi10 (by kernel_rfl) (by kernel_rfl) (by kernel_rfl) ?hQ10 ?hy10 HB2_3.out ?more10
  case hi10 => rw [List.getElem?_toArray]; exact rfl
  case hQ10 => exact fun _ _ _ h => h
  case hy10 =>
    refine Or.inl ⟨by rfl, ?_⟩
    intro w' hSw
    clear hSw
    go_simp
    try with_reducible rfl
  simp only [Act.put, List.setIfInBounds_toArray, List.set_cons_zero, List.set_cons_succ]
  refine wpAnyH_take (i := 11) (oi := ?o11) (v := ?v11) ?hi11 (by kernel_rfl) (by kernel_rfl) (by kernel_rfl) ?hQ11 ?hy11 HB2_3.out ?more11
  case hi11 => rw [List.getElem?_toArray]; exact rfl
  case hQ11 => exact fun _ _ _ h => h
  case hy11 =>
    refine Or.inl ⟨by rfl, ?_⟩
    intro w' hSw
    clear hSw
    go_simp
    try with_reducible rfl
  simp only [Act.put, List.setIfInBounds_toArray, List.set_cons_zero, List.set_cons_succ]
  refine wpAnyH_one (i := 12) (o := ?o12) (by kernel_rfl) ?hi12 ?hw12 ?st12
  case hi12 => rw [List.getElem?_toArray]; exact rfl
  case hw12 => exact rfl
  intro K hK
  have HK12 : Hid _ := hK
  clear hK
  go_simp
  refine (half_any _ (Glob.call HG2.out HB2_3.out)).mono ?_
  rintro e wr2_4 ⟨rfl, hq⟩
  have HB2_4 : Hid (Below w2.heap.size w2 wr2_4) := below_call0 HB2_3.out hq
  clear hq
  go_wp2_with fail
  refine HK12.out _ _ ⟨HB2_4.out, ?_⟩
  clear HK12 K
  try simp only [Act.put, List.setIfInBounds_toArray, List.set_cons_zero, List.set_cons_succ]
  refine wpAnyH_take (i := 13) (oi := ?o13) (v := ?v13) ?hi13 (by kernel_rfl) (by kernel_rfl) (by kernel_rfl) ?hQ13 ?hy13 HB2_4.out ?more13
  case hi13 => rw [List.getElem?_toArray]; exact rfl
  case hQ13 => exact fun _ _ _ h => h
  case hy13 =>
    refine Or.inl ⟨by rfl, ?_⟩
    intro w' hSw
    clear hSw
    go_simp
    try with_reducible rfl
  simp only [Act.put, List.setIfInBounds_toArray, List.set_cons_zero, List.set_cons_succ]
  refine wpAnyH_take (i := 14) (oi := ?o14) (v := ?v14) ?hi14 (by kernel_rfl) (by kernel_rfl) (by kernel_rfl) ?hQ14 ?hy14 HB2_4.out ?more14
  case hi14 => rw [List.getElem?_toArray]; exact rfl
  case hQ14 => exact fun _ _ _ h => h
  case hy14 =>
    refine Or.inl ⟨by rfl, ?_⟩
    intro w' hSw
    clear hSw
    go_simp
    try with_reducible rfl
  simp only [Act.put, List.setIfInBounds_toArray, List.set_cons_zero, List.set_cons_succ]
  refine wpAnyH_done (by kernel_rfl) ?_ _
  go_wp2_with fail
  go_ret
  exact ⟨rfl, below_call0 HW2.out HB2_4.out⟩

theorem fieldPlain_any (base : Bool) (a b : Nat) (ha : a < R256) (hb : b < R256) (w : World) (hG : Glob w) (hQ : GlobQ w) : Calls Tryd.prog 5 #[.bool base, .agg #[.int .u64 (limb (a) 0 : Nat), .int .u64 (limb (a) 1 : Nat), .int .u64 (limb (a) 2 : Nat), .int .u64 (limb (a) 3 : Nat)], .agg #[.int .u64 (limb (b) 0 : Nat), .int .u64 (limb (b) 1 : Nat), .int .u64 (limb (b) 2 : Nat), .int .u64 (limb (b) 3 : Nat)]] w fun e w' => e = .returned (.bool true) ∧ Below w.heap.size w w' := by
  have hF := FM_B base
  have h0 : 0 < mB base := by have := hF.pos; omega
  exact plain_go base (mB base) a b (a * b) (a * b % mB base) (of_any base) (times2_any a b ha hb) (fun g w h => reduce_any g _ _ hF (Nat.mul_lt_mul_of_lt_of_le ha (Nat.le_of_lt hb) (by decide)) w h) (product_ref a b _ ha hb h0 hF.2.1) w hG hQ
end Go.Proofs.YtglifkfkcepllaaDoor
