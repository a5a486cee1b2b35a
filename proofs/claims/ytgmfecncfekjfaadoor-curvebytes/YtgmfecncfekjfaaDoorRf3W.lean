/- The reference's curve: Encode. -/
import Derived.Test.YtgmfecncfekjfaaDoorRf3I
import Derived.Test.YtgmfecncfekjfaaDoorCvBz
import Derived.Test.YtgmfecncfekjfaaDoorHeldB
namespace Go.Proofs.YtgmfecncfekjfaaDoor
open Go Go.RowKit Go.Lib

def Byt (w : World) (b : Nat) (c : Int) : Prop := w.cell? ⟨b, 0, none⟩ = some (.int .u8 c) ∧ b < w.heap.size
theorem Byt.call {w w' : World} {b : Nat} {c : Int} (h : Byt w b c) (hb : Below w.heap.size w w') : Byt w' b c := ⟨(hb.cell (p := ⟨b, 0, none⟩) h.2).trans h.1, Nat.lt_of_lt_of_le h.2 hb.size⟩
theorem Byt.new {W : World} {b : Nat} {c : Int} {t : TypeId} (h : b = W.heap.size) : Byt (W.alloc (.cells #[.int .u8 c] t)) b c := by
 subst h
 exact ⟨by rw [World.cell?_alloc_new]; rfl, by simp⟩
set_option maxRecDepth 100000 in
set_option maxHeartbeats 4000000 in
theorem encode_badR (x y : Nat) (i : Bool) (hX : x < R256) (hY : y < R256) (hk : ptOk x y i = false) (w : World) :
  Calls Tryd.prog 21 #[.agg #[.int .u64 (limb (x) 0 : Nat), .int .u64 (limb (x) 1 : Nat), .int .u64 (limb (x) 2 : Nat), .int .u64 (limb (x) 3 : Nat), .int .u64 (limb (y) 0 : Nat), .int .u64 (limb (y) 1 : Nat), .int .u64 (limb (y) 2 : Nat), .int .u64 (limb (y) 3 : Nat), .bool i]] w fun e w' => e = .returned (.tuple #[.string ⟨#[]⟩, .int .i64 30]) ∧ Below w.heap.size w w' := by
 have K1 : Hid (∀ w, Calls Tryd.prog 12 #[.agg #[.int .u64 (limb (x) 0 : Nat), .int .u64 (limb (x) 1 : Nat), .int .u64 (limb (x) 2 : Nat), .int .u64 (limb (x) 3 : Nat), .int .u64 (limb (y) 0 : Nat), .int .u64 (limb (y) 1 : Nat), .int .u64 (limb (y) 2 : Nat), .int .u64 (limb (y) 3 : Nat), .bool i]] w fun e w' => e = .returned (.bool false) ∧ Below w.heap.size w w') := fun w => by have k := is3_any x y i hX hY w; rw [hk] at k; exact k
 obtain ⟨w0, hw0⟩ : ∃ wq, wq = (w.alloc (.cells #[.int .u64 (limb (x) 0 : Nat), .int .u64 (limb (x) 1 : Nat), .int .u64 (limb (x) 2 : Nat), .int .u64 (limb (x) 3 : Nat), .int .u64 (limb (y) 0 : Nat), .int .u64 (limb (y) 1 : Nat), .int .u64 (limb (y) 2 : Nat), .int .u64 (limb (y) 3 : Nat), .bool i] 26)) := ⟨_, rfl⟩
 have H0 : Hid (OwnC w0 (w.heap.size) (ptL x y i)) ∧ Hid (Below w.heap.size w w0) := by
  rw [hw0]
  exact ⟨(OwnC.new' rfl), below_alloc0 (Below.refl _ _) _⟩
 obtain ⟨P0_0, W_0⟩ := H0
 clear hX hY hk
 go_enter Tryd.func21, Tryd.ntmps21
 go_upto_region 1 with fail
 rw [← hw0]
 clear hw0
 obtain ⟨fP0z, fP00, fP01, fP02, fP03, fP04, fP05, fP06, fP07, fP08, fP0f⟩ := (P0_0.out).pt
 go_wp2_with fail
 clear fP0z fP00 fP01 fP02 fP03 fP04 fP05 fP06 fP07 fP08 fP0f
 refine (K1.out _).mono ?_
 rintro e w1 ⟨rfl, hq⟩
 have P0_1 : Hid (OwnC w1 (w.heap.size) (ptL x y i)) := OwnC.call P0_0.out hq
 have W_1 : Hid (Below w.heap.size w w1) := below_call0 W_0.out hq
 clear hq P0_0 W_0
 go_upto_region 2 with fail
 go_wp2_with fail
 go_ret2
 exact ⟨rfl, W_1.out⟩
set_option maxRecDepth 100000 in
set_option maxHeartbeats 4000000 in
theorem encode_infR (x y : Nat) (hX : x < R256) (hY : y < R256) (hk : ptOk x y true = true) (w : World) :
  Calls Tryd.prog 21 #[.agg #[.int .u64 (limb (x) 0 : Nat), .int .u64 (limb (x) 1 : Nat), .int .u64 (limb (x) 2 : Nat), .int .u64 (limb (x) 3 : Nat), .int .u64 (limb (y) 0 : Nat), .int .u64 (limb (y) 1 : Nat), .int .u64 (limb (y) 2 : Nat), .int .u64 (limb (y) 3 : Nat), .bool true]] w fun e w' => e = .returned (.tuple #[.string z33, .int .i64 0]) ∧ Below w.heap.size w w' := by
 have K1 : Hid (∀ w, Calls Tryd.prog 12 #[.agg #[.int .u64 (limb (x) 0 : Nat), .int .u64 (limb (x) 1 : Nat), .int .u64 (limb (x) 2 : Nat), .int .u64 (limb (x) 3 : Nat), .int .u64 (limb (y) 0 : Nat), .int .u64 (limb (y) 1 : Nat), .int .u64 (limb (y) 2 : Nat), .int .u64 (limb (y) 3 : Nat), .bool true]] w fun e w' => e = .returned (.bool true) ∧ Below w.heap.size w w') := fun w => by have k := is3_any x y true hX hY w; rw [hk] at k; exact k
 obtain ⟨w0, hw0⟩ : ∃ wq, wq = (w.alloc (.cells #[.int .u64 (limb (x) 0 : Nat), .int .u64 (limb (x) 1 : Nat), .int .u64 (limb (x) 2 : Nat), .int .u64 (limb (x) 3 : Nat), .int .u64 (limb (y) 0 : Nat), .int .u64 (limb (y) 1 : Nat), .int .u64 (limb (y) 2 : Nat), .int .u64 (limb (y) 3 : Nat), .bool true] 26)) := ⟨_, rfl⟩
 have H0 : Hid (OwnC w0 (w.heap.size) (ptL x y true)) ∧ Hid (Below w.heap.size w w0) := by
  rw [hw0]
  exact ⟨(OwnC.new' rfl), below_alloc0 (Below.refl _ _) _⟩
 obtain ⟨P0_0, W_0⟩ := H0
 clear hX hY hk
 go_enter Tryd.func21, Tryd.ntmps21
 go_upto_region 1 with fail
 rw [← hw0]
 clear hw0
 obtain ⟨fP0z, fP00, fP01, fP02, fP03, fP04, fP05, fP06, fP07, fP08, fP0f⟩ := (P0_0.out).pt
 go_wp2_with fail
 clear fP0z fP00 fP01 fP02 fP03 fP04 fP05 fP06 fP07 fP08 fP0f
 refine (K1.out _).mono ?_
 rintro e w1 ⟨rfl, hq⟩
 have P0_1 : Hid (OwnC w1 (w.heap.size) (ptL x y true)) := OwnC.call P0_0.out hq
 have W_1 : Hid (Below w.heap.size w w1) := below_call0 W_0.out hq
 clear hq P0_0 W_0
 obtain ⟨fP0z, fP00, fP01, fP02, fP03, fP04, fP05, fP06, fP07, fP08, fP0f⟩ := (P0_1.out).pt
 go_upto_region 4 with fail
 clear fP0z fP00 fP01 fP02 fP03 fP04 fP05 fP06 fP07 fP08 fP0f
 have hm := make_33
 have hc := conv_33
 go_wp2_with fail
 clear hm hc
 go_ret2
 exact ⟨rfl, below_alloc0 W_1.out _⟩
set_option maxRecDepth 100000 in
set_option maxHeartbeats 4000000 in
theorem encode_evenR (x y : Nat) (hX : x < R256) (hY : y < R256) (hk : ptOk x y false = true) (hp : y % 2 = 0) (w : World) :
  Calls Tryd.prog 21 #[.agg #[.int .u64 (limb (x) 0 : Nat), .int .u64 (limb (x) 1 : Nat), .int .u64 (limb (x) 2 : Nat), .int .u64 (limb (x) 3 : Nat), .int .u64 (limb (y) 0 : Nat), .int .u64 (limb (y) 1 : Nat), .int .u64 (limb (y) 2 : Nat), .int .u64 (limb (y) 3 : Nat), .bool false]] w fun e w' => e = .returned (.tuple #[.string (encF 2 x), .int .i64 0]) ∧ Below w.heap.size w w' := by
 have K1 : Hid (∀ w, Calls Tryd.prog 12 #[.agg #[.int .u64 (limb (x) 0 : Nat), .int .u64 (limb (x) 1 : Nat), .int .u64 (limb (x) 2 : Nat), .int .u64 (limb (x) 3 : Nat), .int .u64 (limb (y) 0 : Nat), .int .u64 (limb (y) 1 : Nat), .int .u64 (limb (y) 2 : Nat), .int .u64 (limb (y) 3 : Nat), .bool false]] w fun e w' => e = .returned (.bool true) ∧ Below w.heap.size w w') := fun w => by have k := is3_any x y false hX hY w; rw [hk] at k; exact k
 have KY : Hid (∀ w, Calls Tryd.prog 52 #[.agg #[.int .u64 (limb (x) 0 : Nat), .int .u64 (limb (x) 1 : Nat), .int .u64 (limb (x) 2 : Nat), .int .u64 (limb (x) 3 : Nat)]] w fun e w' => e = .returned (.string ⟨(bytesL x 32).toArray⟩) ∧ Below w.heap.size w w') := fun w => bytes_ref x w
 have lp : limb y 0 % 2 = 0 := by rw [limb_zero]; exact (Nat.mod_mod_of_dvd y (show 2 ∣ M64 from by decide)).trans hp
 have lp1 : (limb y 0 : Int) % 2 = 0 := by omega
 have lp2 : (limb y 0 : Int).tmod 2 = 0 := by rw [Int.tmod_eq_emod_of_nonneg (by omega)]; exact lp1
 obtain ⟨w0, hw0⟩ : ∃ wq, wq = (w.alloc (.cells #[.int .u64 (limb (x) 0 : Nat), .int .u64 (limb (x) 1 : Nat), .int .u64 (limb (x) 2 : Nat), .int .u64 (limb (x) 3 : Nat), .int .u64 (limb (y) 0 : Nat), .int .u64 (limb (y) 1 : Nat), .int .u64 (limb (y) 2 : Nat), .int .u64 (limb (y) 3 : Nat), .bool false] 26)) := ⟨_, rfl⟩
 have H0 : Hid (OwnC w0 (w.heap.size) (ptL x y false)) ∧ Hid (Below w.heap.size w w0) := by
  rw [hw0]
  exact ⟨(OwnC.new' rfl), below_alloc0 (Below.refl _ _) _⟩
 obtain ⟨P0_0, W_0⟩ := H0
 clear hX hY hk hp lp
 go_enter Tryd.func21, Tryd.ntmps21
 go_upto_region 1 with fail
 rw [← hw0]
 clear hw0
 obtain ⟨fP0z, fP00, fP01, fP02, fP03, fP04, fP05, fP06, fP07, fP08, fP0f⟩ := (P0_0.out).pt
 go_wp2_with fail
 clear fP0z fP00 fP01 fP02 fP03 fP04 fP05 fP06 fP07 fP08 fP0f
 refine (K1.out _).mono ?_
 rintro e w1 ⟨rfl, hq⟩
 have P0_1 : Hid (OwnC w1 (w.heap.size) (ptL x y false)) := OwnC.call P0_0.out hq
 have W_1 : Hid (Below w.heap.size w w1) := below_call0 W_0.out hq
 clear hq P0_0 W_0
 obtain ⟨fP0z, fP00, fP01, fP02, fP03, fP04, fP05, fP06, fP07, fP08, fP0f⟩ := (P0_1.out).pt
 go_upto_region 5 with fail
 clear fP0z fP00 fP01 fP02 fP03 fP04 fP05 fP06 fP07 fP08 fP0f
 have hlb := bytesL_length x 32
 have wu : IntKind.u64.wrap 2 = 2 := by decide
 have wv : IntKind.u8.wrap 2 = 2 := by decide
 refine wp_region_N (fun w' => Below w1.heap.size w1 w') 12 14 rfl (by kernel_rfl) ?_
 refine wpAnyN_take (i := 0) (oi := ?o0h) (v := ?v0h) ?hi0h (by kernel_rfl) (by kernel_rfl) (by kernel_rfl) (by kernel_rfl) (by decide) (by kernel_rfl) ?hQ0h ?hy0h (Below.drew (Below.refl _ _)) ?more0h
 case hi0h => rw [List.getElem?_toArray]; exact rfl
 case hQ0h => exact fun _ _ _ h => h
 case hy0h =>
  refine Or.inl ⟨by rfl, ?_⟩
  intro w' hSw
  obtain ⟨fP0z, fP00, fP01, fP02, fP03, fP04, fP05, fP06, fP07, fP08, fP0f⟩ := (OwnC.call P0_1.out hSw).pt
  clear hSw
  go_simp
  try with_reducible rfl
 simp only [Act.put, List.setIfInBounds_toArray, List.set_cons_zero, List.set_cons_succ]
 refine wpAnyN_take (i := 1) (oi := ?o1h) (v := ?v1h) ?hi1h (by kernel_rfl) (by kernel_rfl) (by kernel_rfl) (by kernel_rfl) (by decide) (by kernel_rfl) ?hQ1h ?hy1h (Below.drew (Below.refl _ _)) ?more1h
 case hi1h => rw [List.getElem?_toArray]; exact rfl
 case hQ1h => exact fun _ _ _ h => h
 case hy1h =>
  refine Or.inl ⟨by rfl, ?_⟩
  intro w' hSw
  obtain ⟨fP0z, fP00, fP01, fP02, fP03, fP04, fP05, fP06, fP07, fP08, fP0f⟩ := (OwnC.call P0_1.out hSw).pt
  clear hSw
  go_simp
  try with_reducible rfl
 simp only [Act.put, List.setIfInBounds_toArray, List.set_cons_zero, List.set_cons_succ]
 refine wpAnyN_take (i := 2) (oi := ?o2h) (v := ?v2h) ?hi2h (by kernel_rfl) (by kernel_rfl) (by kernel_rfl) (by kernel_rfl) (by decide) (by kernel_rfl) ?hQ2h ?hy2h (Below.drew (Below.refl _ _)) ?more2h
 case hi2h => rw [List.getElem?_toArray]; exact rfl
 case hQ2h => exact fun _ _ _ h => h
 case hy2h =>
  refine Or.inl ⟨by rfl, ?_⟩
  intro w' hSw
  obtain ⟨fP0z, fP00, fP01, fP02, fP03, fP04, fP05, fP06, fP07, fP08, fP0f⟩ := (OwnC.call P0_1.out hSw).pt
  clear hSw
  go_simp
  try with_reducible rfl
 simp only [Act.put, List.setIfInBounds_toArray, List.set_cons_zero, List.set_cons_succ]
 refine wpAnyN_take (i := 3) (oi := ?o3h) (v := ?v3h) ?hi3h (by kernel_rfl) (by kernel_rfl) (by kernel_rfl) (by kernel_rfl) (by decide) (by kernel_rfl) ?hQ3h ?hy3h (Below.drew (Below.refl _ _)) ?more3h
 case hi3h => rw [List.getElem?_toArray]; exact rfl
 case hQ3h => exact fun _ _ _ h => h
 case hy3h =>
  refine Or.inl ⟨by rfl, ?_⟩
  intro w' hSw
  obtain ⟨fP0z, fP00, fP01, fP02, fP03, fP04, fP05, fP06, fP07, fP08, fP0f⟩ := (OwnC.call P0_1.out hSw).pt
  clear hSw
  go_simp
  try with_reducible rfl
 simp only [Act.put, List.setIfInBounds_toArray, List.set_cons_zero, List.set_cons_succ]
 refine wpAnyN_take (i := 4) (oi := ?o4h) (v := ?v4h) ?hi4h (by kernel_rfl) (by kernel_rfl) (by kernel_rfl) (by kernel_rfl) (by decide) (by kernel_rfl) ?hQ4h ?hy4h (Below.drew (Below.refl _ _)) ?more4h
 case hi4h => rw [List.getElem?_toArray]; exact rfl
 case hQ4h => exact fun _ _ _ h => h
 case hy4h =>
  refine Or.inl ⟨by rfl, ?_⟩
  intro w' hSw
  obtain ⟨fP0z, fP00, fP01, fP02, fP03, fP04, fP05, fP06, fP07, fP08, fP0f⟩ := (OwnC.call P0_1.out hSw).pt
  clear hSw
  go_simp
  try with_reducible rfl
 simp only [Act.put, List.setIfInBounds_toArray, List.set_cons_zero, List.set_cons_succ]
 refine wpAnyN_take (i := 5) (oi := ?o5h) (v := ?v5h) ?hi5h (by kernel_rfl) (by kernel_rfl) (by kernel_rfl) (by kernel_rfl) (by decide) (by kernel_rfl) ?hQ5h ?hy5h (Below.drew (Below.refl _ _)) ?more5h
 case hi5h => rw [List.getElem?_toArray]; exact rfl
 case hQ5h => exact fun _ _ _ h => h
 case hy5h =>
  refine Or.inl ⟨by rfl, ?_⟩
  intro w' hSw
  obtain ⟨fP0z, fP00, fP01, fP02, fP03, fP04, fP05, fP06, fP07, fP08, fP0f⟩ := (OwnC.call P0_1.out hSw).pt
  clear hSw
  go_simp
  try with_reducible rfl
 simp only [Act.put, List.setIfInBounds_toArray, List.set_cons_zero, List.set_cons_succ]
 refine wpAnyN_take (i := 8) (oi := ?o8h) (v := ?v8h) ?hi8h (by kernel_rfl) (by kernel_rfl) (by kernel_rfl) (by kernel_rfl) (by decide) (by kernel_rfl) ?hQ8h ?hy8h (Below.drew (Below.refl _ _)) ?more8h
 case hi8h => rw [List.getElem?_toArray]; exact rfl
 case hQ8h => exact fun _ _ _ h => h
 case hy8h =>
  refine Or.inl ⟨by rfl, ?_⟩
  intro w' hSw
  obtain ⟨fP0z, fP00, fP01, fP02, fP03, fP04, fP05, fP06, fP07, fP08, fP0f⟩ := (OwnC.call P0_1.out hSw).pt
  clear hSw
  go_simp
  try with_reducible rfl
 simp only [Act.put, List.setIfInBounds_toArray, List.set_cons_zero, List.set_cons_succ]
 refine wpAnyN_take (i := 9) (oi := ?o9h) (v := ?v9h) ?hi9h (by kernel_rfl) (by kernel_rfl) (by kernel_rfl) (by kernel_rfl) (by decide) (by kernel_rfl) ?hQ9h ?hy9h (Below.drew (Below.refl _ _)) ?more9h
 case hi9h => rw [List.getElem?_toArray]; exact rfl
 case hQ9h => exact fun _ _ _ h => h
 case hy9h =>
  refine Or.inl ⟨by rfl, ?_⟩
  intro w' hSw
  obtain ⟨fP0z, fP00, fP01, fP02, fP03, fP04, fP05, fP06, fP07, fP08, fP0f⟩ := (OwnC.call P0_1.out hSw).pt
  clear hSw
  go_simp
  try with_reducible rfl
 simp only [Act.put, List.setIfInBounds_toArray, List.set_cons_zero, List.set_cons_succ]
 refine wpAnyN_two (i := 6) (j := 10) (o := ?o6hx1) (p := ?o10hx1) (by kernel_rfl) ?hi6hx1 ?hi10hx1 ?hw6hx1 ?hw10hx1 ?st6hx1 ?st10hx1
 case hi6hx1 => rw [List.getElem?_toArray]; exact rfl
 case hw6hx1 => exact rfl
 case hi10hx1 => rw [List.getElem?_toArray]; exact rfl
 case hw10hx1 => exact rfl
 case st6hx1 =>
  intro K hK
  have HK6hy2 : Hid _ := hK
  clear hK
  go_simp
  refine HK6hy2.out _ _ ⟨fun _ => (below_alloc0 (Below.drew (Below.refl _ _)) _), ?_⟩
  clear HK6hy2 K
  try simp only [Act.put, List.setIfInBounds_toArray, List.set_cons_zero, List.set_cons_succ]
  refine wpAnyN_two (i := 7) (j := 10) (o := ?o7hy2x3) (p := ?o10hy2x3) (by kernel_rfl) ?hi7hy2x3 ?hi10hy2x3 ?hw7hy2x3 ?hw10hy2x3 ?st7hy2x3 ?st10hy2x3
  case hi7hy2x3 => rw [List.getElem?_toArray]; exact rfl
  case hw7hy2x3 => exact rfl
  case hi10hy2x3 => rw [List.getElem?_toArray]; exact rfl
  case hw10hy2x3 => exact rfl
  case st7hy2x3 =>
   intro K hK
   have HK7hy4 : Hid _ := hK
   clear hK
   have hcv := conv_1 (w := (w1.alloc (.cells #[.int .u8 2] 5))) (b := w1.heap.size) 2 ((Byt.new (c := 2) (t := 5) (W := w1.drew) rfl)).1
   have hcw := conv_1 (w := (w1.alloc (.cells #[.int .u8 2] 5)).drew) (b := w1.heap.size) 2 ((Byt.new (c := 2) (t := 5) (W := w1.drew) rfl)).1
   go_simp
   refine HK7hy4.out _ _ ⟨fun _ => (below_alloc0 (Below.drew (Below.refl _ _)) _), ?_⟩
   clear HK7hy4 K
   try simp only [Act.put, List.setIfInBounds_toArray, List.set_cons_zero, List.set_cons_succ]
   refine wpAnyN_one (i := 10) (o := ?o10hy4) (by kernel_rfl) ?hi10hy4 ?hw10hy4 ?st10hy4
   case hi10hy4 => rw [List.getElem?_toArray]; exact rfl
   case hw10hy4 => exact rfl
   intro K hK
   have HK10hy4 : Hid _ := hK
   clear hK
   go_simp
   refine (KY.out _).mono ?_
   rintro e w10hy4 ⟨rfl, hq⟩
   have H10hy4 : Hid (Below w1.heap.size w1 w10hy4) := below_call0 (below_alloc0 (Below.drew (Below.refl _ _)) _) hq
   have P10hy4 : Hid (Byt w10hy4 (w1.heap.size) 2) := Byt.call (Byt.new (c := 2) (t := 5) (W := w1.drew) rfl) hq
   clear hq
   go_wp2_with fail
   refine HK10hy4.out _ _ ⟨fun _ => H10hy4.out, ?_⟩
   clear HK10hy4 K
   try simp only [Act.put, List.setIfInBounds_toArray, List.set_cons_zero, List.set_cons_succ]
   refine wpAnyN_takeF (i := 11) (oi := ?o11hy4) (v := ?v11hy4) ?hi11hy4 (by kernel_rfl) (by kernel_rfl) (by kernel_rfl) (by decide) ?hQ11hy4 ?hy11hy4 H10hy4.out ?more11hy4
   case hi11hy4 => rw [List.getElem?_toArray]; exact rfl
   case hQ11hy4 => exact fun _ _ _ h => h
   case hy11hy4 =>
    refine Or.inl ⟨by rfl, ?_⟩
    intro w' hSw
    clear hSw
    go_simp
    try with_reducible rfl
   simp only [Act.put, List.setIfInBounds_toArray, List.set_cons_zero, List.set_cons_succ]
   refine wpAnyN_one (i := 12) (o := ?o12hy4) (by kernel_rfl) ?hi12hy4 ?hw12hy4 ?st12hy4
   case hi12hy4 => rw [List.getElem?_toArray]; exact rfl
   case hw12hy4 => exact rfl
   intro K hK
   have HK12hy4 : Hid _ := hK
   clear hK
   go_simp
   refine HK12hy4.out _ _ ⟨fun h => absurd h (by decide +kernel), ?_⟩
   clear HK12hy4 K
   try simp only [Act.put, List.setIfInBounds_toArray, List.set_cons_zero, List.set_cons_succ]
   refine wpAnyN_one (i := 13) (o := ?o13hy4) (by kernel_rfl) ?hi13hy4 ?hw13hy4 ?st13hy4
   case hi13hy4 => rw [List.getElem?_toArray]; exact rfl
   case hw13hy4 => exact rfl
   intro K hK
   have HK13hy4 : Hid _ := hK
   clear hK
   go_simp
   refine HK13hy4.out _ _ ⟨fun h => absurd h (by decide +kernel), ?_⟩
   clear HK13hy4 K
   try simp only [Act.put, List.setIfInBounds_toArray, List.set_cons_zero, List.set_cons_succ]
   refine wpAnyN_done (by kernel_rfl) ?_ _
   go_wp2_with fail
   go_ret2
   exact ⟨rfl, below_call0 W_1.out H10hy4.out⟩
  case st10hy2x3 =>
   intro K hK
   have HK10hy5 : Hid _ := hK
   clear hK
   go_simp
   refine (KY.out _).mono ?_
   rintro e w10hy5 ⟨rfl, hq⟩
   have H10hy5 : Hid (Below w1.heap.size w1 w10hy5) := below_call0 (below_alloc0 (Below.drew (Below.refl _ _)) _) hq
   have P10hy5 : Hid (Byt w10hy5 (w1.heap.size) 2) := Byt.call (Byt.new (c := 2) (t := 5) (W := w1.drew) rfl) hq
   clear hq
   go_wp2_with fail
   refine HK10hy5.out _ _ ⟨fun _ => H10hy5.out, ?_⟩
   clear HK10hy5 K
   try simp only [Act.put, List.setIfInBounds_toArray, List.set_cons_zero, List.set_cons_succ]
   refine wpAnyN_one (i := 7) (o := ?o7hy5) (by kernel_rfl) ?hi7hy5 ?hw7hy5 ?st7hy5
   case hi7hy5 => rw [List.getElem?_toArray]; exact rfl
   case hw7hy5 => exact rfl
   intro K hK
   have HK7hy5 : Hid _ := hK
   clear hK
   have hcv := conv_1 (w := w10hy5) (b := w1.heap.size) 2 (P10hy5.out).1
   have hcw := conv_1 (w := w10hy5.drew) (b := w1.heap.size) 2 (P10hy5.out).1
   go_simp
   refine HK7hy5.out _ _ ⟨fun _ => H10hy5.out, ?_⟩
   clear HK7hy5 K
   try simp only [Act.put, List.setIfInBounds_toArray, List.set_cons_zero, List.set_cons_succ]
   refine wpAnyN_takeF (i := 11) (oi := ?o11hy5) (v := ?v11hy5) ?hi11hy5 (by kernel_rfl) (by kernel_rfl) (by kernel_rfl) (by decide) ?hQ11hy5 ?hy11hy5 H10hy5.out ?more11hy5
   case hi11hy5 => rw [List.getElem?_toArray]; exact rfl
   case hQ11hy5 => exact fun _ _ _ h => h
   case hy11hy5 =>
    refine Or.inl ⟨by rfl, ?_⟩
    intro w' hSw
    clear hSw
    go_simp
    try with_reducible rfl
   simp only [Act.put, List.setIfInBounds_toArray, List.set_cons_zero, List.set_cons_succ]
   refine wpAnyN_one (i := 12) (o := ?o12hy5) (by kernel_rfl) ?hi12hy5 ?hw12hy5 ?st12hy5
   case hi12hy5 => rw [List.getElem?_toArray]; exact rfl
   case hw12hy5 => exact rfl
   intro K hK
   have HK12hy5 : Hid _ := hK
   clear hK
   go_simp
   refine HK12hy5.out _ _ ⟨fun h => absurd h (by decide +kernel), ?_⟩
   clear HK12hy5 K
   try simp only [Act.put, List.setIfInBounds_toArray, List.set_cons_zero, List.set_cons_succ]
   refine wpAnyN_one (i := 13) (o := ?o13hy5) (by kernel_rfl) ?hi13hy5 ?hw13hy5 ?st13hy5
   case hi13hy5 => rw [List.getElem?_toArray]; exact rfl
   case hw13hy5 => exact rfl
   intro K hK
   have HK13hy5 : Hid _ := hK
   clear hK
   go_simp
   refine HK13hy5.out _ _ ⟨fun h => absurd h (by decide +kernel), ?_⟩
   clear HK13hy5 K
   try simp only [Act.put, List.setIfInBounds_toArray, List.set_cons_zero, List.set_cons_succ]
   refine wpAnyN_done (by kernel_rfl) ?_ _
   go_wp2_with fail
   go_ret2
   exact ⟨rfl, below_call0 W_1.out H10hy5.out⟩
 case st10hx1 =>
  intro K hK
  have HK10hy6 : Hid _ := hK
  clear hK
  go_simp
  refine (KY.out _).mono ?_
  rintro e w10hy6 ⟨rfl, hq⟩
  have H10hy6 : Hid (Below w1.heap.size w1 w10hy6) := below_call0 (Below.drew (Below.refl _ _)) hq
  clear hq
  go_wp2_with fail
  refine HK10hy6.out _ _ ⟨fun _ => H10hy6.out, ?_⟩
  clear HK10hy6 K
  try simp only [Act.put, List.setIfInBounds_toArray, List.set_cons_zero, List.set_cons_succ]
  refine wpAnyN_one (i := 6) (o := ?o6hy6) (by kernel_rfl) ?hi6hy6 ?hw6hy6 ?st6hy6
  case hi6hy6 => rw [List.getElem?_toArray]; exact rfl
  case hw6hy6 => exact rfl
  intro K hK
  have HK6hy6 : Hid _ := hK
  clear hK
  go_simp
  refine HK6hy6.out _ _ ⟨fun _ => (below_alloc0 H10hy6.out _), ?_⟩
  clear HK6hy6 K
  try simp only [Act.put, List.setIfInBounds_toArray, List.set_cons_zero, List.set_cons_succ]
  refine wpAnyN_one (i := 7) (o := ?o7hy6) (by kernel_rfl) ?hi7hy6 ?hw7hy6 ?st7hy6
  case hi7hy6 => rw [List.getElem?_toArray]; exact rfl
  case hw7hy6 => exact rfl
  intro K hK
  have HK7hy6 : Hid _ := hK
  clear hK
  have hcv := conv_1 (w := (w10hy6.alloc (.cells #[.int .u8 2] 5))) (b := w10hy6.heap.size) 2 ((Byt.new (c := 2) (t := 5) (W := w10hy6) rfl)).1
  have hcw := conv_1 (w := (w10hy6.alloc (.cells #[.int .u8 2] 5)).drew) (b := w10hy6.heap.size) 2 ((Byt.new (c := 2) (t := 5) (W := w10hy6) rfl)).1
  go_simp
  refine HK7hy6.out _ _ ⟨fun _ => (below_alloc0 H10hy6.out _), ?_⟩
  clear HK7hy6 K
  try simp only [Act.put, List.setIfInBounds_toArray, List.set_cons_zero, List.set_cons_succ]
  refine wpAnyN_takeF (i := 11) (oi := ?o11hy6) (v := ?v11hy6) ?hi11hy6 (by kernel_rfl) (by kernel_rfl) (by kernel_rfl) (by decide) ?hQ11hy6 ?hy11hy6 (below_alloc0 H10hy6.out _) ?more11hy6
  case hi11hy6 => rw [List.getElem?_toArray]; exact rfl
  case hQ11hy6 => exact fun _ _ _ h => h
  case hy11hy6 =>
   refine Or.inl ⟨by rfl, ?_⟩
   intro w' hSw
   clear hSw
   go_simp
   try with_reducible rfl
  simp only [Act.put, List.setIfInBounds_toArray, List.set_cons_zero, List.set_cons_succ]
  refine wpAnyN_one (i := 12) (o := ?o12hy6) (by kernel_rfl) ?hi12hy6 ?hw12hy6 ?st12hy6
  case hi12hy6 => rw [List.getElem?_toArray]; exact rfl
  case hw12hy6 => exact rfl
  intro K hK
  have HK12hy6 : Hid _ := hK
  clear hK
  go_simp
  refine HK12hy6.out _ _ ⟨fun h => absurd h (by decide +kernel), ?_⟩
  clear HK12hy6 K
  try simp only [Act.put, List.setIfInBounds_toArray, List.set_cons_zero, List.set_cons_succ]
  refine wpAnyN_one (i := 13) (o := ?o13hy6) (by kernel_rfl) ?hi13hy6 ?hw13hy6 ?st13hy6
  case hi13hy6 => rw [List.getElem?_toArray]; exact rfl
  case hw13hy6 => exact rfl
  intro K hK
  have HK13hy6 : Hid _ := hK
  clear hK
  go_simp
  refine HK13hy6.out _ _ ⟨fun h => absurd h (by decide +kernel), ?_⟩
  clear HK13hy6 K
  try simp only [Act.put, List.setIfInBounds_toArray, List.set_cons_zero, List.set_cons_succ]
  refine wpAnyN_done (by kernel_rfl) ?_ _
  go_wp2_with fail
  go_ret2
  exact ⟨rfl, below_call0 W_1.out (below_alloc0 H10hy6.out _)⟩
set_option maxRecDepth 100000 in
set_option maxHeartbeats 4000000 in
theorem encode_oddR (x y : Nat) (hX : x < R256) (hY : y < R256) (hk : ptOk x y false = true) (hp : y % 2 = 1) (w : World) :
  Calls Tryd.prog 21 #[.agg #[.int .u64 (limb (x) 0 : Nat), .int .u64 (limb (x) 1 : Nat), .int .u64 (limb (x) 2 : Nat), .int .u64 (limb (x) 3 : Nat), .int .u64 (limb (y) 0 : Nat), .int .u64 (limb (y) 1 : Nat), .int .u64 (limb (y) 2 : Nat), .int .u64 (limb (y) 3 : Nat), .bool false]] w fun e w' => e = .returned (.tuple #[.string (encF 3 x), .int .i64 0]) ∧ Below w.heap.size w w' := by
 have K1 : Hid (∀ w, Calls Tryd.prog 12 #[.agg #[.int .u64 (limb (x) 0 : Nat), .int .u64 (limb (x) 1 : Nat), .int .u64 (limb (x) 2 : Nat), .int .u64 (limb (x) 3 : Nat), .int .u64 (limb (y) 0 : Nat), .int .u64 (limb (y) 1 : Nat), .int .u64 (limb (y) 2 : Nat), .int .u64 (limb (y) 3 : Nat), .bool false]] w fun e w' => e = .returned (.bool true) ∧ Below w.heap.size w w') := fun w => by have k := is3_any x y false hX hY w; rw [hk] at k; exact k
 have KY : Hid (∀ w, Calls Tryd.prog 52 #[.agg #[.int .u64 (limb (x) 0 : Nat), .int .u64 (limb (x) 1 : Nat), .int .u64 (limb (x) 2 : Nat), .int .u64 (limb (x) 3 : Nat)]] w fun e w' => e = .returned (.string ⟨(bytesL x 32).toArray⟩) ∧ Below w.heap.size w w') := fun w => bytes_ref x w
 have lp : limb y 0 % 2 = 1 := by rw [limb_zero]; exact (Nat.mod_mod_of_dvd y (show 2 ∣ M64 from by decide)).trans hp
 have lp1 : (limb y 0 : Int) % 2 = 1 := by omega
 have lp2 : (limb y 0 : Int).tmod 2 = 1 := by rw [Int.tmod_eq_emod_of_nonneg (by omega)]; exact lp1
 obtain ⟨w0, hw0⟩ : ∃ wq, wq = (w.alloc (.cells #[.int .u64 (limb (x) 0 : Nat), .int .u64 (limb (x) 1 : Nat), .int .u64 (limb (x) 2 : Nat), .int .u64 (limb (x) 3 : Nat), .int .u64 (limb (y) 0 : Nat), .int .u64 (limb (y) 1 : Nat), .int .u64 (limb (y) 2 : Nat), .int .u64 (limb (y) 3 : Nat), .bool false] 26)) := ⟨_, rfl⟩
 have H0 : Hid (OwnC w0 (w.heap.size) (ptL x y false)) ∧ Hid (Below w.heap.size w w0) := by
  rw [hw0]
  exact ⟨(OwnC.new' rfl), below_alloc0 (Below.refl _ _) _⟩
 obtain ⟨P0_0, W_0⟩ := H0
 clear hX hY hk hp lp
 go_enter Tryd.func21, Tryd.ntmps21
 go_upto_region 1 with fail
 rw [← hw0]
 clear hw0
 obtain ⟨fP0z, fP00, fP01, fP02, fP03, fP04, fP05, fP06, fP07, fP08, fP0f⟩ := (P0_0.out).pt
 go_wp2_with fail
 clear fP0z fP00 fP01 fP02 fP03 fP04 fP05 fP06 fP07 fP08 fP0f
 refine (K1.out _).mono ?_
 rintro e w1 ⟨rfl, hq⟩
 have P0_1 : Hid (OwnC w1 (w.heap.size) (ptL x y false)) := OwnC.call P0_0.out hq
 have W_1 : Hid (Below w.heap.size w w1) := below_call0 W_0.out hq
 clear hq P0_0 W_0
 obtain ⟨fP0z, fP00, fP01, fP02, fP03, fP04, fP05, fP06, fP07, fP08, fP0f⟩ := (P0_1.out).pt
 go_upto_region 5 with fail
 clear fP0z fP00 fP01 fP02 fP03 fP04 fP05 fP06 fP07 fP08 fP0f
 have hlb := bytesL_length x 32
 have wu : IntKind.u64.wrap 3 = 3 := by decide
 have wv : IntKind.u8.wrap 3 = 3 := by decide
 refine wp_region_N (fun w' => Below w1.heap.size w1 w') 12 14 rfl (by kernel_rfl) ?_
 refine wpAnyN_take (i := 0) (oi := ?o0h) (v := ?v0h) ?hi0h (by kernel_rfl) (by kernel_rfl) (by kernel_rfl) (by kernel_rfl) (by decide) (by kernel_rfl) ?hQ0h ?hy0h (Below.drew (Below.refl _ _)) ?more0h
 case hi0h => rw [List.getElem?_toArray]; exact rfl
 case hQ0h => exact fun _ _ _ h => h
 case hy0h =>
  refine Or.inl ⟨by rfl, ?_⟩
  intro w' hSw
  obtain ⟨fP0z, fP00, fP01, fP02, fP03, fP04, fP05, fP06, fP07, fP08, fP0f⟩ := (OwnC.call P0_1.out hSw).pt
  clear hSw
  go_simp
  try with_reducible rfl
 simp only [Act.put, List.setIfInBounds_toArray, List.set_cons_zero, List.set_cons_succ]
 refine wpAnyN_take (i := 1) (oi := ?o1h) (v := ?v1h) ?hi1h (by kernel_rfl) (by kernel_rfl) (by kernel_rfl) (by kernel_rfl) (by decide) (by kernel_rfl) ?hQ1h ?hy1h (Below.drew (Below.refl _ _)) ?more1h
 case hi1h => rw [List.getElem?_toArray]; exact rfl
 case hQ1h => exact fun _ _ _ h => h
 case hy1h =>
  refine Or.inl ⟨by rfl, ?_⟩
  intro w' hSw
  obtain ⟨fP0z, fP00, fP01, fP02, fP03, fP04, fP05, fP06, fP07, fP08, fP0f⟩ := (OwnC.call P0_1.out hSw).pt
  clear hSw
  go_simp
  try with_reducible rfl
 simp only [Act.put, List.setIfInBounds_toArray, List.set_cons_zero, List.set_cons_succ]
 refine wpAnyN_take (i := 2) (oi := ?o2h) (v := ?v2h) ?hi2h (by kernel_rfl) (by kernel_rfl) (by kernel_rfl) (by kernel_rfl) (by decide) (by kernel_rfl) ?hQ2h ?hy2h (Below.drew (Below.refl _ _)) ?more2h
 case hi2h => rw [List.getElem?_toArray]; exact rfl
 case hQ2h => exact fun _ _ _ h => h
 case hy2h =>
  refine Or.inl ⟨by rfl, ?_⟩
  intro w' hSw
  obtain ⟨fP0z, fP00, fP01, fP02, fP03, fP04, fP05, fP06, fP07, fP08, fP0f⟩ := (OwnC.call P0_1.out hSw).pt
  clear hSw
  go_simp
  try with_reducible rfl
 simp only [Act.put, List.setIfInBounds_toArray, List.set_cons_zero, List.set_cons_succ]
 refine wpAnyN_take (i := 3) (oi := ?o3h) (v := ?v3h) ?hi3h (by kernel_rfl) (by kernel_rfl) (by kernel_rfl) (by kernel_rfl) (by decide) (by kernel_rfl) ?hQ3h ?hy3h (Below.drew (Below.refl _ _)) ?more3h
 case hi3h => rw [List.getElem?_toArray]; exact rfl
 case hQ3h => exact fun _ _ _ h => h
 case hy3h =>
  refine Or.inl ⟨by rfl, ?_⟩
  intro w' hSw
  obtain ⟨fP0z, fP00, fP01, fP02, fP03, fP04, fP05, fP06, fP07, fP08, fP0f⟩ := (OwnC.call P0_1.out hSw).pt
  clear hSw
  go_simp
  try with_reducible rfl
 simp only [Act.put, List.setIfInBounds_toArray, List.set_cons_zero, List.set_cons_succ]
 refine wpAnyN_take (i := 4) (oi := ?o4h) (v := ?v4h) ?hi4h (by kernel_rfl) (by kernel_rfl) (by kernel_rfl) (by kernel_rfl) (by decide) (by kernel_rfl) ?hQ4h ?hy4h (Below.drew (Below.refl _ _)) ?more4h
 case hi4h => rw [List.getElem?_toArray]; exact rfl
 case hQ4h => exact fun _ _ _ h => h
 case hy4h =>
  refine Or.inl ⟨by rfl, ?_⟩
  intro w' hSw
  obtain ⟨fP0z, fP00, fP01, fP02, fP03, fP04, fP05, fP06, fP07, fP08, fP0f⟩ := (OwnC.call P0_1.out hSw).pt
  clear hSw
  go_simp
  try with_reducible rfl
 simp only [Act.put, List.setIfInBounds_toArray, List.set_cons_zero, List.set_cons_succ]
 refine wpAnyN_take (i := 5) (oi := ?o5h) (v := ?v5h) ?hi5h (by kernel_rfl) (by kernel_rfl) (by kernel_rfl) (by kernel_rfl) (by decide) (by kernel_rfl) ?hQ5h ?hy5h (Below.drew (Below.refl _ _)) ?more5h
 case hi5h => rw [List.getElem?_toArray]; exact rfl
 case hQ5h => exact fun _ _ _ h => h
 case hy5h =>
  refine Or.inl ⟨by rfl, ?_⟩
  intro w' hSw
  obtain ⟨fP0z, fP00, fP01, fP02, fP03, fP04, fP05, fP06, fP07, fP08, fP0f⟩ := (OwnC.call P0_1.out hSw).pt
  clear hSw
  go_simp
  try with_reducible rfl
 simp only [Act.put, List.setIfInBounds_toArray, List.set_cons_zero, List.set_cons_succ]
 refine wpAnyN_take (i := 8) (oi := ?o8h) (v := ?v8h) ?hi8h (by kernel_rfl) (by kernel_rfl) (by kernel_rfl) (by kernel_rfl) (by decide) (by kernel_rfl) ?hQ8h ?hy8h (Below.drew (Below.refl _ _)) ?more8h
 case hi8h => rw [List.getElem?_toArray]; exact rfl
 case hQ8h => exact fun _ _ _ h => h
 case hy8h =>
  refine Or.inl ⟨by rfl, ?_⟩
  intro w' hSw
  obtain ⟨fP0z, fP00, fP01, fP02, fP03, fP04, fP05, fP06, fP07, fP08, fP0f⟩ := (OwnC.call P0_1.out hSw).pt
  clear hSw
  go_simp
  try with_reducible rfl
 simp only [Act.put, List.setIfInBounds_toArray, List.set_cons_zero, List.set_cons_succ]
 refine wpAnyN_take (i := 9) (oi := ?o9h) (v := ?v9h) ?hi9h (by kernel_rfl) (by kernel_rfl) (by kernel_rfl) (by kernel_rfl) (by decide) (by kernel_rfl) ?hQ9h ?hy9h (Below.drew (Below.refl _ _)) ?more9h
 case hi9h => rw [List.getElem?_toArray]; exact rfl
 case hQ9h => exact fun _ _ _ h => h
 case hy9h =>
  refine Or.inl ⟨by rfl, ?_⟩
  intro w' hSw
  obtain ⟨fP0z, fP00, fP01, fP02, fP03, fP04, fP05, fP06, fP07, fP08, fP0f⟩ := (OwnC.call P0_1.out hSw).pt
  clear hSw
  go_simp
  try with_reducible rfl
 simp only [Act.put, List.setIfInBounds_toArray, List.set_cons_zero, List.set_cons_succ]
 refine wpAnyN_two (i := 6) (j := 10) (o := ?o6hx1) (p := ?o10hx1) (by kernel_rfl) ?hi6hx1 ?hi10hx1 ?hw6hx1 ?hw10hx1 ?st6hx1 ?st10hx1
 case hi6hx1 => rw [List.getElem?_toArray]; exact rfl
 case hw6hx1 => exact rfl
 case hi10hx1 => rw [List.getElem?_toArray]; exact rfl
 case hw10hx1 => exact rfl
 case st6hx1 =>
  intro K hK
  have HK6hy2 : Hid _ := hK
  clear hK
  go_simp
  refine HK6hy2.out _ _ ⟨fun _ => (below_alloc0 (Below.drew (Below.refl _ _)) _), ?_⟩
  clear HK6hy2 K
  try simp only [Act.put, List.setIfInBounds_toArray, List.set_cons_zero, List.set_cons_succ]
  refine wpAnyN_two (i := 7) (j := 10) (o := ?o7hy2x3) (p := ?o10hy2x3) (by kernel_rfl) ?hi7hy2x3 ?hi10hy2x3 ?hw7hy2x3 ?hw10hy2x3 ?st7hy2x3 ?st10hy2x3
  case hi7hy2x3 => rw [List.getElem?_toArray]; exact rfl
  case hw7hy2x3 => exact rfl
  case hi10hy2x3 => rw [List.getElem?_toArray]; exact rfl
  case hw10hy2x3 => exact rfl
  case st7hy2x3 =>
   intro K hK
   have HK7hy4 : Hid _ := hK
   clear hK
   have hcv := conv_1 (w := (w1.alloc (.cells #[.int .u8 3] 5))) (b := w1.heap.size) 3 ((Byt.new (c := 3) (t := 5) (W := w1.drew) rfl)).1
   have hcw := conv_1 (w := (w1.alloc (.cells #[.int .u8 3] 5)).drew) (b := w1.heap.size) 3 ((Byt.new (c := 3) (t := 5) (W := w1.drew) rfl)).1
   go_simp
   refine HK7hy4.out _ _ ⟨fun _ => (below_alloc0 (Below.drew (Below.refl _ _)) _), ?_⟩
   clear HK7hy4 K
   try simp only [Act.put, List.setIfInBounds_toArray, List.set_cons_zero, List.set_cons_succ]
   refine wpAnyN_one (i := 10) (o := ?o10hy4) (by kernel_rfl) ?hi10hy4 ?hw10hy4 ?st10hy4
   case hi10hy4 => rw [List.getElem?_toArray]; exact rfl
   case hw10hy4 => exact rfl
   intro K hK
   have HK10hy4 : Hid _ := hK
   clear hK
   go_simp
   refine (KY.out _).mono ?_
   rintro e w10hy4 ⟨rfl, hq⟩
   have H10hy4 : Hid (Below w1.heap.size w1 w10hy4) := below_call0 (below_alloc0 (Below.drew (Below.refl _ _)) _) hq
   have P10hy4 : Hid (Byt w10hy4 (w1.heap.size) 3) := Byt.call (Byt.new (c := 3) (t := 5) (W := w1.drew) rfl) hq
   clear hq
   go_wp2_with fail
   refine HK10hy4.out _ _ ⟨fun _ => H10hy4.out, ?_⟩
   clear HK10hy4 K
   try simp only [Act.put, List.setIfInBounds_toArray, List.set_cons_zero, List.set_cons_succ]
   refine wpAnyN_takeF (i := 11) (oi := ?o11hy4) (v := ?v11hy4) ?hi11hy4 (by kernel_rfl) (by kernel_rfl) (by kernel_rfl) (by decide) ?hQ11hy4 ?hy11hy4 H10hy4.out ?more11hy4
   case hi11hy4 => rw [List.getElem?_toArray]; exact rfl
   case hQ11hy4 => exact fun _ _ _ h => h
   case hy11hy4 =>
    refine Or.inl ⟨by rfl, ?_⟩
    intro w' hSw
    clear hSw
    go_simp
    try with_reducible rfl
   simp only [Act.put, List.setIfInBounds_toArray, List.set_cons_zero, List.set_cons_succ]
   refine wpAnyN_one (i := 12) (o := ?o12hy4) (by kernel_rfl) ?hi12hy4 ?hw12hy4 ?st12hy4
   case hi12hy4 => rw [List.getElem?_toArray]; exact rfl
   case hw12hy4 => exact rfl
   intro K hK
   have HK12hy4 : Hid _ := hK
   clear hK
   go_simp
   refine HK12hy4.out _ _ ⟨fun h => absurd h (by decide +kernel), ?_⟩
   clear HK12hy4 K
   try simp only [Act.put, List.setIfInBounds_toArray, List.set_cons_zero, List.set_cons_succ]
   refine wpAnyN_one (i := 13) (o := ?o13hy4) (by kernel_rfl) ?hi13hy4 ?hw13hy4 ?st13hy4
   case hi13hy4 => rw [List.getElem?_toArray]; exact rfl
   case hw13hy4 => exact rfl
   intro K hK
   have HK13hy4 : Hid _ := hK
   clear hK
   go_simp
   refine HK13hy4.out _ _ ⟨fun h => absurd h (by decide +kernel), ?_⟩
   clear HK13hy4 K
   try simp only [Act.put, List.setIfInBounds_toArray, List.set_cons_zero, List.set_cons_succ]
   refine wpAnyN_done (by kernel_rfl) ?_ _
   go_wp2_with fail
   go_ret2
   exact ⟨rfl, below_call0 W_1.out H10hy4.out⟩
  case st10hy2x3 =>
   intro K hK
   have HK10hy5 : Hid _ := hK
   clear hK
   go_simp
   refine (KY.out _).mono ?_
   rintro e w10hy5 ⟨rfl, hq⟩
   have H10hy5 : Hid (Below w1.heap.size w1 w10hy5) := below_call0 (below_alloc0 (Below.drew (Below.refl _ _)) _) hq
   have P10hy5 : Hid (Byt w10hy5 (w1.heap.size) 3) := Byt.call (Byt.new (c := 3) (t := 5) (W := w1.drew) rfl) hq
   clear hq
   go_wp2_with fail
   refine HK10hy5.out _ _ ⟨fun _ => H10hy5.out, ?_⟩
   clear HK10hy5 K
   try simp only [Act.put, List.setIfInBounds_toArray, List.set_cons_zero, List.set_cons_succ]
   refine wpAnyN_one (i := 7) (o := ?o7hy5) (by kernel_rfl) ?hi7hy5 ?hw7hy5 ?st7hy5
   case hi7hy5 => rw [List.getElem?_toArray]; exact rfl
   case hw7hy5 => exact rfl
   intro K hK
   have HK7hy5 : Hid _ := hK
   clear hK
   have hcv := conv_1 (w := w10hy5) (b := w1.heap.size) 3 (P10hy5.out).1
   have hcw := conv_1 (w := w10hy5.drew) (b := w1.heap.size) 3 (P10hy5.out).1
   go_simp
   refine HK7hy5.out _ _ ⟨fun _ => H10hy5.out, ?_⟩
   clear HK7hy5 K
   try simp only [Act.put, List.setIfInBounds_toArray, List.set_cons_zero, List.set_cons_succ]
   refine wpAnyN_takeF (i := 11) (oi := ?o11hy5) (v := ?v11hy5) ?hi11hy5 (by kernel_rfl) (by kernel_rfl) (by kernel_rfl) (by decide) ?hQ11hy5 ?hy11hy5 H10hy5.out ?more11hy5
   case hi11hy5 => rw [List.getElem?_toArray]; exact rfl
   case hQ11hy5 => exact fun _ _ _ h => h
   case hy11hy5 =>
    refine Or.inl ⟨by rfl, ?_⟩
    intro w' hSw
    clear hSw
    go_simp
    try with_reducible rfl
   simp only [Act.put, List.setIfInBounds_toArray, List.set_cons_zero, List.set_cons_succ]
   refine wpAnyN_one (i := 12) (o := ?o12hy5) (by kernel_rfl) ?hi12hy5 ?hw12hy5 ?st12hy5
   case hi12hy5 => rw [List.getElem?_toArray]; exact rfl
   case hw12hy5 => exact rfl
   intro K hK
   have HK12hy5 : Hid _ := hK
   clear hK
   go_simp
   refine HK12hy5.out _ _ ⟨fun h => absurd h (by decide +kernel), ?_⟩
   clear HK12hy5 K
   try simp only [Act.put, List.setIfInBounds_toArray, List.set_cons_zero, List.set_cons_succ]
   refine wpAnyN_one (i := 13) (o := ?o13hy5) (by kernel_rfl) ?hi13hy5 ?hw13hy5 ?st13hy5
   case hi13hy5 => rw [List.getElem?_toArray]; exact rfl
   case hw13hy5 => exact rfl
   intro K hK
   have HK13hy5 : Hid _ := hK
   clear hK
   go_simp
   refine HK13hy5.out _ _ ⟨fun h => absurd h (by decide +kernel), ?_⟩
   clear HK13hy5 K
   try simp only [Act.put, List.setIfInBounds_toArray, List.set_cons_zero, List.set_cons_succ]
   refine wpAnyN_done (by kernel_rfl) ?_ _
   go_wp2_with fail
   go_ret2
   exact ⟨rfl, below_call0 W_1.out H10hy5.out⟩
 case st10hx1 =>
  intro K hK
  have HK10hy6 : Hid _ := hK
  clear hK
  go_simp
  refine (KY.out _).mono ?_
  rintro e w10hy6 ⟨rfl, hq⟩
  have H10hy6 : Hid (Below w1.heap.size w1 w10hy6) := below_call0 (Below.drew (Below.refl _ _)) hq
  clear hq
  go_wp2_with fail
  refine HK10hy6.out _ _ ⟨fun _ => H10hy6.out, ?_⟩
  clear HK10hy6 K
  try simp only [Act.put, List.setIfInBounds_toArray, List.set_cons_zero, List.set_cons_succ]
  refine wpAnyN_one (i := 6) (o := ?o6hy6) (by kernel_rfl) ?hi6hy6 ?hw6hy6 ?st6hy6
  case hi6hy6 => rw [List.getElem?_toArray]; exact rfl
  case hw6hy6 => exact rfl
  intro K hK
  have HK6hy6 : Hid _ := hK
  clear hK
  go_simp
  refine HK6hy6.out _ _ ⟨fun _ => (below_alloc0 H10hy6.out _), ?_⟩
  clear HK6hy6 K
  try simp only [Act.put, List.setIfInBounds_toArray, List.set_cons_zero, List.set_cons_succ]
  refine wpAnyN_one (i := 7) (o := ?o7hy6) (by kernel_rfl) ?hi7hy6 ?hw7hy6 ?st7hy6
  case hi7hy6 => rw [List.getElem?_toArray]; exact rfl
  case hw7hy6 => exact rfl
  intro K hK
  have HK7hy6 : Hid _ := hK
  clear hK
  have hcv := conv_1 (w := (w10hy6.alloc (.cells #[.int .u8 3] 5))) (b := w10hy6.heap.size) 3 ((Byt.new (c := 3) (t := 5) (W := w10hy6) rfl)).1
  have hcw := conv_1 (w := (w10hy6.alloc (.cells #[.int .u8 3] 5)).drew) (b := w10hy6.heap.size) 3 ((Byt.new (c := 3) (t := 5) (W := w10hy6) rfl)).1
  go_simp
  refine HK7hy6.out _ _ ⟨fun _ => (below_alloc0 H10hy6.out _), ?_⟩
  clear HK7hy6 K
  try simp only [Act.put, List.setIfInBounds_toArray, List.set_cons_zero, List.set_cons_succ]
  refine wpAnyN_takeF (i := 11) (oi := ?o11hy6) (v := ?v11hy6) ?hi11hy6 (by kernel_rfl) (by kernel_rfl) (by kernel_rfl) (by decide) ?hQ11hy6 ?hy11hy6 (below_alloc0 H10hy6.out _) ?more11hy6
  case hi11hy6 => rw [List.getElem?_toArray]; exact rfl
  case hQ11hy6 => exact fun _ _ _ h => h
  case hy11hy6 =>
   refine Or.inl ⟨by rfl, ?_⟩
   intro w' hSw
   clear hSw
   go_simp
   try with_reducible rfl
  simp only [Act.put, List.setIfInBounds_toArray, List.set_cons_zero, List.set_cons_succ]
  refine wpAnyN_one (i := 12) (o := ?o12hy6) (by kernel_rfl) ?hi12hy6 ?hw12hy6 ?st12hy6
  case hi12hy6 => rw [List.getElem?_toArray]; exact rfl
  case hw12hy6 => exact rfl
  intro K hK
  have HK12hy6 : Hid _ := hK
  clear hK
  go_simp
  refine HK12hy6.out _ _ ⟨fun h => absurd h (by decide +kernel), ?_⟩
  clear HK12hy6 K
  try simp only [Act.put, List.setIfInBounds_toArray, List.set_cons_zero, List.set_cons_succ]
  refine wpAnyN_one (i := 13) (o := ?o13hy6) (by kernel_rfl) ?hi13hy6 ?hw13hy6 ?st13hy6
  case hi13hy6 => rw [List.getElem?_toArray]; exact rfl
  case hw13hy6 => exact rfl
  intro K hK
  have HK13hy6 : Hid _ := hK
  clear hK
  go_simp
  refine HK13hy6.out _ _ ⟨fun h => absurd h (by decide +kernel), ?_⟩
  clear HK13hy6 K
  try simp only [Act.put, List.setIfInBounds_toArray, List.set_cons_zero, List.set_cons_succ]
  refine wpAnyN_done (by kernel_rfl) ?_ _
  go_wp2_with fail
  go_ret2
  exact ⟨rfl, below_call0 W_1.out (below_alloc0 H10hy6.out _)⟩
end Go.Proofs.YtgmfecncfekjfaaDoor
