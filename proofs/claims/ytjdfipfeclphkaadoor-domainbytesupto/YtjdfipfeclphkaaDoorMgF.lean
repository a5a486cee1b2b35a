/- Several texts laid together. -/
import Derived.Test.YtjdfipfeclphkaaDoorDmQ
import Derived.Test.YtjdfipfeclphkaaDoorWalk
namespace Go.Proofs.YtjdfipfeclphkaaDoor
open Go Go.RowKit Go.Lib

theorem wide_two (A B : Nat) (hA : A < R256) (hB : B < R256) : limb (A + R256 * B) 0 = limb A 0 ∧ limb (A + R256 * B) 1 = limb A 1 ∧ limb (A + R256 * B) 2 = limb A 2 ∧ limb (A + R256 * B) 3 = limb A 3 ∧ limb (A + R256 * B) 4 = limb B 0 ∧ limb (A + R256 * B) 5 = limb B 1 ∧ limb (A + R256 * B) 6 = limb B 2 ∧ limb (A + R256 * B) 7 = limb B 3 := by
  have l : ∀ n k, limb n k < M64 := limb_lt
  have h := limb_join8 (limb A 0) (limb A 1) (limb A 2) (limb A 3) (limb B 0) (limb B 1) (limb B 2) (limb B 3) (l _ _) (l _ _) (l _ _) (l _ _) (l _ _) (l _ _) (l _ _) (l _ _)
  rw [join8_two A B hA hB] at h
  exact h
theorem wide_lt (A B : Nat) (hA : A < R256) (hB : B < R256) : A + R256 * B < R256 * R256 := by
  have : R256 * B + R256 ≤ R256 * R256 := by rw [← Nat.mul_succ]; exact Nat.mul_le_mul_left _ hB
  omega
/-- The scalar of what is hashed. -/
def hiN (h : ByteArray) : Nat := numB (sbyte (shaS ((⟨#[0]⟩ : ByteArray) ++ h)))
def loN (h : ByteArray) : Nat := numB (sbyte (shaS ((⟨#[1]⟩ : ByteArray) ++ h)))
def scN (h : ByteArray) : Nat := (loN h + R256 * hiN h) % QQ
theorem sha_32 (s : ByteArray) : (shaS s).size = 32 := by unfold shaS sumS; rw [strOf_size, hfL_length]
set_option maxRecDepth 100000 in
set_option maxHeartbeats 4000000 in
theorem scalar_any (t : ByteArray) (a : Option Addr) (l : List ByteArray) (cap : Nat) (hb : 1 + (hashB t l).size < 1152921504606846976) (w : World) (hS : Strs w a l) (hG : GlobD w) (hz : 2 < w.heap.size) (hQ : GlobQ w) :
    Calls Tryd.prog 23 #[.string t, .slice a l.length cap] w fun e w' => e = .returned (.agg #[.int .u64 (limb (scN (hashB t l)) 0 : Nat), .int .u64 (limb (scN (hashB t l)) 1 : Nat), .int .u64 (limb (scN (hashB t l)) 2 : Nat), .int .u64 (limb (scN (hashB t l)) 3 : Nat)]) ∧ Below w.heap.size w w' := by
  have K1 : Hid _ := fun (w : World) (hS : Strs w a l) (hG : GlobD w) (hz : 2 < w.heap.size) => dsum_any ⟨#[0]⟩ t a l cap hb w hS hG hz
  have K2 : Hid _ := fun (w : World) (hS : Strs w a l) (hG : GlobD w) (hz : 2 < w.heap.size) => dsum_any ⟨#[1]⟩ t a l cap hb w hS hG hz
  have F1 : Hid _ := fun (w : World) => from_any (shaS ((⟨#[0]⟩ : ByteArray) ++ hashB t l)) (sha_32 _) w
  have F2 : Hid _ := fun (w : World) => from_any (shaS ((⟨#[1]⟩ : ByteArray) ++ hashB t l)) (sha_32 _) w
  have HG : Hid (Strs w a l ∧ GlobD w ∧ 2 < w.heap.size ∧ GlobQ w) := ⟨hS, hG, hz, hQ⟩
  obtain ⟨N1, hN1⟩ : ∃ n, n = numB (sbyte (shaS ((⟨#[0]⟩ : ByteArray) ++ hashB t l))) := ⟨_, rfl⟩
  obtain ⟨N2, hN2⟩ : ∃ n, n = numB (sbyte (shaS ((⟨#[1]⟩ : ByteArray) ++ hashB t l))) := ⟨_, rfl⟩
  obtain ⟨R, hR⟩ : ∃ R, R = scN (hashB t l) := ⟨_, rfl⟩
  have HR : Hid ((N2 + R256 * N1) % QQ = R ∧ N1 < R256 ∧ N2 < R256) := ⟨by rw [hR, hN1, hN2]; rfl, by rw [hN1]; exact numB_lt _ (sbyte_lt _), by rw [hN2]; exact numB_lt _ (sbyte_lt _)⟩
  rw [← hR]
  rw [← hN1] at F1
  rw [← hN2] at F2
  have KS : Hid _ := fun (w : World) (h : GlobQ w) => scalars_any w h
  have KR : Hid (∀ (g : Nat) (w : World), FieldB w g QQ → Calls Tryd.prog 41 #[.pointer (some ⟨g, 0, none⟩), .agg #[.int .u64 (limb N2 0 : Nat), .int .u64 (limb N2 1 : Nat), .int .u64 (limb N2 2 : Nat), .int .u64 (limb N2 3 : Nat), .int .u64 (limb N1 0 : Nat), .int .u64 (limb N1 1 : Nat), .int .u64 (limb N1 2 : Nat), .int .u64 (limb N1 3 : Nat)]] w fun e w' => e = .returned (.agg #[.int .u64 (limb (R) 0 : Nat), .int .u64 (limb (R) 1 : Nat), .int .u64 (limb (R) 2 : Nat), .int .u64 (limb (R) 3 : Nat)]) ∧ Below w.heap.size w w') := fun g w h => by
    have k := reduce_any g QQ (N2 + R256 * N1) FM_Q (wide_lt _ _ HR.out.2.2 HR.out.2.1) w h
    obtain ⟨e0, e1, e2, e3, e4, e5, e6, e7⟩ := wide_two N2 N1 HR.out.2.2 HR.out.2.1
    rw [e0, e1, e2, e3, e4, e5, e6, e7, HR.out.1] at k
    exact k
  have H0 : Hid (Pend (w.alloc (.cells #[.int .u64 0, .int .u64 0, .int .u64 0, .int .u64 0] 32)) w.heap.size ∧ Below w.heap.size w (w.alloc (.cells #[.int .u64 0, .int .u64 0, .int .u64 0, .int .u64 0] 32))) := ⟨Pend.new w _, below_alloc0' (Below.refl _ _) _⟩
  clear hS hG hz hQ hb hN1 hN2 hR
  go_enter Tryd.func23, Tryd.ntmps23
  go_wp2_with fail
  refine (K1.out _ (HG.out.1.call H0.out.2) (HG.out.2.1.call H0.out.2) (Nat.lt_of_lt_of_le HG.out.2.2.1 H0.out.2.size)).mono ?_
  rintro e w1 ⟨rfl, hb1⟩
  have H1 : Hid (Pend w1 w.heap.size ∧ Below w.heap.size w w1) := ⟨H0.out.1.call hb1, below_call0' H0.out.2 hb1⟩
  clear hb1 H0
  go_wp2_with fail
  refine (F1.out _).mono ?_
  rintro e w2 ⟨rfl, hb2⟩
  have H2 : Hid (Pend (w2.alloc (.cells #[.int .u64 (limb N1 0 : Nat), .int .u64 (limb N1 1 : Nat), .int .u64 (limb N1 2 : Nat), .int .u64 (limb N1 3 : Nat)] 32)) w.heap.size ∧ Below w.heap.size w (w2.alloc (.cells #[.int .u64 (limb N1 0 : Nat), .int .u64 (limb N1 1 : Nat), .int .u64 (limb N1 2 : Nat), .int .u64 (limb N1 3 : Nat)] 32))) := ⟨(H1.out.1.call hb2).alloc, below_alloc0' (below_call0' H1.out.2 hb2) _⟩
  clear hb2 H1
  go_wp2_with fail
  refine (K2.out _ (HG.out.1.call H2.out.2) (HG.out.2.1.call H2.out.2) (Nat.lt_of_lt_of_le HG.out.2.2.1 H2.out.2.size)).mono ?_
  rintro e w3 ⟨rfl, hb3⟩
  have H3 : Hid (Pend w3 w.heap.size ∧ NS w3 w2.heap.size N1 ∧ Below w.heap.size w w3) := ⟨H2.out.1.call hb3, NS.ncall hb3, below_call0' H2.out.2 hb3⟩
  clear hb3 H2
  go_wp2_with fail
  refine (F2.out _).mono ?_
  rintro e w4 ⟨rfl, hb4⟩
  obtain ⟨w5, hw5⟩ : ∃ x, x = w4.alloc (.cells #[.int .u64 (limb N2 0 : Nat), .int .u64 (limb N2 1 : Nat), .int .u64 (limb N2 2 : Nat), .int .u64 (limb N2 3 : Nat)] 32) := ⟨_, rfl⟩
  have H5 : Hid (Pend w5 w.heap.size ∧ NS w5 w2.heap.size N1 ∧ NS w5 w4.heap.size N2 ∧ Below w.heap.size w w5 ∧ GlobQ w5) := by
    rw [hw5]
    exact ⟨(H3.out.1.call hb4).alloc, (H3.out.2.1.call hb4).alloc, NS.new _ _ _, below_alloc0' (below_call0' H3.out.2.2 hb4) _, (HG.out.2.2.2.call (below_alloc0' (below_call0' H3.out.2.2 hb4) _))⟩
  clear hb4 H3
  go_wp2_with fail
  rw [← hw5]
  clear hw5
  refine wp_region_N (fun w' => Below w5.heap.size w5 w') 19 20 rfl (by kernel_rfl) ?_
  refine wpAnyN_take (i := 1) (oi := ?o1) (v := ?v1) ?hi1 (by kernel_rfl) (by kernel_rfl) (by kernel_rfl) (by kernel_rfl) (by decide) (by kernel_rfl) ?hQ1 ?hy1 (Below.drew (Below.refl _ _)) ?more1
  case hi1 => rw [List.getElem?_toArray]; exact rfl
  case hQ1 => exact fun _ _ _ h => h
  case hy1 =>
    refine Or.inl ⟨by rfl, ?_⟩
    intro w' hSw
    obtain ⟨⟨a0, a1, a2, a3⟩, az⟩ := (NS.call H5.out.2.1 hSw).facts
    obtain ⟨⟨b0, b1, b2, b3⟩, bz⟩ := (NS.call H5.out.2.2.1 hSw).facts
    clear hSw
    go_simp
    try with_reducible rfl
  simp only [Act.put, List.setIfInBounds_toArray, List.set_cons_zero, List.set_cons_succ]
  refine wpAnyN_take (i := 2) (oi := ?o2) (v := ?v2) ?hi2 (by kernel_rfl) (by kernel_rfl) (by kernel_rfl) (by kernel_rfl) (by decide) (by kernel_rfl) ?hQ2 ?hy2 (Below.drew (Below.refl _ _)) ?more2
  case hi2 => rw [List.getElem?_toArray]; exact rfl
  case hQ2 => exact fun _ _ _ h => h
  case hy2 =>
    refine Or.inl ⟨by rfl, ?_⟩
    intro w' hSw
    obtain ⟨⟨a0, a1, a2, a3⟩, az⟩ := (NS.call H5.out.2.1 hSw).facts
    obtain ⟨⟨b0, b1, b2, b3⟩, bz⟩ := (NS.call H5.out.2.2.1 hSw).facts
    clear hSw
    go_simp
    try with_reducible rfl
  simp only [Act.put, List.setIfInBounds_toArray, List.set_cons_zero, List.set_cons_succ]
  refine wpAnyN_take (i := 3) (oi := ?o3) (v := ?v3) ?hi3 (by kernel_rfl) (by kernel_rfl) (by kernel_rfl) (by kernel_rfl) (by decide) (by kernel_rfl) ?hQ3 ?hy3 (Below.drew (Below.refl _ _)) ?more3
  case hi3 => rw [List.getElem?_toArray]; exact rfl
  case hQ3 => exact fun _ _ _ h => h
  case hy3 =>
    refine Or.inl ⟨by rfl, ?_⟩
    intro w' hSw
    obtain ⟨⟨a0, a1, a2, a3⟩, az⟩ := (NS.call H5.out.2.1 hSw).facts
    obtain ⟨⟨b0, b1, b2, b3⟩, bz⟩ := (NS.call H5.out.2.2.1 hSw).facts
    clear hSw
    go_simp
    try with_reducible rfl
  simp only [Act.put, List.setIfInBounds_toArray, List.set_cons_zero, List.set_cons_succ]
  refine wpAnyN_take (i := 4) (oi := ?o4) (v := ?v4) ?hi4 (by kernel_rfl) (by kernel_rfl) (by kernel_rfl) (by kernel_rfl) (by decide) (by kernel_rfl) ?hQ4 ?hy4 (Below.drew (Below.refl _ _)) ?more4
  case hi4 => rw [List.getElem?_toArray]; exact rfl
  case hQ4 => exact fun _ _ _ h => h
  case hy4 =>
    refine Or.inl ⟨by rfl, ?_⟩
    intro w' hSw
    obtain ⟨⟨a0, a1, a2, a3⟩, az⟩ := (NS.call H5.out.2.1 hSw).facts
    obtain ⟨⟨b0, b1, b2, b3⟩, bz⟩ := (NS.call H5.out.2.2.1 hSw).facts
    clear hSw
    go_simp
    try with_reducible rfl
  simp only [Act.put, List.setIfInBounds_toArray, List.set_cons_zero, List.set_cons_succ]
  refine wpAnyN_take (i := 5) (oi := ?o5) (v := ?v5) ?hi5 (by kernel_rfl) (by kernel_rfl) (by kernel_rfl) (by kernel_rfl) (by decide) (by kernel_rfl) ?hQ5 ?hy5 (Below.drew (Below.refl _ _)) ?more5
  case hi5 => rw [List.getElem?_toArray]; exact rfl
  case hQ5 => exact fun _ _ _ h => h
  case hy5 =>
    refine Or.inl ⟨by rfl, ?_⟩
    intro w' hSw
    obtain ⟨⟨a0, a1, a2, a3⟩, az⟩ := (NS.call H5.out.2.1 hSw).facts
    obtain ⟨⟨b0, b1, b2, b3⟩, bz⟩ := (NS.call H5.out.2.2.1 hSw).facts
    clear hSw
    go_simp
    try with_reducible rfl
  simp only [Act.put, List.setIfInBounds_toArray, List.set_cons_zero, List.set_cons_succ]
  refine wpAnyN_take (i := 6) (oi := ?o6) (v := ?v6) ?hi6 (by kernel_rfl) (by kernel_rfl) (by kernel_rfl) (by kernel_rfl) (by decide) (by kernel_rfl) ?hQ6 ?hy6 (Below.drew (Below.refl _ _)) ?more6
  case hi6 => rw [List.getElem?_toArray]; exact rfl
  case hQ6 => exact fun _ _ _ h => h
  case hy6 =>
    refine Or.inl ⟨by rfl, ?_⟩
    intro w' hSw
    obtain ⟨⟨a0, a1, a2, a3⟩, az⟩ := (NS.call H5.out.2.1 hSw).facts
    obtain ⟨⟨b0, b1, b2, b3⟩, bz⟩ := (NS.call H5.out.2.2.1 hSw).facts
    clear hSw
    go_simp
    try with_reducible rfl
  simp only [Act.put, List.setIfInBounds_toArray, List.set_cons_zero, List.set_cons_succ]
  refine wpAnyN_take (i := 7) (oi := ?o7) (v := ?v7) ?hi7 (by kernel_rfl) (by kernel_rfl) (by kernel_rfl) (by kernel_rfl) (by decide) (by kernel_rfl) ?hQ7 ?hy7 (Below.drew (Below.refl _ _)) ?more7
  case hi7 => rw [List.getElem?_toArray]; exact rfl
  case hQ7 => exact fun _ _ _ h => h
  case hy7 =>
    refine Or.inl ⟨by rfl, ?_⟩
    intro w' hSw
    obtain ⟨⟨a0, a1, a2, a3⟩, az⟩ := (NS.call H5.out.2.1 hSw).facts
    obtain ⟨⟨b0, b1, b2, b3⟩, bz⟩ := (NS.call H5.out.2.2.1 hSw).facts
    clear hSw
    go_simp
    try with_reducible rfl
  simp only [Act.put, List.setIfInBounds_toArray, List.set_cons_zero, List.set_cons_succ]
  refine wpAnyN_take (i := 8) (oi := ?o8) (v := ?v8) ?hi8 (by kernel_rfl) (by kernel_rfl) (by kernel_rfl) (by kernel_rfl) (by decide) (by kernel_rfl) ?hQ8 ?hy8 (Below.drew (Below.refl _ _)) ?more8
  case hi8 => rw [List.getElem?_toArray]; exact rfl
  case hQ8 => exact fun _ _ _ h => h
  case hy8 =>
    refine Or.inl ⟨by rfl, ?_⟩
    intro w' hSw
    obtain ⟨⟨a0, a1, a2, a3⟩, az⟩ := (NS.call H5.out.2.1 hSw).facts
    obtain ⟨⟨b0, b1, b2, b3⟩, bz⟩ := (NS.call H5.out.2.2.1 hSw).facts
    clear hSw
    go_simp
    try with_reducible rfl
  simp only [Act.put, List.setIfInBounds_toArray, List.set_cons_zero, List.set_cons_succ]
  refine wpAnyN_take (i := 9) (oi := ?o9) (v := ?v9) ?hi9 (by kernel_rfl) (by kernel_rfl) (by kernel_rfl) (by kernel_rfl) (by decide) (by kernel_rfl) ?hQ9 ?hy9 (Below.drew (Below.refl _ _)) ?more9
  case hi9 => rw [List.getElem?_toArray]; exact rfl
  case hQ9 => exact fun _ _ _ h => h
  case hy9 =>
    refine Or.inl ⟨by rfl, ?_⟩
    intro w' hSw
    obtain ⟨⟨a0, a1, a2, a3⟩, az⟩ := (NS.call H5.out.2.1 hSw).facts
    obtain ⟨⟨b0, b1, b2, b3⟩, bz⟩ := (NS.call H5.out.2.2.1 hSw).facts
    clear hSw
    go_simp
    try with_reducible rfl
  simp only [Act.put, List.setIfInBounds_toArray, List.set_cons_zero, List.set_cons_succ]
  refine wpAnyN_take (i := 10) (oi := ?o10) (v := ?v10) ?hi10 (by kernel_rfl) (by kernel_rfl) (by kernel_rfl) (by kernel_rfl) (by decide) (by kernel_rfl) ?hQ10 ?hy10 (Below.drew (Below.refl _ _)) ?more10
  case hi10 => rw [List.getElem?_toArray]; exact rfl
  case hQ10 => exact fun _ _ _ h => h
  case hy10 =>
    refine Or.inl ⟨by rfl, ?_⟩
    intro w' hSw
    obtain ⟨⟨a0, a1, a2, a3⟩, az⟩ := (NS.call H5.out.2.1 hSw).facts
    obtain ⟨⟨b0, b1, b2, b3⟩, bz⟩ := (NS.call H5.out.2.2.1 hSw).facts
    clear hSw
    go_simp
    try with_reducible rfl
  simp only [Act.put, List.setIfInBounds_toArray, List.set_cons_zero, List.set_cons_succ]
  refine wpAnyN_take (i := 11) (oi := ?o11) (v := ?v11) ?hi11 (by kernel_rfl) (by kernel_rfl) (by kernel_rfl) (by kernel_rfl) (by decide) (by kernel_rfl) ?hQ11 ?hy11 (Below.drew (Below.refl _ _)) ?more11
  case hi11 => rw [List.getElem?_toArray]; exact rfl
  case hQ11 => exact fun _ _ _ h => h
  case hy11 =>
    refine Or.inl ⟨by rfl, ?_⟩
    intro w' hSw
    obtain ⟨⟨a0, a1, a2, a3⟩, az⟩ := (NS.call H5.out.2.1 hSw).facts
    obtain ⟨⟨b0, b1, b2, b3⟩, bz⟩ := (NS.call H5.out.2.2.1 hSw).facts
    clear hSw
    go_simp
    try with_reducible rfl
  simp only [Act.put, List.setIfInBounds_toArray, List.set_cons_zero, List.set_cons_succ]
  refine wpAnyN_take (i := 12) (oi := ?o12) (v := ?v12) ?hi12 (by kernel_rfl) (by kernel_rfl) (by kernel_rfl) (by kernel_rfl) (by decide) (by kernel_rfl) ?hQ12 ?hy12 (Below.drew (Below.refl _ _)) ?more12
  case hi12 => rw [List.getElem?_toArray]; exact rfl
  case hQ12 => exact fun _ _ _ h => h
  case hy12 =>
    refine Or.inl ⟨by rfl, ?_⟩
    intro w' hSw
    obtain ⟨⟨a0, a1, a2, a3⟩, az⟩ := (NS.call H5.out.2.1 hSw).facts
    obtain ⟨⟨b0, b1, b2, b3⟩, bz⟩ := (NS.call H5.out.2.2.1 hSw).facts
    clear hSw
    go_simp
    try with_reducible rfl
  simp only [Act.put, List.setIfInBounds_toArray, List.set_cons_zero, List.set_cons_succ]
  refine wpAnyN_take (i := 13) (oi := ?o13) (v := ?v13) ?hi13 (by kernel_rfl) (by kernel_rfl) (by kernel_rfl) (by kernel_rfl) (by decide) (by kernel_rfl) ?hQ13 ?hy13 (Below.drew (Below.refl _ _)) ?more13
  case hi13 => rw [List.getElem?_toArray]; exact rfl
  case hQ13 => exact fun _ _ _ h => h
  case hy13 =>
    refine Or.inl ⟨by rfl, ?_⟩
    intro w' hSw
    obtain ⟨⟨a0, a1, a2, a3⟩, az⟩ := (NS.call H5.out.2.1 hSw).facts
    obtain ⟨⟨b0, b1, b2, b3⟩, bz⟩ := (NS.call H5.out.2.2.1 hSw).facts
    clear hSw
    go_simp
    try with_reducible rfl
  simp only [Act.put, List.setIfInBounds_toArray, List.set_cons_zero, List.set_cons_succ]
  refine wpAnyN_take (i := 14) (oi := ?o14) (v := ?v14) ?hi14 (by kernel_rfl) (by kernel_rfl) (by kernel_rfl) (by kernel_rfl) (by decide) (by kernel_rfl) ?hQ14 ?hy14 (Below.drew (Below.refl _ _)) ?more14
  case hi14 => rw [List.getElem?_toArray]; exact rfl
  case hQ14 => exact fun _ _ _ h => h
  case hy14 =>
    refine Or.inl ⟨by rfl, ?_⟩
    intro w' hSw
    obtain ⟨⟨a0, a1, a2, a3⟩, az⟩ := (NS.call H5.out.2.1 hSw).facts
    obtain ⟨⟨b0, b1, b2, b3⟩, bz⟩ := (NS.call H5.out.2.2.1 hSw).facts
    clear hSw
    go_simp
    try with_reducible rfl
  simp only [Act.put, List.setIfInBounds_toArray, List.set_cons_zero, List.set_cons_succ]
  refine wpAnyN_take (i := 15) (oi := ?o15) (v := ?v15) ?hi15 (by kernel_rfl) (by kernel_rfl) (by kernel_rfl) (by kernel_rfl) (by decide) (by kernel_rfl) ?hQ15 ?hy15 (Below.drew (Below.refl _ _)) ?more15
  case hi15 => rw [List.getElem?_toArray]; exact rfl
  case hQ15 => exact fun _ _ _ h => h
  case hy15 =>
    refine Or.inl ⟨by rfl, ?_⟩
    intro w' hSw
    obtain ⟨⟨a0, a1, a2, a3⟩, az⟩ := (NS.call H5.out.2.1 hSw).facts
    obtain ⟨⟨b0, b1, b2, b3⟩, bz⟩ := (NS.call H5.out.2.2.1 hSw).facts
    clear hSw
    go_simp
    try with_reducible rfl
  simp only [Act.put, List.setIfInBounds_toArray, List.set_cons_zero, List.set_cons_succ]
  refine wpAnyN_take (i := 16) (oi := ?o16) (v := ?v16) ?hi16 (by kernel_rfl) (by kernel_rfl) (by kernel_rfl) (by kernel_rfl) (by decide) (by kernel_rfl) ?hQ16 ?hy16 (Below.drew (Below.refl _ _)) ?more16
  case hi16 => rw [List.getElem?_toArray]; exact rfl
  case hQ16 => exact fun _ _ _ h => h
  case hy16 =>
    refine Or.inl ⟨by rfl, ?_⟩
    intro w' hSw
    obtain ⟨⟨a0, a1, a2, a3⟩, az⟩ := (NS.call H5.out.2.1 hSw).facts
    obtain ⟨⟨b0, b1, b2, b3⟩, bz⟩ := (NS.call H5.out.2.2.1 hSw).facts
    clear hSw
    go_simp
    try with_reducible rfl
  simp only [Act.put, List.setIfInBounds_toArray, List.set_cons_zero, List.set_cons_succ]
  refine wpAnyN_take (i := 17) (oi := ?o17) (v := ?v17) ?hi17 (by kernel_rfl) (by kernel_rfl) (by kernel_rfl) (by kernel_rfl) (by decide) (by kernel_rfl) ?hQ17 ?hy17 (Below.drew (Below.refl _ _)) ?more17
  case hi17 => rw [List.getElem?_toArray]; exact rfl
  case hQ17 => exact fun _ _ _ h => h
  case hy17 =>
    refine Or.inl ⟨by rfl, ?_⟩
    intro w' hSw
    obtain ⟨⟨a0, a1, a2, a3⟩, az⟩ := (NS.call H5.out.2.1 hSw).facts
    obtain ⟨⟨b0, b1, b2, b3⟩, bz⟩ := (NS.call H5.out.2.2.1 hSw).facts
    clear hSw
    go_simp
    try with_reducible rfl
  simp only [Act.put, List.setIfInBounds_toArray, List.set_cons_zero, List.set_cons_succ]
  refine wpAnyN_one (i := 0) (o := ?o0) (by kernel_rfl) ?hi0 ?hw0 ?st0
  case hi0 => rw [List.getElem?_toArray]; exact rfl
  case hw0 => exact rfl
  intro K hK
  have HK0 : Hid _ := hK
  clear hK
  go_simp
  refine (KS.out _ (GlobQ.drew H5.out.2.2.2.2)).mono ?_
  rintro e w6 ⟨g, rfl, hFB, hq⟩
  have H6 : Hid (FieldB w6 g QQ ∧ Below w5.heap.size w5 w6) := ⟨hFB, below_call0' (Below.drew (Below.refl _ _)) hq⟩
  clear hFB hq
  go_wp2_with fail
  refine HK0.out _ _ ⟨fun _ => H6.out.2, ?_⟩
  clear HK0 K
  try simp only [Act.put, List.setIfInBounds_toArray, List.set_cons_zero, List.set_cons_succ]
  refine wpAnyN_one (i := 18) (o := ?o18) (by kernel_rfl) ?hi18 ?hw18 ?st18
  case hi18 => rw [List.getElem?_toArray]; exact rfl
  case hw18 => exact rfl
  intro K hK
  have HK18 : Hid _ := hK
  clear hK
  go_simp
  refine (KR.out _ _ H6.out.1).mono ?_
  rintro e w7 ⟨rfl, hq⟩
  have H7 : Hid (Below w5.heap.size w5 w7) := below_call0' H6.out.2 hq
  obtain ⟨⟨p0, p1, p2, p3⟩, ⟨f0, f1, f2, f3⟩, pz⟩ := (Pend.call H5.out.1 H7.out).facts
  clear hq
  go_wp2_with fail
  refine HK18.out _ _ ⟨fun _ => H7.out, ?_⟩
  clear HK18 K
  try simp only [Act.put, List.setIfInBounds_toArray, List.set_cons_zero, List.set_cons_succ]
  refine wpAnyN_one (i := 19) (o := ?o19) (by kernel_rfl) ?hi19 ?hw19 ?st19
  case hi19 => rw [List.getElem?_toArray]; exact rfl
  case hw19 => exact rfl
  intro K hK
  have HK19 : Hid _ := hK
  clear hK
  go_simp
  refine HK19.out _ _ ⟨fun h => absurd h (by decide +kernel), ?_⟩
  clear HK19 K
  try simp only [Act.put, List.setIfInBounds_toArray, List.set_cons_zero, List.set_cons_succ]
  refine wpAnyN_done (by kernel_rfl) ?_ _
  go_wp2_with fail
  have W7 : Below w.heap.size w w7 := below_call0' H5.out.2.2.2.1 H7.out
  refine bodyPost_ret (v := .agg #[.int .u64 (limb (R) 0 : Nat), .int .u64 (limb (R) 1 : Nat), .int .u64 (limb (R) 2 : Nat), .int .u64 (limb (R) 3 : Nat)]) ?_ rfl ⟨rfl, ?_⟩
  · simp [results, Tryd.results23, go_sem, p0, p1, p2, p3]
  · ((repeat' (first | with_reducible exact Below.refl _ _ | with_reducible refine Below.setCell ?_ ?_ _ | with_reducible refine below_alloc0 ?_ _ | with_reducible refine below_drewN ?_ _ | with_reducible refine Below.drew ?_ | refine below_call0 ?_ (by assumption))) <;> (first | omega | (simp; done) | (simp; omega)))
end Go.Proofs.YtjdfipfeclphkaaDoor

namespace Go.Proofs.YtjdfipfeclphkaaDoor
open Go Go.RowKit Go.Lib

theorem FieldB.new' (W : World) (m : Nat) (t : TypeId) : FieldB (W.alloc (.cells #[.int .u64 (limb m 0 : Nat), .int .u64 (limb m 1 : Nat), .int .u64 (limb m 2 : Nat), .int .u64 (limb m 3 : Nat), .int .u64 (limb (R256 - m) 0 : Nat), .int .u64 (limb (R256 - m) 1 : Nat), .int .u64 (limb (R256 - m) 2 : Nat), .int .u64 (limb (R256 - m) 3 : Nat)] t)) W.heap.size m :=
  ⟨by refine limbs4 _ ?_ ?_ ?_ ?_ <;> simp [go_sem], by refine limbs4 _ ?_ ?_ ?_ ?_ <;> simp [go_sem], by simp⟩
set_option maxRecDepth 100000 in
set_option maxHeartbeats 4000000 in
theorem scalar5_in (t : ByteArray) (a : Option Addr) (l : List ByteArray) (cap : Nat) (ht : tagB t = true) (hb : 1 + (hashB t l).size < 140737488351233) (w : World) (hS : Strs w a l) :
    Calls Tryd.prog 11 #[.string t, .slice a l.length cap] w fun e w' => e = .returned (.tuple #[.agg #[.int .u64 (limb (scN (hashB t l)) 0 : Nat), .int .u64 (limb (scN (hashB t l)) 1 : Nat), .int .u64 (limb (scN (hashB t l)) 2 : Nat), .int .u64 (limb (scN (hashB t l)) 3 : Nat)], .int .i64 0]) ∧ Below w.heap.size w w' := by
  have KT : Hid _ := fun (w : World) => tag5_any t w
  rw [ht] at KT
  have KH : Hid _ := fun (w : World) (h : Strs w a l) => hashed_any t a l cap (by omega) w h
  obtain ⟨h, hh⟩ : ∃ h, h = hashB t l := ⟨_, rfl⟩
  rw [← hh] at KH hb ⊢
  have K1 : Hid _ := fun (w : World) => sum4_any ((⟨#[0]⟩ : ByteArray) ++ h) (by rw [ByteArray.size_append]; exact hb) w
  have K2 : Hid _ := fun (w : World) => sum4_any ((⟨#[1]⟩ : ByteArray) ++ h) (by rw [ByteArray.size_append]; exact hb) w
  have F1 : Hid _ := fun (w : World) => from_any_ref (shaS ((⟨#[0]⟩ : ByteArray) ++ h)) (sha_32 _) w
  have F2 : Hid _ := fun (w : World) => from_any_ref (shaS ((⟨#[1]⟩ : ByteArray) ++ h)) (sha_32 _) w
  have KS : Hid _ := fun (w : World) => scalars2_any w
  obtain ⟨N1, hN1⟩ : ∃ n, n = numB (sbyte (shaS ((⟨#[0]⟩ : ByteArray) ++ h))) := ⟨_, rfl⟩
  obtain ⟨N2, hN2⟩ : ∃ n, n = numB (sbyte (shaS ((⟨#[1]⟩ : ByteArray) ++ h))) := ⟨_, rfl⟩
  obtain ⟨R, hR⟩ : ∃ R, R = scN h := ⟨_, rfl⟩
  have HR : Hid ((N2 + R256 * N1) % QQ = R ∧ N1 < R256 ∧ N2 < R256) := ⟨by rw [hR, hN1, hN2]; rfl, by rw [hN1]; exact numB_lt _ (sbyte_lt _), by rw [hN2]; exact numB_lt _ (sbyte_lt _)⟩
  rw [← hR]
  rw [← hN1] at F1
  rw [← hN2] at F2
  obtain ⟨m, hm⟩ : ∃ m, m = QQ := ⟨_, rfl⟩
  obtain ⟨G, hG⟩ : ∃ G, G = R256 - QQ := ⟨_, rfl⟩
  have HFN : Hid (∀ W t, FieldB ((W : World).alloc (.cells #[.int .u64 (limb QQ 0 : Nat), .int .u64 (limb QQ 1 : Nat), .int .u64 (limb QQ 2 : Nat), .int .u64 (limb QQ 3 : Nat), .int .u64 (limb (R256 - QQ) 0 : Nat), .int .u64 (limb (R256 - QQ) 1 : Nat), .int .u64 (limb (R256 - QQ) 2 : Nat), .int .u64 (limb (R256 - QQ) 3 : Nat)] t)) W.heap.size QQ) := fun W t => FieldB.new' W QQ t
  have KR : Hid (∀ (w : World), Calls Tryd.prog 25 #[.agg #[.int .u64 (limb (QQ) 0 : Nat), .int .u64 (limb (QQ) 1 : Nat), .int .u64 (limb (QQ) 2 : Nat), .int .u64 (limb (QQ) 3 : Nat), .int .u64 (limb (R256 - (QQ)) 0 : Nat), .int .u64 (limb (R256 - (QQ)) 1 : Nat), .int .u64 (limb (R256 - (QQ)) 2 : Nat), .int .u64 (limb (R256 - (QQ)) 3 : Nat)], .agg #[.int .u64 (limb N2 0 : Nat), .int .u64 (limb N2 1 : Nat), .int .u64 (limb N2 2 : Nat), .int .u64 (limb N2 3 : Nat), .int .u64 (limb N1 0 : Nat), .int .u64 (limb N1 1 : Nat), .int .u64 (limb N1 2 : Nat), .int .u64 (limb N1 3 : Nat)]] w fun e w' => e = .returned (.agg #[.int .u64 (limb (R) 0 : Nat), .int .u64 (limb (R) 1 : Nat), .int .u64 (limb (R) 2 : Nat), .int .u64 (limb (R) 3 : Nat)]) ∧ Below w.heap.size w w') := fun w => by
    have k := reduce2_any QQ (N2 + R256 * N1) FM_Q FS_Q (wide_lt _ _ HR.out.2.2 HR.out.2.1) w
    obtain ⟨e0, e1, e2, e3, e4, e5, e6, e7⟩ := wide_two N2 N1 HR.out.2.2 HR.out.2.1
    rw [e0, e1, e2, e3, e4, e5, e6, e7, HR.out.1] at k
    exact k
  rw [← hG] at KS KR HFN
  rw [← hm] at hG KS KR HFN
  have HGm : Hid (G = R256 - m) := hG
  obtain ⟨X1, hX1⟩ : ∃ X, X = shaS ((⟨#[0]⟩ : ByteArray) ++ h) := ⟨_, rfl⟩
  obtain ⟨X2, hX2⟩ : ∃ X, X = shaS ((⟨#[1]⟩ : ByteArray) ++ h) := ⟨_, rfl⟩
  rw [← hX1] at K1 F1
  rw [← hX2] at K2 F2
  have hs' : h.size < 140737488351233 := by omega
  have HS : Hid (Strs w a l) := hS
  have H0 : Hid (Pend (w.alloc (.cells #[.int .u64 0, .int .u64 0, .int .u64 0, .int .u64 0] 32)) w.heap.size ∧ Below w.heap.size w (w.alloc (.cells #[.int .u64 0, .int .u64 0, .int .u64 0, .int .u64 0] 32))) := ⟨Pend.new w _, below_alloc0' (Below.refl _ _) _⟩
  clear hS hb hN1 hN2 hR hh ht hm hG hX1 hX2
  go_enter Tryd.func11, Tryd.ntmps11
  go_wp2_with fail
  refine (KT.out _).mono ?_
  rintro e w0 ⟨rfl, ew0⟩
  have H1 : Hid (Pend w0 w.heap.size ∧ Below w.heap.size w w0) := by rw [ew0]; exact H0.out
  clear ew0 H0
  go_wp2_with fail
  refine (KH.out _ (HS.out.call H1.out.2)).mono ?_
  rintro e w1 ⟨rfl, hb1⟩
  have H2 : Hid (Pend w1 w.heap.size ∧ Below w.heap.size w w1) := ⟨H1.out.1.call hb1, below_call0' H1.out.2 hb1⟩
  clear hb1 H1
  go_wp2_with fail
  refine (K1.out _).mono ?_
  rintro e w2 ⟨rfl, hb2⟩
  have H3 : Hid (Pend w2 w.heap.size ∧ Below w.heap.size w w2) := ⟨H2.out.1.call hb2, below_call0' H2.out.2 hb2⟩
  clear hb2 H2
  go_wp2_with fail
  refine (F1.out _).mono ?_
  rintro e w3 ⟨rfl, hb3⟩
  have H4 : Hid (Pend (w3.alloc (.cells #[.int .u64 (limb N1 0 : Nat), .int .u64 (limb N1 1 : Nat), .int .u64 (limb N1 2 : Nat), .int .u64 (limb N1 3 : Nat)] 32)) w.heap.size ∧ Below w.heap.size w (w3.alloc (.cells #[.int .u64 (limb N1 0 : Nat), .int .u64 (limb N1 1 : Nat), .int .u64 (limb N1 2 : Nat), .int .u64 (limb N1 3 : Nat)] 32))) := ⟨(H3.out.1.call hb3).alloc, below_alloc0' (below_call0' H3.out.2 hb3) _⟩
  clear hb3 H3
  go_wp2_with fail
  refine (K2.out _).mono ?_
  rintro e w4 ⟨rfl, hb4⟩
  have H5 : Hid (Pend w4 w.heap.size ∧ NS w4 w3.heap.size N1 ∧ Below w.heap.size w w4) := ⟨H4.out.1.call hb4, NS.ncall hb4, below_call0' H4.out.2 hb4⟩
  clear hb4 H4
  go_wp2_with fail
  refine (F2.out _).mono ?_
  rintro e w5 ⟨rfl, hb5⟩
  have H6 : Hid (Pend w5 w.heap.size ∧ NS w5 w3.heap.size N1 ∧ Below w.heap.size w w5) := ⟨H5.out.1.call hb5, H5.out.2.1.call hb5, below_call0' H5.out.2.2 hb5⟩
  clear hb5 H5
  go_wp2_with fail
  refine (KS.out _).mono ?_
  rintro e w6 ⟨rfl, hb6⟩
  have H7 : Hid (Pend w6 w.heap.size ∧ NS w6 w3.heap.size N1 ∧ NS w6 w5.heap.size N2 ∧ Below w.heap.size w w6) := ⟨(H6.out.1.alloc).call hb6, (H6.out.2.1.alloc).call hb6, NS.ncall hb6, below_call0' (below_alloc0' H6.out.2.2 _) hb6⟩
  obtain ⟨⟨a0, a1, a2, a3⟩, az⟩ := H7.out.2.1.facts
  obtain ⟨⟨b0, b1, b2, b3⟩, bz⟩ := H7.out.2.2.1.facts
  clear hb6 H6 HFN
  go_wp2_with fail
  refine (KR.out _).mono ?_
  rintro e w8 ⟨rfl, hb8⟩
  have H8 : Hid (Pend w8 w.heap.size ∧ Below w.heap.size w w8) := ⟨(H7.out.1.alloc).call hb8, below_call0' (below_alloc0' H7.out.2.2.2 _) hb8⟩
  clear hb8 H7 a0 a1 a2 a3 az b0 b1 b2 b3 bz
  obtain ⟨⟨p0, p1, p2, p3⟩, ⟨f0, f1, f2, f3⟩, pz⟩ := H8.out.1.facts
  go_wp2_with fail
  have W8 : Below w.heap.size w w8 := H8.out.2
  refine bodyPost_ret (v := .tuple #[.agg #[.int .u64 (limb (R) 0 : Nat), .int .u64 (limb (R) 1 : Nat), .int .u64 (limb (R) 2 : Nat), .int .u64 (limb (R) 3 : Nat)], .int .i64 0]) ?_ rfl ⟨rfl, ?_⟩
  · simp [results, Tryd.results11, go_sem, p0, p1, p2, p3]
  · ((repeat' (first | with_reducible exact Below.refl _ _ | with_reducible refine Below.setCell ?_ ?_ _ | with_reducible refine below_alloc0 ?_ _ | with_reducible refine below_drewN ?_ _ | with_reducible refine Below.drew ?_ | refine below_call0 ?_ (by assumption))) <;> (first | omega | (simp; done) | (simp; omega)))
end Go.Proofs.YtjdfipfeclphkaaDoor

namespace Go.Proofs.YtjdfipfeclphkaaDoor
open Go Go.RowKit Go.Lib
attribute [local go_sem] run_eq4

/-- The scalar of a seed. -/
def drN (h : ByteArray) : Nat := if scN h = 0 then 1 else scN h
def drH (s t : ByteArray) (n : Nat) : ByteArray := hashB t [s, ofL (numL n 8)]
theorem drH_size (s t : ByteArray) (n : Nat) : (drH s t n).size = 1 + t.size + 8 + s.size + 8 := by
  unfold drH
  rw [hashB_size]
  simp only [List.length_cons, List.length_nil, bytesN]
  rw [ofL_size, numL_length]
  omega
theorem two_strs (w : World) (s x : ByteArray) (T : TypeId) : Strs (w.alloc (.cells #[.string s, .string x] T)) (some ⟨w.heap.size, 0, none⟩) [s, x] := fun j y hj => by
  match j, hj with
  | 0, hj => simp at hj; subst hj; exact ⟨_, _, rfl, by simp [go_sem], by simp⟩
  | 1, hj => simp at hj; subst hj; exact ⟨_, _, rfl, by simp [go_sem], by simp⟩
  | j + 2, hj => simp at hj
theorem scN_lt (h : ByteArray) : scN h < QQ := Nat.mod_lt _ (by decide)
theorem QQ_lt : QQ < R256 := FM_Q.2.1
set_option maxRecDepth 100000 in
set_option maxHeartbeats 4000000 in
theorem draw_any (s t : ByteArray) (n : Nat) (hn : n < 9223372036854775808) (hs : s.size < 140737488351233) (ht : t.size < 140737488351233) (w : World) (hG : GlobD w) (hz : 2 < w.heap.size) (hQ : GlobQ w) :
    Calls Tryd.prog 26 #[.func (.func 23) #[] #[], .string s, .string t, .int .i64 (n : Nat)] w fun e w' => e = .returned (.agg #[.int .u64 (limb (drN (drH s t n)) 0 : Nat), .int .u64 (limb (drN (drH s t n)) 1 : Nat), .int .u64 (limb (drN (drH s t n)) 2 : Nat), .int .u64 (limb (drN (drH s t n)) 3 : Nat)]) ∧ Below w.heap.size w w' := by
  have K1 : Hid _ := fun (w : World) => highFirst_any n 8 hn (by decide) (by decide) w
  have K2 : Hid _ := fun (W : World) (hG : GlobD W) (hz : 2 < W.heap.size) (hQ : GlobQ W) => scalar_any t (some ⟨W.heap.size, 0, none⟩) [s, ofL (numL n 8)] 2 (by have := drH_size s t n; unfold drH at this; omega) (W.alloc (.cells #[.string s, .string (ofL (numL n 8))] 9)) (two_strs W s _ _) (hG.call (below_alloc0' (Below.refl _ _) _)) (Nat.lt_of_lt_of_le hz (below_alloc0' (Below.refl W.heap.size W) _).size) (hQ.call (below_alloc0' (Below.refl _ _) _))
  obtain ⟨X, hX⟩ : ∃ X, X = ofL (numL n 8) := ⟨_, rfl⟩
  obtain ⟨R, hR⟩ : ∃ R, R = scN (hashB t [s, ofL (numL n 8)]) := ⟨_, rfl⟩
  have hRlt : R < R256 := by rw [hR]; exact Nat.lt_trans (scN_lt _) QQ_lt
  have hD : drN (drH s t n) = if R = 0 then 1 else R := by rw [hR]; rfl
  obtain ⟨V, hV⟩ : ∃ V, V = if R = 0 then 1 else R := ⟨_, rfl⟩
  rw [hD, ← hV]
  have HV : Hid (V = if R = 0 then 1 else R) := hV
  clear hV
  rw [← hR] at K2
  rw [← hX] at K1 K2
  have H0 : Hid (Pend (w.alloc (.cells #[.int .u64 0, .int .u64 0, .int .u64 0, .int .u64 0] 32)) w.heap.size ∧ Below w.heap.size w (w.alloc (.cells #[.int .u64 0, .int .u64 0, .int .u64 0, .int .u64 0] 32))) := ⟨Pend.new w _, below_alloc0' (Below.refl _ _) _⟩
  have HG : Hid (GlobD w ∧ 2 < w.heap.size ∧ GlobQ w) := ⟨hG, hz, hQ⟩
  have ez := eq4_zero R hRlt
  clear hn hs ht hG hz hQ hX hR hD hRlt
  go_enter Tryd.func26, Tryd.ntmps26
  go_wp2_with fail
  refine (K1.out _).mono ?_
  rintro e w1 ⟨rfl, hb1⟩
  have H1 : Hid (Pend w1 w.heap.size ∧ Below w.heap.size w w1) := ⟨H0.out.1.call hb1, below_call0' H0.out.2 hb1⟩
  clear hb1 H0
  go_wp2_with fail
  refine (K2.out _ (HG.out.1.call H1.out.2) (Nat.lt_of_lt_of_le HG.out.2.1 H1.out.2.size) (HG.out.2.2.call H1.out.2)).mono ?_
  rintro e w2 ⟨rfl, hb2⟩
  have H2 : Hid (Pend w2 w.heap.size ∧ Below w.heap.size w w2) := ⟨(H1.out.1.alloc).call hb2, below_call0' (below_alloc0' H1.out.2 _) hb2⟩
  clear hb2 H1 K1 K2
  obtain ⟨⟨p0, p1, p2, p3⟩, ⟨f0, f1, f2, f3⟩, pz⟩ := H2.out.1.facts
  have W2 : Below w.heap.size w w2 := H2.out.2
  by_cases hr : R = 0
  · rw [decide_eq_true hr] at ez
    have H1 : Hid (V = 1) := by rw [HV.out, if_pos hr]; exact rfl
    go_wp2_with fail
    refine bodyPost_ret (v := .agg #[.int .u64 1, .int .u64 0, .int .u64 0, .int .u64 0]) ?_ rfl ⟨by rw [H1.out]; rfl, ?_⟩
    · simp [results, Tryd.results26, go_sem, p0, p1, p2, p3, pz]
    · ((repeat' (first | with_reducible exact Below.refl _ _ | with_reducible refine Below.setCell ?_ ?_ _ | with_reducible refine below_alloc0 ?_ _ | with_reducible refine below_drewN ?_ _ | with_reducible refine Below.drew ?_ | refine below_call0 ?_ (by assumption))) <;> (first | omega | (simp; done) | (simp; omega)))
  · rw [decide_eq_false hr] at ez
    have H1 : Hid (V = R) := by rw [HV.out, if_neg hr]; exact rfl
    go_wp2_with fail
    refine bodyPost_ret (v := .agg #[.int .u64 (limb (R) 0 : Nat), .int .u64 (limb (R) 1 : Nat), .int .u64 (limb (R) 2 : Nat), .int .u64 (limb (R) 3 : Nat)]) ?_ rfl ⟨by rw [H1.out], ?_⟩
    · simp [results, Tryd.results26, go_sem, p0, p1, p2, p3, pz]
    · ((repeat' (first | with_reducible exact Below.refl _ _ | with_reducible refine Below.setCell ?_ ?_ _ | with_reducible refine below_alloc0 ?_ _ | with_reducible refine below_drewN ?_ _ | with_reducible refine Below.drew ?_ | refine below_call0 ?_ (by assumption))) <;> (first | omega | (simp; done) | (simp; omega)))
end Go.Proofs.YtjdfipfeclphkaaDoor

namespace Go.Proofs.YtjdfipfeclphkaaDoor
open Go Go.RowKit Go.Lib

set_option maxRecDepth 100000 in
set_option maxHeartbeats 4000000 in
theorem ddraw_in (s t : ByteArray) (n : Nat) (hn : n ≤ 1099511627776) (hs : s.size < 140737488351233) (ht : tagB t = true) (w : World) (hG : GlobD w) (hz : 2 < w.heap.size) (hQ : GlobQ w) :
    Calls Tryd.prog 12 #[.string s, .string t, .int .i64 (n : Nat)] w fun e w' => e = .returned (.tuple #[.agg #[.int .u64 (limb (drN (drH s t n)) 0 : Nat), .int .u64 (limb (drN (drH s t n)) 1 : Nat), .int .u64 (limb (drN (drH s t n)) 2 : Nat), .int .u64 (limb (drN (drH s t n)) 3 : Nat)], .int .i64 0]) ∧ Below w.heap.size w w' := by
  have ht40 : t.size < 140737488351233 := by have : 1 ≤ t.size ∧ t.size ≤ 40 := of_decide_eq_true ht; omega
  have KT : Hid _ := fun (w : World) => isTag_any t w
  rw [ht] at KT
  have KD : Hid _ := fun (w : World) (hG : GlobD w) (hz : 2 < w.heap.size) (hQ : GlobQ w) => draw_any s t n (by omega) hs ht40 w hG hz hQ
  obtain ⟨R, hR⟩ : ∃ R, R = drN (drH s t n) := ⟨_, rfl⟩
  rw [← hR] at KD ⊢
  have n1 : ¬ ((n : Int) < 0) := by omega
  have n2 : ¬ ((1099511627776 : Int) < (n : Int)) := by omega
  have H0 : Hid (Pend (w.alloc (.cells #[.int .u64 0, .int .u64 0, .int .u64 0, .int .u64 0] 32)) w.heap.size ∧ Below w.heap.size w (w.alloc (.cells #[.int .u64 0, .int .u64 0, .int .u64 0, .int .u64 0] 32))) := ⟨Pend.new w _, below_alloc0' (Below.refl _ _) _⟩
  have HG : Hid (GlobD w ∧ 2 < w.heap.size ∧ GlobQ w) := ⟨hG, hz, hQ⟩
  clear hn hs ht hG hz hQ hR ht40
  go_enter Tryd.func12, Tryd.ntmps12
  go_wp2_with fail
  refine (KT.out _).mono ?_
  rintro e w0 ⟨rfl, ew0⟩
  have H1 : Hid (Pend w0 w.heap.size ∧ Below w.heap.size w w0) := by rw [ew0]; exact H0.out
  clear ew0 H0
  go_wp2_with fail
  refine (KD.out _ (HG.out.1.call H1.out.2) (Nat.lt_of_lt_of_le HG.out.2.1 H1.out.2.size) (HG.out.2.2.call H1.out.2)).mono ?_
  rintro e w1 ⟨rfl, hb1⟩
  have H2 : Hid (Pend w1 w.heap.size ∧ Below w.heap.size w w1) := ⟨H1.out.1.call hb1, below_call0' H1.out.2 hb1⟩
  clear hb1 H1
  obtain ⟨⟨p0, p1, p2, p3⟩, ⟨f0, f1, f2, f3⟩, pz⟩ := H2.out.1.facts
  have W2 : Below w.heap.size w w1 := H2.out.2
  go_wp2_with fail
  refine bodyPost_ret (v := .tuple #[.agg #[.int .u64 (limb (R) 0 : Nat), .int .u64 (limb (R) 1 : Nat), .int .u64 (limb (R) 2 : Nat), .int .u64 (limb (R) 3 : Nat)], .int .i64 0]) ?_ rfl ⟨rfl, ?_⟩
  · simp [results, Tryd.results12, go_sem, p0, p1, p2, p3]
  · ((repeat' (first | with_reducible exact Below.refl _ _ | with_reducible refine Below.setCell ?_ ?_ _ | with_reducible refine below_alloc0 ?_ _ | with_reducible refine below_drewN ?_ _ | with_reducible refine Below.drew ?_ | refine below_call0 ?_ (by assumption))) <;> (first | omega | (simp; done) | (simp; omega)))
/-- Which arguments Draw refuses. -/
def drawB (t : ByteArray) (n : Int) : Bool := tagB t && decide (0 ≤ n ∧ n ≤ 1099511627776)
set_option maxRecDepth 100000 in
set_option maxHeartbeats 4000000 in
theorem ddraw_no (s t : ByteArray) (n : Int) (hd : drawB t n = false) (w : World) :
    Calls Tryd.prog 12 #[.string s, .string t, .int .i64 n] w fun e w' => e = .returned (.tuple #[.agg #[.int .u64 0, .int .u64 0, .int .u64 0, .int .u64 0], .int .i64 1]) ∧ Below w.heap.size w w' := by
  have KT : Hid _ := fun (w : World) => isTag_any t w
  have H0 : Hid (Pend (w.alloc (.cells #[.int .u64 0, .int .u64 0, .int .u64 0, .int .u64 0] 32)) w.heap.size ∧ Below w.heap.size w (w.alloc (.cells #[.int .u64 0, .int .u64 0, .int .u64 0, .int .u64 0] 32))) := ⟨Pend.new w _, below_alloc0' (Below.refl _ _) _⟩
  unfold drawB at hd
  rcases Bool.eq_false_or_eq_true (tagB t) with ht | ht
  · rw [ht] at KT hd
    have hd' : ¬ (0 ≤ n ∧ n ≤ 1099511627776) := of_decide_eq_false (by simpa using hd)
    clear hd ht
    by_cases n1 : n < 0
    · clear hd'
      go_enter Tryd.func12, Tryd.ntmps12
      go_wp2_with fail
      refine (KT.out _).mono ?_
      rintro e w0 ⟨rfl, ew0⟩
      have H1 : Hid (Pend w0 w.heap.size ∧ Below w.heap.size w w0) := by rw [ew0]; exact H0.out
      clear ew0 H0
      obtain ⟨⟨p0, p1, p2, p3⟩, ⟨f0, f1, f2, f3⟩, pz⟩ := H1.out.1.facts
      have W2 : Below w.heap.size w w0 := H1.out.2
      go_wp2_with fail
      refine bodyPost_ret (v := .tuple #[.agg #[.int .u64 0, .int .u64 0, .int .u64 0, .int .u64 0], .int .i64 1]) ?_ rfl ⟨rfl, ?_⟩
      · simp [results, Tryd.results12, go_sem, p0, p1, p2, p3]
      · ((repeat' (first | with_reducible exact Below.refl _ _ | with_reducible refine Below.setCell ?_ ?_ _ | with_reducible refine below_alloc0 ?_ _ | with_reducible refine below_drewN ?_ _ | with_reducible refine Below.drew ?_ | refine below_call0 ?_ (by assumption))) <;> (first | omega | (simp; done) | (simp; omega)))
    · have n2 : (1099511627776 : Int) < n := by omega
      clear hd'
      go_enter Tryd.func12, Tryd.ntmps12
      go_wp2_with fail
      refine (KT.out _).mono ?_
      rintro e w0 ⟨rfl, ew0⟩
      have H1 : Hid (Pend w0 w.heap.size ∧ Below w.heap.size w w0) := by rw [ew0]; exact H0.out
      clear ew0 H0
      obtain ⟨⟨p0, p1, p2, p3⟩, ⟨f0, f1, f2, f3⟩, pz⟩ := H1.out.1.facts
      have W2 : Below w.heap.size w w0 := H1.out.2
      go_wp2_with fail
      refine bodyPost_ret (v := .tuple #[.agg #[.int .u64 0, .int .u64 0, .int .u64 0, .int .u64 0], .int .i64 1]) ?_ rfl ⟨rfl, ?_⟩
      · simp [results, Tryd.results12, go_sem, p0, p1, p2, p3]
      · ((repeat' (first | with_reducible exact Below.refl _ _ | with_reducible refine Below.setCell ?_ ?_ _ | with_reducible refine below_alloc0 ?_ _ | with_reducible refine below_drewN ?_ _ | with_reducible refine Below.drew ?_ | refine below_call0 ?_ (by assumption))) <;> (first | omega | (simp; done) | (simp; omega)))
  · rw [ht] at KT
    clear hd ht
    go_enter Tryd.func12, Tryd.ntmps12
    go_wp2_with fail
    refine (KT.out _).mono ?_
    rintro e w0 ⟨rfl, ew0⟩
    have H1 : Hid (Pend w0 w.heap.size ∧ Below w.heap.size w w0) := by rw [ew0]; exact H0.out
    clear ew0 H0
    obtain ⟨⟨p0, p1, p2, p3⟩, ⟨f0, f1, f2, f3⟩, pz⟩ := H1.out.1.facts
    have W2 : Below w.heap.size w w0 := H1.out.2
    go_wp2_with fail
    refine bodyPost_ret (v := .tuple #[.agg #[.int .u64 0, .int .u64 0, .int .u64 0, .int .u64 0], .int .i64 1]) ?_ rfl ⟨rfl, ?_⟩
    · simp [results, Tryd.results12, go_sem, p0, p1, p2, p3]
    · ((repeat' (first | with_reducible exact Below.refl _ _ | with_reducible refine Below.setCell ?_ ?_ _ | with_reducible refine below_alloc0 ?_ _ | with_reducible refine below_drewN ?_ _ | with_reducible refine Below.drew ?_ | refine below_call0 ?_ (by assumption))) <;> (first | omega | (simp; done) | (simp; omega)))
set_option maxRecDepth 100000 in
set_option maxHeartbeats 4000000 in
theorem rdraw_no (s t : ByteArray) (n : Int) (hd : drawB t n = false) (w : World) :
    Calls Tryd.prog 13 #[.string s, .string t, .int .i64 n] w fun e w' => e = .returned (.tuple #[.agg #[.int .u64 0, .int .u64 0, .int .u64 0, .int .u64 0], .int .i64 1]) ∧ Below w.heap.size w w' := by
  have KT : Hid _ := fun (w : World) => tag5_any t w
  have H0 : Hid (Pend (w.alloc (.cells #[.int .u64 0, .int .u64 0, .int .u64 0, .int .u64 0] 32)) w.heap.size ∧ Below w.heap.size w (w.alloc (.cells #[.int .u64 0, .int .u64 0, .int .u64 0, .int .u64 0] 32))) := ⟨Pend.new w _, below_alloc0' (Below.refl _ _) _⟩
  unfold drawB at hd
  rcases Bool.eq_false_or_eq_true (tagB t) with ht | ht
  · rw [ht] at KT hd
    have hd' : ¬ (0 ≤ n ∧ n ≤ 1099511627776) := of_decide_eq_false (by simpa using hd)
    clear hd ht
    by_cases n1 : n < 0
    · clear hd'
      go_enter Tryd.func13, Tryd.ntmps13
      go_wp2_with fail
      refine (KT.out _).mono ?_
      rintro e w0 ⟨rfl, ew0⟩
      have H1 : Hid (Pend w0 w.heap.size ∧ Below w.heap.size w w0) := by rw [ew0]; exact H0.out
      clear ew0 H0
      obtain ⟨⟨p0, p1, p2, p3⟩, ⟨f0, f1, f2, f3⟩, pz⟩ := H1.out.1.facts
      have W2 : Below w.heap.size w w0 := H1.out.2
      go_wp2_with fail
      refine bodyPost_ret (v := .tuple #[.agg #[.int .u64 0, .int .u64 0, .int .u64 0, .int .u64 0], .int .i64 1]) ?_ rfl ⟨rfl, ?_⟩
      · simp [results, Tryd.results13, go_sem, p0, p1, p2, p3]
      · ((repeat' (first | with_reducible exact Below.refl _ _ | with_reducible refine Below.setCell ?_ ?_ _ | with_reducible refine below_alloc0 ?_ _ | with_reducible refine below_drewN ?_ _ | with_reducible refine Below.drew ?_ | refine below_call0 ?_ (by assumption))) <;> (first | omega | (simp; done) | (simp; omega)))
    · have n2 : (1099511627776 : Int) < n := by omega
      clear hd'
      go_enter Tryd.func13, Tryd.ntmps13
      go_wp2_with fail
      refine (KT.out _).mono ?_
      rintro e w0 ⟨rfl, ew0⟩
      have H1 : Hid (Pend w0 w.heap.size ∧ Below w.heap.size w w0) := by rw [ew0]; exact H0.out
      clear ew0 H0
      obtain ⟨⟨p0, p1, p2, p3⟩, ⟨f0, f1, f2, f3⟩, pz⟩ := H1.out.1.facts
      have W2 : Below w.heap.size w w0 := H1.out.2
      go_wp2_with fail
      refine bodyPost_ret (v := .tuple #[.agg #[.int .u64 0, .int .u64 0, .int .u64 0, .int .u64 0], .int .i64 1]) ?_ rfl ⟨rfl, ?_⟩
      · simp [results, Tryd.results13, go_sem, p0, p1, p2, p3]
      · ((repeat' (first | with_reducible exact Below.refl _ _ | with_reducible refine Below.setCell ?_ ?_ _ | with_reducible refine below_alloc0 ?_ _ | with_reducible refine below_drewN ?_ _ | with_reducible refine Below.drew ?_ | refine below_call0 ?_ (by assumption))) <;> (first | omega | (simp; done) | (simp; omega)))
  · rw [ht] at KT
    clear hd ht
    go_enter Tryd.func13, Tryd.ntmps13
    go_wp2_with fail
    refine (KT.out _).mono ?_
    rintro e w0 ⟨rfl, ew0⟩
    have H1 : Hid (Pend w0 w.heap.size ∧ Below w.heap.size w w0) := by rw [ew0]; exact H0.out
    clear ew0 H0
    obtain ⟨⟨p0, p1, p2, p3⟩, ⟨f0, f1, f2, f3⟩, pz⟩ := H1.out.1.facts
    have W2 : Below w.heap.size w w0 := H1.out.2
    go_wp2_with fail
    refine bodyPost_ret (v := .tuple #[.agg #[.int .u64 0, .int .u64 0, .int .u64 0, .int .u64 0], .int .i64 1]) ?_ rfl ⟨rfl, ?_⟩
    · simp [results, Tryd.results13, go_sem, p0, p1, p2, p3]
    · ((repeat' (first | with_reducible exact Below.refl _ _ | with_reducible refine Below.setCell ?_ ?_ _ | with_reducible refine below_alloc0 ?_ _ | with_reducible refine below_drewN ?_ _ | with_reducible refine Below.drew ?_ | refine below_call0 ?_ (by assumption))) <;> (first | omega | (simp; done) | (simp; omega)))
set_option maxRecDepth 100000 in
set_option maxHeartbeats 4000000 in
theorem rdraw_in (s t : ByteArray) (n : Nat) (hn : n ≤ 1099511627776) (hs : s.size ≤ 20000) (ht : tagB t = true) (w : World) :
    Calls Tryd.prog 13 #[.string s, .string t, .int .i64 (n : Nat)] w fun e w' => e = .returned (.tuple #[.agg #[.int .u64 (limb (drN (drH s t n)) 0 : Nat), .int .u64 (limb (drN (drH s t n)) 1 : Nat), .int .u64 (limb (drN (drH s t n)) 2 : Nat), .int .u64 (limb (drN (drH s t n)) 3 : Nat)], .int .i64 0]) ∧ Below w.heap.size w w' := by
  have ht40 : t.size ≤ 40 := by have : 1 ≤ t.size ∧ t.size ≤ 40 := of_decide_eq_true ht; omega
  have KT : Hid _ := fun (w : World) => tag5_any t w
  have KN : Hid _ := fun (w : World) => number_any n 8 (by omega) (by decide) w
  have KS : Hid _ := fun (W : World) => scalar5_in t (some ⟨W.heap.size, 0, none⟩) [s, ofL (numL n 8)] 2 ht (by have := drH_size s t n; unfold drH at this; omega) (W.alloc (.cells #[.string s, .string (ofL (numL n 8))] 9)) (two_strs W s _ _)
  rw [ht] at KT
  obtain ⟨X, hX⟩ : ∃ X, X = ofL (numL n 8) := ⟨_, rfl⟩
  obtain ⟨R, hR⟩ : ∃ R, R = scN (hashB t [s, ofL (numL n 8)]) := ⟨_, rfl⟩
  have hRlt : R < R256 := by rw [hR]; exact Nat.lt_trans (scN_lt _) QQ_lt
  have KZ : Hid _ := fun (w : World) => zero2_any R hRlt w
  have hD : drN (drH s t n) = if R = 0 then 1 else R := by rw [hR]; rfl
  obtain ⟨V, hV⟩ : ∃ V, V = if R = 0 then 1 else R := ⟨_, rfl⟩
  rw [hD, ← hV]
  have HV : Hid (V = if R = 0 then 1 else R) := hV
  rw [← hR] at KS
  rw [← hX] at KN KS
  have n1 : ¬ ((n : Int) < 0) := by omega
  have n2 : ¬ ((1099511627776 : Int) < (n : Int)) := by omega
  have H0 : Hid (Pend (w.alloc (.cells #[.int .u64 0, .int .u64 0, .int .u64 0, .int .u64 0] 32)) w.heap.size ∧ Below w.heap.size w (w.alloc (.cells #[.int .u64 0, .int .u64 0, .int .u64 0, .int .u64 0] 32))) := ⟨Pend.new w _, below_alloc0' (Below.refl _ _) _⟩
  clear hn hs ht hX hR hD hRlt hV ht40
  go_enter Tryd.func13, Tryd.ntmps13
  go_wp2_with fail
  refine (KT.out _).mono ?_
  rintro e w0 ⟨rfl, ew0⟩
  have H1 : Hid (Pend w0 w.heap.size ∧ Below w.heap.size w w0) := by rw [ew0]; exact H0.out
  clear ew0 H0
  go_wp2_with fail
  refine (KN.out _).mono ?_
  rintro e w1 ⟨rfl, hb1⟩
  have H2 : Hid (Pend w1 w.heap.size ∧ Below w.heap.size w w1) := ⟨H1.out.1.call hb1, below_call0' H1.out.2 hb1⟩
  clear hb1 H1
  go_wp2_with fail
  refine (KS.out _).mono ?_
  rintro e w2 ⟨rfl, hb2⟩
  have H3 : Hid (Pend w2 w.heap.size ∧ Below w.heap.size w w2) := ⟨(H2.out.1.alloc).call hb2, below_call0' (below_alloc0' H2.out.2 _) hb2⟩
  clear hb2 H2
  go_wp2_with fail
  refine (KZ.out _).mono ?_
  rintro e w3 ⟨rfl, hb3⟩
  have H4 : Hid (Pend w3 w.heap.size ∧ Below w.heap.size w w3) := ⟨(H3.out.1.alloc).call hb3, below_call0' (below_alloc0' H3.out.2 _) hb3⟩
  obtain ⟨⟨x0, x1, x2, x3⟩, xz⟩ := (NS.ncall hb3).facts
  clear hb3 H3
  obtain ⟨⟨p0, p1, p2, p3⟩, ⟨f0, f1, f2, f3⟩, pz⟩ := H4.out.1.facts
  have W2 : Below w.heap.size w w3 := H4.out.2
  by_cases hr : R = 0
  · have dz : decide (R = 0) = true := decide_eq_true hr
    rw [dz]
    have H1 : Hid (V = 1) := by rw [HV.out, if_pos hr]; exact rfl
    clear hr dz
    go_wp2_with fail
    refine bodyPost_ret (v := .tuple #[.agg #[.int .u64 1, .int .u64 0, .int .u64 0, .int .u64 0], .int .i64 0]) ?_ rfl ⟨by rw [H1.out]; rfl, ?_⟩
    · simp [results, Tryd.results13, go_sem, p0, p1, p2, p3]
    · ((repeat' (first | with_reducible exact Below.refl _ _ | with_reducible refine Below.setCell ?_ ?_ _ | with_reducible refine below_alloc0 ?_ _ | with_reducible refine below_drewN ?_ _ | with_reducible refine Below.drew ?_ | refine below_call0 ?_ (by assumption))) <;> (first | omega | (simp; done) | (simp; omega)))
  · have dz : decide (R = 0) = false := decide_eq_false hr
    rw [dz]
    have H1 : Hid (V = R) := by rw [HV.out, if_neg hr]; exact rfl
    clear hr dz
    go_wp2_with fail
    refine bodyPost_ret (v := .tuple #[.agg #[.int .u64 (limb (R) 0 : Nat), .int .u64 (limb (R) 1 : Nat), .int .u64 (limb (R) 2 : Nat), .int .u64 (limb (R) 3 : Nat)], .int .i64 0]) ?_ rfl ⟨by rw [H1.out], ?_⟩
    · simp [results, Tryd.results13, go_sem, p0, p1, p2, p3]
    · ((repeat' (first | with_reducible exact Below.refl _ _ | with_reducible refine Below.setCell ?_ ?_ _ | with_reducible refine below_alloc0 ?_ _ | with_reducible refine below_drewN ?_ _ | with_reducible refine Below.drew ?_ | refine below_call0 ?_ (by assumption))) <;> (first | omega | (simp; done) | (simp; omega)))
end Go.Proofs.YtjdfipfeclphkaaDoor
