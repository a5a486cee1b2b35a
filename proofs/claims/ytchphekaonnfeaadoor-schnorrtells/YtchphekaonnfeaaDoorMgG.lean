/- Several texts laid together. -/
import Derived.Test.YtchphekaonnfeaaDoorMgF
import Derived.Test.YtchphekaonnfeaaDoorLbA
namespace Go.Proofs.YtchphekaonnfeaaDoor
open Go Go.RowKit Go.Lib

theorem wide_two (A B : Nat) (hA : A < R256) (hB : B < R256) : limb (A + R256 * B) 0 = limb A 0 ∧ limb (A + R256 * B) 1 = limb A 1 ∧ limb (A + R256 * B) 2 = limb A 2 ∧ limb (A + R256 * B) 3 = limb A 3 ∧ limb (A + R256 * B) 4 = limb B 0 ∧ limb (A + R256 * B) 5 = limb B 1 ∧ limb (A + R256 * B) 6 = limb B 2 ∧ limb (A + R256 * B) 7 = limb B 3 := by
  have l : ∀ n k, limb n k < M64 := limb_lt
  have h := limb_join8 (limb A 0) (limb A 1) (limb A 2) (limb A 3) (limb B 0) (limb B 1) (limb B 2) (limb B 3) (l _ _) (l _ _) (l _ _) (l _ _) (l _ _) (l _ _) (l _ _) (l _ _)
  rw [join8_two A B hA hB] at h
  exact h
theorem wide_lt (A B : Nat) (hA : A < R256) (hB : B < R256) : A + R256 * B < R256 * R256 := by
  have : R256 * B + R256 ≤ R256 * R256 := by rw [← Nat.mul_succ]; exact Nat.mul_le_mul_left _ hB
  omega
/-- The scalar of what is hashed. -/
def hiN (h : ByteArray) : Nat := numB (sbyte (shaS ((⟨#[0]⟩ : ByteArray) ++ h)))
def loN (h : ByteArray) : Nat := numB (sbyte (shaS ((⟨#[1]⟩ : ByteArray) ++ h)))
def scN (h : ByteArray) : Nat := (loN h + R256 * hiN h) % QQ
theorem sha_32 (s : ByteArray) : (shaS s).size = 32 := by unfold shaS sumS; rw [strOf_size, hfL_length]
set_option maxRecDepth 100000 in
set_option maxHeartbeats 4000000 in
theorem scalar_any (t : ByteArray) (a : Option Addr) (l : List ByteArray) (cap : Nat) (hb : 1 + (hashB t l).size < 1152921504606846976) (w : World) (hS : Strs w a l) (hG : GlobD w) (hz : 6 < w.heap.size) (hQ : GlobQ w) :
    Calls Tryd.prog 55 #[.string t, .slice a l.length cap] w fun e w' => e = .returned (.agg #[.int .u64 (limb (scN (hashB t l)) 0 : Nat), .int .u64 (limb (scN (hashB t l)) 1 : Nat), .int .u64 (limb (scN (hashB t l)) 2 : Nat), .int .u64 (limb (scN (hashB t l)) 3 : Nat)]) ∧ Below w.heap.size w w' := by
  have K1 : Hid _ := fun (w : World) (hS : Strs w a l) (hG : GlobD w) (hz : 6 < w.heap.size) => dsum_any ⟨#[0]⟩ t a l cap hb w hS hG hz
  have K2 : Hid _ := fun (w : World) (hS : Strs w a l) (hG : GlobD w) (hz : 6 < w.heap.size) => dsum_any ⟨#[1]⟩ t a l cap hb w hS hG hz
  have F1 : Hid _ := fun (w : World) => from_any (shaS ((⟨#[0]⟩ : ByteArray) ++ hashB t l)) (sha_32 _) w
  have F2 : Hid _ := fun (w : World) => from_any (shaS ((⟨#[1]⟩ : ByteArray) ++ hashB t l)) (sha_32 _) w
  have HG : Hid (Strs w a l ∧ GlobD w ∧ 6 < w.heap.size ∧ GlobQ w) := ⟨hS, hG, hz, hQ⟩
  obtain ⟨N1, hN1⟩ : ∃ n, n = numB (sbyte (shaS ((⟨#[0]⟩ : ByteArray) ++ hashB t l))) := ⟨_, rfl⟩
  obtain ⟨N2, hN2⟩ : ∃ n, n = numB (sbyte (shaS ((⟨#[1]⟩ : ByteArray) ++ hashB t l))) := ⟨_, rfl⟩
  obtain ⟨R, hR⟩ : ∃ R, R = scN (hashB t l) := ⟨_, rfl⟩
  have HR : Hid ((N2 + R256 * N1) % QQ = R ∧ N1 < R256 ∧ N2 < R256) := ⟨by rw [hR, hN1, hN2]; rfl, by rw [hN1]; exact numB_lt _ (sbyte_lt _), by rw [hN2]; exact numB_lt _ (sbyte_lt _)⟩
  rw [← hR]
  rw [← hN1] at F1
  rw [← hN2] at F2
  have KS : Hid _ := fun (w : World) (h : GlobQ w) => scalars_any w h
  have KR : Hid (∀ (g : Nat) (w : World), FieldB w g QQ → Calls Tryd.prog 45 #[.pointer (some ⟨g, 0, none⟩), .agg #[.int .u64 (limb N2 0 : Nat), .int .u64 (limb N2 1 : Nat), .int .u64 (limb N2 2 : Nat), .int .u64 (limb N2 3 : Nat), .int .u64 (limb N1 0 : Nat), .int .u64 (limb N1 1 : Nat), .int .u64 (limb N1 2 : Nat), .int .u64 (limb N1 3 : Nat)]] w fun e w' => e = .returned (.agg #[.int .u64 (limb (R) 0 : Nat), .int .u64 (limb (R) 1 : Nat), .int .u64 (limb (R) 2 : Nat), .int .u64 (limb (R) 3 : Nat)]) ∧ Below w.heap.size w w') := fun g w h => by
    have k := reduce_any g QQ (N2 + R256 * N1) FM_Q (wide_lt _ _ HR.out.2.2 HR.out.2.1) w h
    obtain ⟨e0, e1, e2, e3, e4, e5, e6, e7⟩ := wide_two N2 N1 HR.out.2.2 HR.out.2.1
    rw [e0, e1, e2, e3, e4, e5, e6, e7, HR.out.1] at k
    exact k
  have H0 : Hid (Pend (w.alloc (.cells #[.int .u64 0, .int .u64 0, .int .u64 0, .int .u64 0] 24)) w.heap.size ∧ Below w.heap.size w (w.alloc (.cells #[.int .u64 0, .int .u64 0, .int .u64 0, .int .u64 0] 24))) := ⟨Pend.new w _, below_alloc0' (Below.refl _ _) _⟩
  clear hS hG hz hQ hb hN1 hN2 hR
  go_enter Tryd.func55, Tryd.ntmps55
  go_wp2_with fail
  refine (K1.out _ (HG.out.1.call H0.out.2) (HG.out.2.1.call H0.out.2) (Nat.lt_of_lt_of_le HG.out.2.2.1 H0.out.2.size)).mono ?_
  rintro e w1 ⟨rfl, hb1⟩
  have H1 : Hid (Pend w1 w.heap.size ∧ Below w.heap.size w w1) := ⟨H0.out.1.call hb1, below_call0' H0.out.2 hb1⟩
  clear hb1 H0
  go_wp2_with fail
  refine (F1.out _).mono ?_
  rintro e w2 ⟨rfl, hb2⟩
  have H2 : Hid (Pend (w2.alloc (.cells #[.int .u64 (limb N1 0 : Nat), .int .u64 (limb N1 1 : Nat), .int .u64 (limb N1 2 : Nat), .int .u64 (limb N1 3 : Nat)] 24)) w.heap.size ∧ Below w.heap.size w (w2.alloc (.cells #[.int .u64 (limb N1 0 : Nat), .int .u64 (limb N1 1 : Nat), .int .u64 (limb N1 2 : Nat), .int .u64 (limb N1 3 : Nat)] 24))) := ⟨(H1.out.1.call hb2).alloc, below_alloc0' (below_call0' H1.out.2 hb2) _⟩
  clear hb2 H1
  go_wp2_with fail
  refine (K2.out _ (HG.out.1.call H2.out.2) (HG.out.2.1.call H2.out.2) (Nat.lt_of_lt_of_le HG.out.2.2.1 H2.out.2.size)).mono ?_
  rintro e w3 ⟨rfl, hb3⟩
  have H3 : Hid (Pend w3 w.heap.size ∧ NS w3 w2.heap.size N1 ∧ Below w.heap.size w w3) := ⟨H2.out.1.call hb3, NS.ncall hb3, below_call0' H2.out.2 hb3⟩
  clear hb3 H2
  go_wp2_with fail
  refine (F2.out _).mono ?_
  rintro e w4 ⟨rfl, hb4⟩
  obtain ⟨w5, hw5⟩ : ∃ x, x = w4.alloc (.cells #[.int .u64 (limb N2 0 : Nat), .int .u64 (limb N2 1 : Nat), .int .u64 (limb N2 2 : Nat), .int .u64 (limb N2 3 : Nat)] 24) := ⟨_, rfl⟩
  have H5 : Hid (Pend w5 w.heap.size ∧ NS w5 w2.heap.size N1 ∧ NS w5 w4.heap.size N2 ∧ Below w.heap.size w w5 ∧ GlobQ w5) := by
    rw [hw5]
    exact ⟨(H3.out.1.call hb4).alloc, (H3.out.2.1.call hb4).alloc, NS.new _ _ _, below_alloc0' (below_call0' H3.out.2.2 hb4) _, (HG.out.2.2.2.call (below_alloc0' (below_call0' H3.out.2.2 hb4) _))⟩
  clear hb4 H3
  go_wp2_with fail
  rw [← hw5]
  clear hw5
  refine wp_region_N (fun w' => Below w5.heap.size w5 w') 19 20 rfl (by kernel_rfl) ?_
  refine wpAnyN_take (i := 1) (oi := ?o1) (v := ?v1) ?hi1 (by kernel_rfl) (by kernel_rfl) (by kernel_rfl) (by kernel_rfl) (by decide) (by kernel_rfl) ?hQ1 ?hy1 (Below.drew (Below.refl _ _)) ?more1
  case hi1 => rw [List.getElem?_toArray]; exact rfl
  case hQ1 => exact fun _ _ _ h => h
  case hy1 =>
    refine Or.inl ⟨by rfl, ?_⟩
    intro w' hSw
    obtain ⟨⟨a0, a1, a2, a3⟩, az⟩ := (NS.call H5.out.2.1 hSw).facts
    obtain ⟨⟨b0, b1, b2, b3⟩, bz⟩ := (NS.call H5.out.2.2.1 hSw).facts
    clear hSw
    go_simp
    try with_reducible rfl
  simp only [Act.put, List.setIfInBounds_toArray, List.set_cons_zero, List.set_cons_succ]
  refine wpAnyN_take (i := 2) (oi := ?o2) (v := ?v2) ?hi2 (by kernel_rfl) (by kernel_rfl) (by kernel_rfl) (by kernel_rfl) (by decide) (by kernel_rfl) ?hQ2 ?hy2 (Below.drew (Below.refl _ _)) ?more2
  case hi2 => rw [List.getElem?_toArray]; exact rfl
  case hQ2 => exact fun _ _ _ h => h
  case hy2 =>
    refine Or.inl ⟨by rfl, ?_⟩
    intro w' hSw
    obtain ⟨⟨a0, a1, a2, a3⟩, az⟩ := (NS.call H5.out.2.1 hSw).facts
    obtain ⟨⟨b0, b1, b2, b3⟩, bz⟩ := (NS.call H5.out.2.2.1 hSw).facts
    clear hSw
    go_simp
    try with_reducible rfl
  simp only [Act.put, List.setIfInBounds_toArray, List.set_cons_zero, List.set_cons_succ]
  refine wpAnyN_take (i := 3) (oi := ?o3) (v := ?v3) ?hi3 (by kernel_rfl) (by kernel_rfl) (by kernel_rfl) (by kernel_rfl) (by decide) (by kernel_rfl) ?hQ3 ?hy3 (Below.drew (Below.refl _ _)) ?more3
  case hi3 => rw [List.getElem?_toArray]; exact rfl
  case hQ3 => exact fun _ _ _ h => h
  case hy3 =>
    refine Or.inl ⟨by rfl, ?_⟩
    intro w' hSw
    obtain ⟨⟨a0, a1, a2, a3⟩, az⟩ := (NS.call H5.out.2.1 hSw).facts
    obtain ⟨⟨b0, b1, b2, b3⟩, bz⟩ := (NS.call H5.out.2.2.1 hSw).facts
    clear hSw
    go_simp
    try with_reducible rfl
  simp only [Act.put, List.setIfInBounds_toArray, List.set_cons_zero, List.set_cons_succ]
  refine wpAnyN_take (i := 4) (oi := ?o4) (v := ?v4) ?hi4 (by kernel_rfl) (by kernel_rfl) (by kernel_rfl) (by kernel_rfl) (by decide) (by kernel_rfl) ?hQ4 ?hy4 (Below.drew (Below.refl _ _)) ?more4
  case hi4 => rw [List.getElem?_toArray]; exact rfl
  case hQ4 => exact fun _ _ _ h => h
  case hy4 =>
    refine Or.inl ⟨by rfl, ?_⟩
    intro w' hSw
    obtain ⟨⟨a0, a1, a2, a3⟩, az⟩ := (NS.call H5.out.2.1 hSw).facts
    obtain ⟨⟨b0, b1, b2, b3⟩, bz⟩ := (NS.call H5.out.2.2.1 hSw).facts
    clear hSw
    go_simp
    try with_reducible rfl
  simp only [Act.put, List.setIfInBounds_toArray, List.set_cons_zero, List.set_cons_succ]
  refine wpAnyN_take (i := 5) (oi := ?o5) (v := ?v5) ?hi5 (by kernel_rfl) (by kernel_rfl) (by kernel_rfl) (by kernel_rfl) (by decide) (by kernel_rfl) ?hQ5 ?hy5 (Below.drew (Below.refl _ _)) ?more5
  case hi5 => rw [List.getElem?_toArray]; exact rfl
  case hQ5 => exact fun _ _ _ h => h
  case hy5 =>
    refine Or.inl ⟨by rfl, ?_⟩
    intro w' hSw
    obtain ⟨⟨a0, a1, a2, a3⟩, az⟩ := (NS.call H5.out.2.1 hSw).facts
    obtain ⟨⟨b0, b1, b2, b3⟩, bz⟩ := (NS.call H5.out.2.2.1 hSw).facts
    clear hSw
    go_simp
    try with_reducible rfl
  simp only [Act.put, List.setIfInBounds_toArray, List.set_cons_zero, List.set_cons_succ]
  refine wpAnyN_take (i := 6) (oi := ?o6) (v := ?v6) ?hi6 (by kernel_rfl) (by kernel_rfl) (by kernel_rfl) (by kernel_rfl) (by decide) (by kernel_rfl) ?hQ6 ?hy6 (Below.drew (Below.refl _ _)) ?more6
  case hi6 => rw [List.getElem?_toArray]; exact rfl
  case hQ6 => exact fun _ _ _ h => h
  case hy6 =>
    refine Or.inl ⟨by rfl, ?_⟩
    intro w' hSw
    obtain ⟨⟨a0, a1, a2, a3⟩, az⟩ := (NS.call H5.out.2.1 hSw).facts
    obtain ⟨⟨b0, b1, b2, b3⟩, bz⟩ := (NS.call H5.out.2.2.1 hSw).facts
    clear hSw
    go_simp
    try with_reducible rfl
  simp only [Act.put, List.setIfInBounds_toArray, List.set_cons_zero, List.set_cons_succ]
  refine wpAnyN_take (i := 7) (oi := ?o7) (v := ?v7) ?hi7 (by kernel_rfl) (by kernel_rfl) (by kernel_rfl) (by kernel_rfl) (by decide) (by kernel_rfl) ?hQ7 ?hy7 (Below.drew (Below.refl _ _)) ?more7
  case hi7 => rw [List.getElem?_toArray]; exact rfl
  case hQ7 => exact fun _ _ _ h => h
  case hy7 =>
    refine Or.inl ⟨by rfl, ?_⟩
    intro w' hSw
    obtain ⟨⟨a0, a1, a2, a3⟩, az⟩ := (NS.call H5.out.2.1 hSw).facts
    obtain ⟨⟨b0, b1, b2, b3⟩, bz⟩ := (NS.call H5.out.2.2.1 hSw).facts
    clear hSw
    go_simp
    try with_reducible rfl
  simp only [Act.put, List.setIfInBounds_toArray, List.set_cons_zero, List.set_cons_succ]
  refine wpAnyN_take (i := 8) (oi := ?o8) (v := ?v8) ?hi8 (by kernel_rfl) (by kernel_rfl) (by kernel_rfl) (by kernel_rfl) (by decide) (by kernel_rfl) ?hQ8 ?hy8 (Below.drew (Below.refl _ _)) ?more8
  case hi8 => rw [List.getElem?_toArray]; exact rfl
  case hQ8 => exact fun _ _ _ h => h
  case hy8 =>
    refine Or.inl ⟨by rfl, ?_⟩
    intro w' hSw
    obtain ⟨⟨a0, a1, a2, a3⟩, az⟩ := (NS.call H5.out.2.1 hSw).facts
    obtain ⟨⟨b0, b1, b2, b3⟩, bz⟩ := (NS.call H5.out.2.2.1 hSw).facts
    clear hSw
    go_simp
    try with_reducible rfl
  simp only [Act.put, List.setIfInBounds_toArray, List.set_cons_zero, List.set_cons_succ]
  refine wpAnyN_take (i := 9) (oi := ?o9) (v := ?v9) ?hi9 (by kernel_rfl) (by kernel_rfl) (by kernel_rfl) (by kernel_rfl) (by decide) (by kernel_rfl) ?hQ9 ?hy9 (Below.drew (Below.refl _ _)) ?more9
  case hi9 => rw [List.getElem?_toArray]; exact rfl
  case hQ9 => exact fun _ _ _ h => h
  case hy9 =>
    refine Or.inl ⟨by rfl, ?_⟩
    intro w' hSw
    obtain ⟨⟨a0, a1, a2, a3⟩, az⟩ := (NS.call H5.out.2.1 hSw).facts
    obtain ⟨⟨b0, b1, b2, b3⟩, bz⟩ := (NS.call H5.out.2.2.1 hSw).facts
    clear hSw
    go_simp
    try with_reducible rfl
  simp only [Act.put, List.setIfInBounds_toArray, List.set_cons_zero, List.set_cons_succ]
  refine wpAnyN_take (i := 10) (oi := ?o10) (v := ?v10) ?hi10 (by kernel_rfl) (by kernel_rfl) (by kernel_rfl) (by kernel_rfl) (by decide) (by kernel_rfl) ?hQ10 ?hy10 (Below.drew (Below.refl _ _)) ?more10
  case hi10 => rw [List.getElem?_toArray]; exact rfl
  case hQ10 => exact fun _ _ _ h => h
  case hy10 =>
    refine Or.inl ⟨by rfl, ?_⟩
    intro w' hSw
    obtain ⟨⟨a0, a1, a2, a3⟩, az⟩ := (NS.call H5.out.2.1 hSw).facts
    obtain ⟨⟨b0, b1, b2, b3⟩, bz⟩ := (NS.call H5.out.2.2.1 hSw).facts
    clear hSw
    go_simp
    try with_reducible rfl
  simp only [Act.put, List.setIfInBounds_toArray, List.set_cons_zero, List.set_cons_succ]
  refine wpAnyN_take (i := 11) (oi := ?o11) (v := ?v11) ?hi11 (by kernel_rfl) (by kernel_rfl) (by kernel_rfl) (by kernel_rfl) (by decide) (by kernel_rfl) ?hQ11 ?hy11 (Below.drew (Below.refl _ _)) ?more11
  case hi11 => rw [List.getElem?_toArray]; exact rfl
  case hQ11 => exact fun _ _ _ h => h
  case hy11 =>
    refine Or.inl ⟨by rfl, ?_⟩
    intro w' hSw
    obtain ⟨⟨a0, a1, a2, a3⟩, az⟩ := (NS.call H5.out.2.1 hSw).facts
    obtain ⟨⟨b0, b1, b2, b3⟩, bz⟩ := (NS.call H5.out.2.2.1 hSw).facts
    clear hSw
    go_simp
    try with_reducible rfl
  simp only [Act.put, List.setIfInBounds_toArray, List.set_cons_zero, List.set_cons_succ]
  refine wpAnyN_take (i := 12) (oi := ?o12) (v := ?v12) ?hi12 (by kernel_rfl) (by kernel_rfl) (by kernel_rfl) (by kernel_rfl) (by decide) (by kernel_rfl) ?hQ12 ?hy12 (Below.drew (Below.refl _ _)) ?more12
  case hi12 => rw [List.getElem?_toArray]; exact rfl
  case hQ12 => exact fun _ _ _ h => h
  case hy12 =>
    refine Or.inl ⟨by rfl, ?_⟩
    intro w' hSw
    obtain ⟨⟨a0, a1, a2, a3⟩, az⟩ := (NS.call H5.out.2.1 hSw).facts
    obtain ⟨⟨b0, b1, b2, b3⟩, bz⟩ := (NS.call H5.out.2.2.1 hSw).facts
    clear hSw
    go_simp
    try with_reducible rfl
  simp only [Act.put, List.setIfInBounds_toArray, List.set_cons_zero, List.set_cons_succ]
  refine wpAnyN_take (i := 13) (oi := ?o13) (v := ?v13) ?hi13 (by kernel_rfl) (by kernel_rfl) (by kernel_rfl) (by kernel_rfl) (by decide) (by kernel_rfl) ?hQ13 ?hy13 (Below.drew (Below.refl _ _)) ?more13
  case hi13 => rw [List.getElem?_toArray]; exact rfl
  case hQ13 => exact fun _ _ _ h => h
  case hy13 =>
    refine Or.inl ⟨by rfl, ?_⟩
    intro w' hSw
    obtain ⟨⟨a0, a1, a2, a3⟩, az⟩ := (NS.call H5.out.2.1 hSw).facts
    obtain ⟨⟨b0, b1, b2, b3⟩, bz⟩ := (NS.call H5.out.2.2.1 hSw).facts
    clear hSw
    go_simp
    try with_reducible rfl
  simp only [Act.put, List.setIfInBounds_toArray, List.set_cons_zero, List.set_cons_succ]
  refine wpAnyN_take (i := 14) (oi := ?o14) (v := ?v14) ?hi14 (by kernel_rfl) (by kernel_rfl) (by kernel_rfl) (by kernel_rfl) (by decide) (by kernel_rfl) ?hQ14 ?hy14 (Below.drew (Below.refl _ _)) ?more14
  case hi14 => rw [List.getElem?_toArray]; exact rfl
  case hQ14 => exact fun _ _ _ h => h
  case hy14 =>
    refine Or.inl ⟨by rfl, ?_⟩
    intro w' hSw
    obtain ⟨⟨a0, a1, a2, a3⟩, az⟩ := (NS.call H5.out.2.1 hSw).facts
    obtain ⟨⟨b0, b1, b2, b3⟩, bz⟩ := (NS.call H5.out.2.2.1 hSw).facts
    clear hSw
    go_simp
    try with_reducible rfl
  simp only [Act.put, List.setIfInBounds_toArray, List.set_cons_zero, List.set_cons_succ]
  refine wpAnyN_take (i := 15) (oi := ?o15) (v := ?v15) ?hi15 (by kernel_rfl) (by kernel_rfl) (by kernel_rfl) (by kernel_rfl) (by decide) (by kernel_rfl) ?hQ15 ?hy15 (Below.drew (Below.refl _ _)) ?more15
  case hi15 => rw [List.getElem?_toArray]; exact rfl
  case hQ15 => exact fun _ _ _ h => h
  case hy15 =>
    refine Or.inl ⟨by rfl, ?_⟩
    intro w' hSw
    obtain ⟨⟨a0, a1, a2, a3⟩, az⟩ := (NS.call H5.out.2.1 hSw).facts
    obtain ⟨⟨b0, b1, b2, b3⟩, bz⟩ := (NS.call H5.out.2.2.1 hSw).facts
    clear hSw
    go_simp
    try with_reducible rfl
  simp only [Act.put, List.setIfInBounds_toArray, List.set_cons_zero, List.set_cons_succ]
  refine wpAnyN_take (i := 16) (oi := ?o16) (v := ?v16) ?hi16 (by kernel_rfl) (by kernel_rfl) (by kernel_rfl) (by kernel_rfl) (by decide) (by kernel_rfl) ?hQ16 ?hy16 (Below.drew (Below.refl _ _)) ?more16
  case hi16 => rw [List.getElem?_toArray]; exact rfl
  case hQ16 => exact fun _ _ _ h => h
  case hy16 =>
    refine Or.inl ⟨by rfl, ?_⟩
    intro w' hSw
    obtain ⟨⟨a0, a1, a2, a3⟩, az⟩ := (NS.call H5.out.2.1 hSw).facts
    obtain ⟨⟨b0, b1, b2, b3⟩, bz⟩ := (NS.call H5.out.2.2.1 hSw).facts
    clear hSw
    go_simp
    try with_reducible rfl
  simp only [Act.put, List.setIfInBounds_toArray, List.set_cons_zero, List.set_cons_succ]
  refine wpAnyN_take (i := 17) (oi := ?o17) (v := ?v17) ?hi17 (by kernel_rfl) (by kernel_rfl) (by kernel_rfl) (by kernel_rfl) (by decide) (by kernel_rfl) ?hQ17 ?hy17 (Below.drew (Below.refl _ _)) ?more17
  case hi17 => rw [List.getElem?_toArray]; exact rfl
  case hQ17 => exact fun _ _ _ h => h
  case hy17 =>
    refine Or.inl ⟨by rfl, ?_⟩
    intro w' hSw
    obtain ⟨⟨a0, a1, a2, a3⟩, az⟩ := (NS.call H5.out.2.1 hSw).facts
    obtain ⟨⟨b0, b1, b2, b3⟩, bz⟩ := (NS.call H5.out.2.2.1 hSw).facts
    clear hSw
    go_simp
    try with_reducible rfl
  simp only [Act.put, List.setIfInBounds_toArray, List.set_cons_zero, List.set_cons_succ]
  refine wpAnyN_one (i := 0) (o := ?o0) (by kernel_rfl) ?hi0 ?hw0 ?st0
  case hi0 => rw [List.getElem?_toArray]; exact rfl
  case hw0 => exact rfl
  intro K hK
  have HK0 : Hid _ := hK
  clear hK
  go_simp
  refine (KS.out _ (GlobQ.drew H5.out.2.2.2.2)).mono ?_
  rintro e w6 ⟨g, rfl, hFB, hq⟩
  have H6 : Hid (FieldB w6 g QQ ∧ Below w5.heap.size w5 w6) := ⟨hFB, below_call0' (Below.drew (Below.refl _ _)) hq⟩
  clear hFB hq
  go_wp2_with fail
  refine HK0.out _ _ ⟨fun _ => H6.out.2, ?_⟩
  clear HK0 K
  try simp only [Act.put, List.setIfInBounds_toArray, List.set_cons_zero, List.set_cons_succ]
  refine wpAnyN_one (i := 18) (o := ?o18) (by kernel_rfl) ?hi18 ?hw18 ?st18
  case hi18 => rw [List.getElem?_toArray]; exact rfl
  case hw18 => exact rfl
  intro K hK
  have HK18 : Hid _ := hK
  clear hK
  go_simp
  refine (KR.out _ _ H6.out.1).mono ?_
  rintro e w7 ⟨rfl, hq⟩
  have H7 : Hid (Below w5.heap.size w5 w7) := below_call0' H6.out.2 hq
  obtain ⟨⟨p0, p1, p2, p3⟩, ⟨f0, f1, f2, f3⟩, pz⟩ := (Pend.call H5.out.1 H7.out).facts
  clear hq
  go_wp2_with fail
  refine HK18.out _ _ ⟨fun _ => H7.out, ?_⟩
  clear HK18 K
  try simp only [Act.put, List.setIfInBounds_toArray, List.set_cons_zero, List.set_cons_succ]
  refine wpAnyN_one (i := 19) (o := ?o19) (by kernel_rfl) ?hi19 ?hw19 ?st19
  case hi19 => rw [List.getElem?_toArray]; exact rfl
  case hw19 => exact rfl
  intro K hK
  have HK19 : Hid _ := hK
  clear hK
  go_simp
  refine HK19.out _ _ ⟨fun h => absurd h (by decide +kernel), ?_⟩
  clear HK19 K
  try simp only [Act.put, List.setIfInBounds_toArray, List.set_cons_zero, List.set_cons_succ]
  refine wpAnyN_done (by kernel_rfl) ?_ _
  go_wp2_with fail
  have W7 : Below w.heap.size w w7 := below_call0' H5.out.2.2.2.1 H7.out
  refine bodyPost_ret (v := .agg #[.int .u64 (limb (R) 0 : Nat), .int .u64 (limb (R) 1 : Nat), .int .u64 (limb (R) 2 : Nat), .int .u64 (limb (R) 3 : Nat)]) ?_ rfl ⟨rfl, ?_⟩
  · simp [results, Tryd.results55, go_sem, p0, p1, p2, p3]
  · ((repeat' (first | with_reducible exact Below.refl _ _ | with_reducible refine Below.setCell ?_ ?_ _ | with_reducible refine below_alloc0 ?_ _ | with_reducible refine below_drewN ?_ _ | with_reducible refine Below.drew ?_ | refine below_call0 ?_ (by assumption))) <;> (first | omega | (simp; done) | (simp; omega)))
end Go.Proofs.YtchphekaonnfeaaDoor

namespace Go.Proofs.YtchphekaonnfeaaDoor
open Go Go.RowKit Go.Lib
set_option maxRecDepth 100000 in
set_option maxHeartbeats 4000000 in
theorem dscalar_in (t : ByteArray) (a : Option Addr) (l : List ByteArray) (cap : Nat) (ht : tagB t = true) (hb : 1 + (hashB t l).size < 1152921504606846976) (w : World) (hS : Strs w a l) (hG : GlobD w) (hz : 6 < w.heap.size) (hQ : GlobQ w) :
    Calls Tryd.prog 37 #[.string t, .slice a l.length cap] w fun e w' => e = .returned (.tuple #[.agg #[.int .u64 (limb (scN (hashB t l)) 0 : Nat), .int .u64 (limb (scN (hashB t l)) 1 : Nat), .int .u64 (limb (scN (hashB t l)) 2 : Nat), .int .u64 (limb (scN (hashB t l)) 3 : Nat)], .int .i64 0]) ∧ Below w.heap.size w w' := by
  have KT : Hid _ := fun (w : World) => isTag_any t w
  rw [ht] at KT
  have KD : Hid _ := fun (w : World) (hS : Strs w a l) (hG : GlobD w) (hz : 6 < w.heap.size) (hQ : GlobQ w) => scalar_any t a l cap hb w hS hG hz hQ
  obtain ⟨R, hR⟩ : ∃ R, R = scN (hashB t l) := ⟨_, rfl⟩
  rw [← hR] at KD ⊢
  have H0 : Hid (Pend (w.alloc (.cells #[.int .u64 0, .int .u64 0, .int .u64 0, .int .u64 0] 24)) w.heap.size ∧ Below w.heap.size w (w.alloc (.cells #[.int .u64 0, .int .u64 0, .int .u64 0, .int .u64 0] 24))) := ⟨Pend.new w _, below_alloc0' (Below.refl _ _) _⟩
  have HG : Hid (GlobD w ∧ 6 < w.heap.size ∧ GlobQ w ∧ Strs w a l) := ⟨hG, hz, hQ, hS⟩
  clear hb ht hG hz hQ hR hS
  go_enter Tryd.func37, Tryd.ntmps37
  go_wp2_with fail
  refine (KT.out _).mono ?_
  rintro e w0 ⟨rfl, ew0⟩
  have H1 : Hid (Pend w0 w.heap.size ∧ Below w.heap.size w w0) := by rw [ew0]; exact H0.out
  clear ew0 H0
  go_wp2_with fail
  refine (KD.out _ (HG.out.2.2.2.call H1.out.2) (HG.out.1.call H1.out.2) (Nat.lt_of_lt_of_le HG.out.2.1 H1.out.2.size) (HG.out.2.2.1.call H1.out.2)).mono ?_
  rintro e w1 ⟨rfl, hb1⟩
  have H2 : Hid (Pend w1 w.heap.size ∧ Below w.heap.size w w1) := ⟨H1.out.1.call hb1, below_call0' H1.out.2 hb1⟩
  clear hb1 H1
  obtain ⟨⟨p0, p1, p2, p3⟩, ⟨f0, f1, f2, f3⟩, pz⟩ := H2.out.1.facts
  have W2 : Below w.heap.size w w1 := H2.out.2
  go_wp2_with fail
  refine bodyPost_ret (v := .tuple #[.agg #[.int .u64 (limb (R) 0 : Nat), .int .u64 (limb (R) 1 : Nat), .int .u64 (limb (R) 2 : Nat), .int .u64 (limb (R) 3 : Nat)], .int .i64 0]) ?_ rfl ⟨rfl, ?_⟩
  · simp [results, Tryd.results37, go_sem, p0, p1, p2, p3]
  · ((repeat' (first | with_reducible exact Below.refl _ _ | with_reducible refine Below.setCell ?_ ?_ _ | with_reducible refine below_alloc0 ?_ _ | with_reducible refine below_drewN ?_ _ | with_reducible refine Below.drew ?_ | refine below_call0 ?_ (by assumption))) <;> (first | omega | (simp; done) | (simp; omega)))
end Go.Proofs.YtchphekaonnfeaaDoor
