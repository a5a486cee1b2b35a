/- Package ledger: a record's bytes; the record that bytes begin with. -/
import Derived.Test.YtdnahobafhelhaaDoorLgA
import Derived.Test.YtdnahobafhelhaaDoorMgB
namespace Go.Proofs.YtdnahobafhelhaaDoor
open Go Go.RowKit Go.Lib

theorem two_text (m : Nat) (hm : m ≤ 65535) (w w' : World) (t : TypeId) (hb : Below (w.alloc (.cells #[.int .u8 ((m : Int) / 256), .int .u8 ((m : Int) % 256)] t)).heap.size (w.alloc (.cells #[.int .u8 ((m : Int) / 256), .int .u8 ((m : Int) % 256)] t)) w') (cap : Nat) :
    (convert 61 9 (.slice (some ⟨w.heap.size, 0, none⟩) 2 cap)).run Tryd.prog w' = .ok (.string (ofL (numL m 2))) w' := by
  have g := run_convert_bytes_back (P := Tryd.prog) w' 61 9 5 ⟨w.heap.size, 0, none⟩ cap (numL m 2) Tryd.underlying61 Tryd.underlying5 Tryd.underlying9 (fun j hj => by
    have hj' := hj
    rw [numL_length] at hj'
    have e2 : (Addr.add ⟨w.heap.size, 0, none⟩ j) = ⟨w.heap.size, j, none⟩ := by
      simp only [Addr.add]
      split
      · rename_i h0; have : j = 0 := by simpa using h0
        subst this; rfl
      · simp
    rw [e2, hb.cell (p := ⟨w.heap.size, j, none⟩) (by simp)]
    rw [World.cell?_alloc_new]
    have u1 : ((UInt8.ofNat (m / 256)).toNat : Int) = (m : Int) / 256 := by simp; omega
    have u2 : ((UInt8.ofNat m).toNat : Int) = (m : Int) % 256 := by simp
    match j, hj' with
    | 0, _ => simp only [numL2, List.getElem_cons_zero, u1]; rfl
    | 1, _ => simp only [numL2, List.getElem_cons_succ, List.getElem_cons_zero, u2]; rfl
    | j + 2, h => exact absurd h (by omega))
  rw [numL_length] at g
  exact g
/-- A record's bytes. -/
def recS (n : Nat) (s : ByteArray) : ByteArray := ofL (numL s.size 2) ++ s ++ sealS n s
set_option maxRecDepth 20000 in
set_option maxHeartbeats 2000000 in
theorem encode_any (n : Nat) (s : ByteArray) (hs : s.size ≤ 65535) (w : World) (hG : GlobD w) (hz : 1 < w.heap.size) :
    Calls Tryd.prog 29 #[.int .i64 (n : Nat), .string s] w fun e w' => e = .returned (.string (recS n s)) ∧ Below w.heap.size w w' := by
  have K1 : Hid _ := fun (w : World) (h : GlobD w) (hz : 1 < w.heap.size) => seal_any n s (by omega) w h hz
  have HG : Hid (GlobD w ∧ 1 < w.heap.size) := ⟨hG, hz⟩
  have HR : Hid (recS n s = ofL (numL s.size 2) ++ s ++ sealS n s) := rfl
  clear hG hz
  go_enter Tryd.func29, Tryd.ntmps29
  go_wp2_with fail
  have HX : Hid _ := two_text s.size hs w
  have HN : Hid ((ofL (numL s.size 2)).size = 2 ∧ (sealS n s).size = 4 ∧ s.size ≤ 65535) := ⟨by rw [ofL_size, numL_length], by unfold sealS; rw [ByteArray.size_extract, shaS_size']; rfl, hs⟩
  generalize ofL (numL s.size 2) = T at HR HX HN
  generalize sealS n s = Z at HR K1 HN
  have n1 : ¬ 9223372036854775807 < T.size + s.size := by have := HN.out; omega
  have n2 : ¬ 9223372036854775807 < T.size + s.size + Z.size := by have := HN.out; omega
  have n3 : ¬ 9223372036854775807 < (T ++ s).size + Z.size := by rw [ByteArray.size_append]; exact n2
  obtain ⟨w1, hw1⟩ : ∃ x, x = w.alloc (.cells #[.int .u8 ((s.size : Int) / 256), .int .u8 ((s.size : Int) % 256)] 5) := ⟨_, rfl⟩
  have HW : Hid (Below w.heap.size w w1 ∧ ∀ w', Below w1.heap.size w1 w' → (convert 61 9 (.slice (some ⟨w.heap.size, 0, none⟩) 2 2)).run Tryd.prog w' = .ok (.string T) w') := by
    rw [hw1]
    exact ⟨below_alloc0 (Below.refl _ _) _, fun w' hb => HX.out w' _ hb 2⟩
  rw [← hw1]
  clear hw1 HX hs
  refine wp_region_N (fun w' => Below w1.heap.size w1 w') 8 9 rfl (by kernel_rfl) ?_
  refine wpAnyN_take (i := 0) (oi := ?o0) (v := ?v0) ?hi0 (by kernel_rfl) (by kernel_rfl) (by kernel_rfl) (by kernel_rfl) (by decide) (by kernel_rfl) ?hQ0 ?hy0 (Below.drew (Below.refl _ _)) ?more0
  case hi0 => rw [List.getElem?_toArray]; exact rfl
  case hQ0 => exact fun _ _ _ h => h
  case hy0 =>
    refine Or.inl ⟨by rfl, ?_⟩
    intro w' hSw
    have hcv := HW.out.2 w' hSw
    clear hSw
    go_simp
    try with_reducible rfl
  simp only [Act.put, List.setIfInBounds_toArray, List.set_cons_zero, List.set_cons_succ]
  refine wpAnyN_take (i := 1) (oi := ?o1) (v := ?v1) ?hi1 (by kernel_rfl) (by kernel_rfl) (by kernel_rfl) (by kernel_rfl) (by decide) (by kernel_rfl) ?hQ1 ?hy1 (Below.drew (Below.refl _ _)) ?more1
  case hi1 => rw [List.getElem?_toArray]; exact rfl
  case hQ1 => exact fun _ _ _ h => h
  case hy1 =>
    refine Or.inl ⟨by rfl, ?_⟩
    intro w' hSw
    have hcv := HW.out.2 w' hSw
    clear hSw
    go_simp
    try with_reducible rfl
  simp only [Act.put, List.setIfInBounds_toArray, List.set_cons_zero, List.set_cons_succ]
  refine wpAnyN_take (i := 2) (oi := ?o2) (v := ?v2) ?hi2 (by kernel_rfl) (by kernel_rfl) (by kernel_rfl) (by kernel_rfl) (by decide) (by kernel_rfl) ?hQ2 ?hy2 (Below.drew (Below.refl _ _)) ?more2
  case hi2 => rw [List.getElem?_toArray]; exact rfl
  case hQ2 => exact fun _ _ _ h => h
  case hy2 =>
    refine Or.inl ⟨by rfl, ?_⟩
    intro w' hSw
    have hcv := HW.out.2 w' hSw
    clear hSw
    go_simp
    try with_reducible rfl
  simp only [Act.put, List.setIfInBounds_toArray, List.set_cons_zero, List.set_cons_succ]
  refine wpAnyN_take (i := 3) (oi := ?o3) (v := ?v3) ?hi3 (by kernel_rfl) (by kernel_rfl) (by kernel_rfl) (by kernel_rfl) (by decide) (by kernel_rfl) ?hQ3 ?hy3 (Below.drew (Below.refl _ _)) ?more3
  case hi3 => rw [List.getElem?_toArray]; exact rfl
  case hQ3 => exact fun _ _ _ h => h
  case hy3 =>
    refine Or.inl ⟨by rfl, ?_⟩
    intro w' hSw
    have hcv := HW.out.2 w' hSw
    clear hSw
    go_simp
    try with_reducible rfl
  simp only [Act.put, List.setIfInBounds_toArray, List.set_cons_zero, List.set_cons_succ]
  refine wpAnyN_take (i := 4) (oi := ?o4) (v := ?v4) ?hi4 (by kernel_rfl) (by kernel_rfl) (by kernel_rfl) (by kernel_rfl) (by decide) (by kernel_rfl) ?hQ4 ?hy4 (Below.drew (Below.refl _ _)) ?more4
  case hi4 => rw [List.getElem?_toArray]; exact rfl
  case hQ4 => exact fun _ _ _ h => h
  case hy4 =>
    refine Or.inl ⟨by rfl, ?_⟩
    intro w' hSw
    have hcv := HW.out.2 w' hSw
    clear hSw
    go_simp
    try with_reducible rfl
  simp only [Act.put, List.setIfInBounds_toArray, List.set_cons_zero, List.set_cons_succ]
  refine wpAnyN_take (i := 5) (oi := ?o5) (v := ?v5) ?hi5 (by kernel_rfl) (by kernel_rfl) (by kernel_rfl) (by kernel_rfl) (by decide) (by kernel_rfl) ?hQ5 ?hy5 (Below.drew (Below.refl _ _)) ?more5
  case hi5 => rw [List.getElem?_toArray]; exact rfl
  case hQ5 => exact fun _ _ _ h => h
  case hy5 =>
    refine Or.inl ⟨by rfl, ?_⟩
    intro w' hSw
    have hcv := HW.out.2 w' hSw
    clear hSw
    go_simp
    try with_reducible rfl
  simp only [Act.put, List.setIfInBounds_toArray, List.set_cons_zero, List.set_cons_succ]
  refine wpAnyN_one (i := 6) (o := ?o6) (by kernel_rfl) ?hi6 ?hw6 ?st6
  case hi6 => rw [List.getElem?_toArray]; exact rfl
  case hw6 => exact rfl
  intro K hK
  have HK6 : Hid _ := hK
  clear hK
  go_simp
  refine (K1.out _ (HG.out.1.call (HW.out.1.drew)) (Nat.lt_of_lt_of_le HG.out.2 HW.out.1.drew.size)).mono ?_
  rintro e w2 ⟨rfl, hq⟩
  have H2 : Hid (Below w1.heap.size w1 w2) := below_call0 (Below.drew (Below.refl _ _)) hq
  clear hq
  go_wp2_with fail
  refine HK6.out _ _ ⟨fun _ => H2.out, ?_⟩
  clear HK6 K
  try simp only [Act.put, List.setIfInBounds_toArray, List.set_cons_zero, List.set_cons_succ]
  refine wpAnyN_takeF (i := 7) (oi := ?o7) (v := ?v7) ?hi7 (by kernel_rfl) (by kernel_rfl) (by kernel_rfl) (by decide) ?hQ7 ?hy7 H2.out ?more7
  case hi7 => rw [List.getElem?_toArray]; exact rfl
  case hQ7 => exact fun _ _ _ h => h
  case hy7 =>
    refine Or.inl ⟨by rfl, ?_⟩
    intro w' hSw
    clear hSw
    go_simp
    try with_reducible rfl
  simp only [Act.put, List.setIfInBounds_toArray, List.set_cons_zero, List.set_cons_succ]
  refine wpAnyN_one (i := 8) (o := ?o8) (by kernel_rfl) ?hi8 ?hw8 ?st8
  case hi8 => rw [List.getElem?_toArray]; exact rfl
  case hw8 => exact rfl
  intro K hK
  have HK8 : Hid _ := hK
  clear hK
  go_simp
  refine HK8.out _ _ ⟨fun h => absurd h (by decide +kernel), ?_⟩
  clear HK8 K
  try simp only [Act.put, List.setIfInBounds_toArray, List.set_cons_zero, List.set_cons_succ]
  refine wpAnyN_done (by kernel_rfl) ?_ _
  go_wp2_with fail
  go_ret
  exact ⟨by rw [HR.out]; rfl, below_call0 HW.out.1 H2.out⟩
end Go.Proofs.YtdnahobafhelhaaDoor
