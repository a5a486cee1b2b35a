/- Package ledger: the record that bytes begin with. -/
import Derived.Test.YtdnahobafhelhaaDoorLgB
namespace Go.Proofs.YtdnahobafhelhaaDoor
open Go Go.RowKit Go.Lib

/-- How long the first record says that it is. -/
def headN (s : ByteArray) (h : 1 < s.size) : Nat := s[0].toNat * 256 + s[1].toNat
/-- The record of number n that bytes begin with. -/
def firstS (n : Nat) (s : ByteArray) : Option ByteArray :=
  if h : 1 < s.size then
    if 9000 < headN s h ∨ s.size < headN s h + 6 then none
    else if (s.extract (2 + headN s h) (6 + headN s h)).toList == (sealS n (s.extract 2 (2 + headN s h))).toList then some (s.extract 2 (2 + headN s h)) else none
  else none
theorem ret_pair2 {a a' b b' : Value} (h : a = a') (g : b = b') : Ending.returned (.tuple #[a, b]) = Ending.returned (.tuple #[a', b']) := by rw [h, g]
set_option maxRecDepth 20000 in
set_option maxHeartbeats 2000000 in
theorem first_any (n : Nat) (s : ByteArray) (w : World) (hG : GlobD w) (hz : 1 < w.heap.size) :
    Calls Tryd.prog 34 #[.string s, .int .i64 (n : Nat)] w fun e w' => e = .returned (.tuple #[.string ((firstS n s).getD ByteArray.empty), .bool (firstS n s).isSome]) ∧ Below w.heap.size w w' := by
  have HG : Hid (GlobD w ∧ 1 < w.heap.size) := ⟨hG, hz⟩
  clear hG hz
  by_cases h : 1 < s.size
  case neg =>
    have h' : (s.size : Int) < 2 := by omega
    have HF : Hid (firstS n s = none) := by unfold firstS; rw [dif_neg h]; exact rfl
    clear h
    go_enter Tryd.func34, Tryd.ntmps34
    go_wp2_with fail
    go_ret2
    exact ⟨by rw [HF.out]; rfl, Below.refl _ _⟩
  obtain ⟨m, hm⟩ : ∃ m, m = headN s h := ⟨_, rfl⟩
  obtain ⟨x, hx⟩ : ∃ x, x = s[0].toNat := ⟨_, rfl⟩
  obtain ⟨y, hy⟩ : ∃ y, y = s[1].toNat := ⟨_, rfl⟩
  have x8 : x < 256 := by rw [hx]; exact UInt8.toNat_lt _
  have y8 : y < 256 := by rw [hy]; exact UInt8.toNat_lt _
  have hmx : m = x * 256 + y := by rw [hm, hx, hy]; rfl
  have b0 : ∀ q, ((s[0]'q).toNat) = x := fun _ => hx.symm
  have b1 : ∀ q, ((s[1]'q).toNat) = y := fun _ => hy.symm
  have h' : ¬ (s.size : Int) < 2 := by omega
  have j0 : (0 : Int) < (s.size : Int) := by omega
  have j1 : (1 : Int) < (s.size : Int) := by omega
  have e1 : (2 : Int) + (x : Int) * 256 + (y : Int) = ((2 + m : Nat) : Int) := by omega
  by_cases h9 : 9000 < m ∨ s.size < m + 6
  · have HF : Hid (firstS n s = none) := by unfold firstS; rw [dif_pos h, if_pos (by rw [← hm]; exact h9)]; exact rfl
    clear hm hx hy h hmx
    obtain ⟨q, hq⟩ : ∃ q, q = 2 + m := ⟨_, rfl⟩
    rw [← hq] at e1
    have hm' : m = q - 2 := by omega
    by_cases h8 : 9000 < m
    · have k1 : (9002 : Int) < (q : Int) := by omega
      clear h8 h9 hq hm'
      go_enter Tryd.func34, Tryd.ntmps34
      go_wp2_with fail
      go_quiet (fail)
      go_wp2_with fail
      go_ret2
      exact ⟨by rw [HF.out]; rfl, below_drewN (Below.refl _ _) _⟩
    · have k1 : ¬ (9002 : Int) < (q : Int) := by omega
      have k2 : (s.size : Int) < (q : Int) + 4 := by omega
      clear h8 h9 hq hm'
      go_enter Tryd.func34, Tryd.ntmps34
      go_wp2_with fail
      go_quiet (fail)
      go_wp2_with fail
      go_ret2
      exact ⟨by rw [HF.out]; rfl, below_drewN (Below.refl _ _) _⟩
  · obtain ⟨q, hq⟩ : ∃ q, q = 2 + m := ⟨_, rfl⟩
    rw [← hq] at e1
    have k1 : ¬ (9002 : Int) < (q : Int) := by omega
    have k2 : ¬ (s.size : Int) < (q : Int) + 4 := by omega
    have k3 : q + 4 ≤ s.size := by omega
    have k4 : 2 ≤ q := by omega
    have HF : Hid (firstS n s = if (s.extract q (q + 4)).toList == (sealS n (s.extract 2 q)).toList then some (s.extract 2 q) else none) := by
      unfold firstS; rw [dif_pos h, if_neg (by rw [← hm]; exact h9), ← hm, hq, show 6 + m = 2 + m + 4 by omega]; exact rfl
    have K1 : Hid _ := fun (w : World) (h : GlobD w) (hz : 1 < w.heap.size) => seal_any n (s.extract 2 q) (by rw [ByteArray.size_extract]; omega) w h hz
    clear hm hx hy h hmx h9 hq
    generalize sealS n (s.extract 2 q) = Z at HF K1
    obtain ⟨p4, hp4⟩ : ∃ p4, p4 = q + 4 := ⟨_, rfl⟩
    rw [← hp4] at HF
    have HP : Hid (IntKind.i64.wrap ((q : Int) + 4) = (p4 : Int) ∧ (p4 : Int) ≤ (s.size : Int) ∧ (q : Int) ≤ (p4 : Int)) := ⟨by rw [IntKind.wrap_i64]; omega, by omega, by omega⟩
    clear hp4
    go_enter Tryd.func34, Tryd.ntmps34
    go_wp2_with fail
    go_quiet (fail)
    go_wp2_with fail
    obtain ⟨wr4, k5, k6⟩ := HP.out
    refine wp_region_N (fun _ => True) 8 9 rfl (by kernel_rfl) ?_
    refine wpAnyN_takeF (i := 0) (oi := ?o0) (v := ?v0) ?hi0 (by kernel_rfl) (by kernel_rfl) (by kernel_rfl) (by decide) ?hQ0 ?hy0 trivial ?more0
    case hi0 => rw [List.getElem?_toArray]; exact rfl
    case hQ0 => exact fun _ _ _ h => h
    case hy0 =>
      refine Or.inl ⟨by rfl, ?_⟩
      intro w' hSw
      clear hSw
      go_simp
      try with_reducible rfl
    simp only [Act.put, List.setIfInBounds_toArray, List.set_cons_zero, List.set_cons_succ]
    refine wpAnyN_takeF (i := 1) (oi := ?o1) (v := ?v1) ?hi1 (by kernel_rfl) (by kernel_rfl) (by kernel_rfl) (by decide) ?hQ1 ?hy1 trivial ?more1
    case hi1 => rw [List.getElem?_toArray]; exact rfl
    case hQ1 => exact fun _ _ _ h => h
    case hy1 =>
      refine Or.inl ⟨by rfl, ?_⟩
      intro w' hSw
      clear hSw
      go_simp
      try with_reducible rfl
    simp only [Act.put, List.setIfInBounds_toArray, List.set_cons_zero, List.set_cons_succ]
    refine wpAnyN_takeF (i := 2) (oi := ?o2) (v := ?v2) ?hi2 (by kernel_rfl) (by kernel_rfl) (by kernel_rfl) (by decide) ?hQ2 ?hy2 trivial ?more2
    case hi2 => rw [List.getElem?_toArray]; exact rfl
    case hQ2 => exact fun _ _ _ h => h
    case hy2 =>
      refine Or.inl ⟨by rfl, ?_⟩
      intro w' hSw
      clear hSw
      go_simp
      try with_reducible rfl
    simp only [Act.put, List.setIfInBounds_toArray, List.set_cons_zero, List.set_cons_succ]
    refine wpAnyN_takeF (i := 3) (oi := ?o3) (v := ?v3) ?hi3 (by kernel_rfl) (by kernel_rfl) (by kernel_rfl) (by decide) ?hQ3 ?hy3 trivial ?more3
    case hi3 => rw [List.getElem?_toArray]; exact rfl
    case hQ3 => exact fun _ _ _ h => h
    case hy3 =>
      refine Or.inl ⟨by rfl, ?_⟩
      intro w' hSw
      clear hSw
      go_simp
      try with_reducible rfl
    simp only [Act.put, List.setIfInBounds_toArray, List.set_cons_zero, List.set_cons_succ]
    refine wpAnyN_takeF (i := 4) (oi := ?o4) (v := ?v4) ?hi4 (by kernel_rfl) (by kernel_rfl) (by kernel_rfl) (by decide) ?hQ4 ?hy4 trivial ?more4
    case hi4 => rw [List.getElem?_toArray]; exact rfl
    case hQ4 => exact fun _ _ _ h => h
    case hy4 =>
      refine Or.inl ⟨by rfl, ?_⟩
      intro w' hSw
      clear hSw
      go_simp
      try with_reducible rfl
    simp only [Act.put, List.setIfInBounds_toArray, List.set_cons_zero, List.set_cons_succ]
    refine wpAnyN_takeF (i := 5) (oi := ?o5) (v := ?v5) ?hi5 (by kernel_rfl) (by kernel_rfl) (by kernel_rfl) (by decide) ?hQ5 ?hy5 trivial ?more5
    case hi5 => rw [List.getElem?_toArray]; exact rfl
    case hQ5 => exact fun _ _ _ h => h
    case hy5 =>
      refine Or.inl ⟨by rfl, ?_⟩
      intro w' hSw
      clear hSw
      go_simp
      try with_reducible rfl
    simp only [Act.put, List.setIfInBounds_toArray, List.set_cons_zero, List.set_cons_succ]
    refine wpAnyN_takeF (i := 6) (oi := ?o6) (v := ?v6) ?hi6 (by kernel_rfl) (by kernel_rfl) (by kernel_rfl) (by decide) ?hQ6 ?hy6 trivial ?more6
    case hi6 => rw [List.getElem?_toArray]; exact rfl
    case hQ6 => exact fun _ _ _ h => h
    case hy6 =>
      refine Or.inl ⟨by rfl, ?_⟩
      intro w' hSw
      clear hSw
      go_simp
      try with_reducible rfl
    simp only [Act.put, List.setIfInBounds_toArray, List.set_cons_zero, List.set_cons_succ]
    refine wpAnyN_one (i := 7) (o := ?o7) (by kernel_rfl) ?hi7 ?hw7 ?st7
    case hi7 => rw [List.getElem?_toArray]; exact rfl
    case hw7 => exact rfl
    intro K hK
    have HK7 : Hid _ := hK
    clear hK
    go_simp
    refine (K1.out _ (HG.out.1.call (below_drewN (Below.refl _ _) _)) HG.out.2).mono ?_
    rintro e w2 ⟨rfl, hq⟩
    have H2 : Hid (Below w.heap.size w w2) := below_call0 (below_drewN (Below.refl _ _) _) hq
    clear hq
    go_wp2_with fail
    refine HK7.out _ _ ⟨fun _ => trivial, ?_⟩
    clear HK7 K
    try simp only [Act.put, List.setIfInBounds_toArray, List.set_cons_zero, List.set_cons_succ]
    refine wpAnyN_one (i := 8) (o := ?o8) (by kernel_rfl) ?hi8 ?hw8 ?st8
    case hi8 => rw [List.getElem?_toArray]; exact rfl
    case hw8 => exact rfl
    intro K hK
    have HK8 : Hid _ := hK
    clear hK
    go_simp
    refine HK8.out _ _ ⟨fun h => absurd h (by decide +kernel), ?_⟩
    clear HK8 K
    try simp only [Act.put, List.setIfInBounds_toArray, List.set_cons_zero, List.set_cons_succ]
    refine wpAnyN_done (by kernel_rfl) ?_ _
    generalize ((s.extract q p4).toList == Z.toList) = bq at HF ⊢
    cases bq
    · have HE : Hid (firstS n s = none) := by rw [HF.out]; exact rfl
      clear HF
      go_wp2_with fail
      go_ret2
      exact ⟨by rw [HE.out]; rfl, H2.out⟩
    · have HE : Hid (firstS n s = some (s.extract 2 q)) := by rw [HF.out]; exact rfl
      clear HF
      go_wp2_with fail
      go_ret2
      exact ⟨by rw [HE.out]; rfl, H2.out⟩
end Go.Proofs.YtdnahobafhelhaaDoor
