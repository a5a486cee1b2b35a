/- Package wardmotelaw11: LedgerReads. -/
import Derived.Test.YtnmanndiiaikdaaDoorLgM
namespace Go.Proofs.YtnmanndiiaikdaaDoor
open Go Go.RowKit Go.Lib

set_option maxRecDepth 20000 in
set_option maxHeartbeats 4000000 in
theorem ledgerReads_any (b : ByteArray) (w : World) (hG : GlobD w) (h1 : 0 < w.heap.size) (h2 : 1 < w.heap.size) :
    Calls Tryd.prog 3 #[.string b] w fun e w' => e = .returned (.bool true) ∧ Below w.heap.size w w' := by
  have KO : Hid (∀ w' : World, Below w.heap.size w w' → Calls Tryd.prog 8 #[] w' fun e w'' => e = .returned (.bool true) ∧ Below w'.heap.size w' w'') := fun w' hb => one11_any w' (hG.call hb) (Nat.lt_of_lt_of_le h1 hb.size) (Nat.lt_of_lt_of_le h2 hb.size)
  by_cases hb : 30000 < b.size
  · have h' : (30000 : Int) < (b.size : Int) := by omega
    clear hb
    go_enter Tryd.func3, Tryd.ntmps3
    go_wp2_with fail
    refine Calls.mono (KO.out _ (Below.refl _ _)) ?_
    rintro e w1 ⟨rfl, hb1⟩
    have H1 : Hid _ := hb1
    clear hb1
    go_wp2_with fail
    go_ret
    exact ⟨rfl, H1.out⟩
  have h' : ¬ (30000 : Int) < (b.size : Int) := by omega
  obtain ⟨xs, hx⟩ := told_any b.size 0 b (Nat.le_refl _)
  have hs := told_sizes hx
  have hl := sizesN_len xs
  obtain ⟨z, hz⟩ : ∃ z, z = sizesN xs := ⟨_, rfl⟩
  obtain ⟨nx, hnx⟩ : ∃ n, n = xs.length := ⟨_, rfl⟩
  obtain ⟨Y, hY⟩ : ∃ Y, Y = b.extract 0 z := ⟨_, rfl⟩
  have hYz : Y.size = z := by rw [hY, ByteArray.size_extract]; omega
  have K1 : Hid _ := read_any b (by omega) xs hx w hG h2
  have K2 : Hid _ := fun w' : World => read11_any b (by omega) xs hx w'
  have KN : Hid (∀ w' : World, Below w.heap.size w w' → _) := fun w' hb => fnew_fil w' (hG.call hb) (Nat.lt_of_lt_of_le h1 hb.size) (Nat.lt_of_lt_of_le h2 hb.size)
  have KA : Hid (∀ (G : Nat) (w' : World) (P : Nat → Prop), FileAt w' G P 0 ByteArray.empty → Calls Tryd.prog 12 #[.pointer (some ⟨G, 0, none⟩), .string b] w' fun e w'' => e = .returned (.int .i64 0) ∧ FileAt w'' G P 0 b ∧ But G P w' w'') := fun G w' P h => by
    have k := fappend_ok G P 0 ByteArray.empty b (by have : ByteArray.empty.size = 0 := rfl; omega) w' h
    rw [show ByteArray.empty ++ b = b from ba_ext (by rw [ba_append]; rfl)] at k
    exact k
  have KP : Hid (∀ (c : Nat → Nat) (G : Nat) (w' : World), Fil w' c 1 11 G 0 b → Glb w' c → Calls Tryd.prog 13 #[.pointer (some ⟨G, 0, none⟩)] w' fun e w'' => ∃ (L : Nat) (c' : Nat → Nat), e = .returned (.tuple #[.pointer (some ⟨L, 0, none⟩), .int .i64 0]) ∧ Fil w'' c' 1 11 G z Y ∧ Led w'' c' G L xs ∧ Glb w'' c' ∧ Chg w' c 1 11 w'' ∧ w'.heap.size ≤ L ∧ ∀ k, k < w'.heap.size → c' k = c k) := fun c G w' hF hG => by
    rw [hY, hz]
    exact lopen_any c G 0 b (by omega) xs hx w' hF hG
  have KL : Hid (∀ (c : Nat → Nat) (G : Nat) (w' : World), Fil w' c 1 11 G z Y → Calls Tryd.prog 14 #[.pointer (some ⟨G, 0, none⟩)] w' fun e w'' => e = .returned (.tuple #[.int .i64 (z : Nat), .int .i64 (z : Nat)]) ∧ Below w'.heap.size w' w'') := fun c G w' hF => by
    refine (flen_any G _ z Y w' hF.2.2).mono ?_
    rintro e w'' ⟨e1, _, e3⟩
    rw [hYz] at e1
    exact ⟨e1, e3⟩
  have KB : Hid (∀ (c : Nat → Nat) (G : Nat) (w' : World), Fil w' c 1 11 G z Y → Calls Tryd.prog 17 #[.pointer (some ⟨G, 0, none⟩)] w' fun e w'' => e = .returned (.string Y) ∧ w'' = w') := fun c G w' hF => fbytes_any G _ z Y w' hF.2.2
  have KR : Hid (∀ (c : Nat → Nat) (G L : Nat) (w' : World), Led w' c G L xs → Calls Tryd.prog 16 #[.pointer (some ⟨L, 0, none⟩)] w' fun e w'' => e = .returned (.slice (some ⟨w'.heap.size, 0, none⟩) nx nx) ∧ Strs w'' (some ⟨w'.heap.size, 0, none⟩) xs ∧ Below w'.heap.size w' w'') := fun c G L w' hD => by
    rw [hnx]
    exact lrecords_ok c G L xs (by omega) hs.2 w' hD
  have KT : Hid (∀ (w' : World) (a b : Option Addr) (ca cb : Nat), Strs w' a xs → Strs w' b xs → Calls Tryd.prog 15 #[.slice a nx ca, .slice b nx cb] w' fun e w'' => e = .returned (.bool true) ∧ Below w'.heap.size w' w'') := fun w' a b ca cb hA hB => by
    have h := texts_any a b xs xs ca cb (by omega) w' hA hB
    rw [decide_eq_true rfl, ← hnx] at h
    exact h
  rw [← hz, ← hnx] at K1 K2
  have lz : (z : Int) ≤ (b.size : Int) := by omega
  have zb : (z : Int) ≤ 30000 := by omega
  have hY' : b.extract 0 z = Y := hY.symm
  clear hb hx hs hl hz hnx hY hYz hG h1 h2
  go_enter Tryd.func3, Tryd.ntmps3
  go_wp2_with fail
  refine Calls.mono K1.out ?_
  rintro e w1 ⟨a1, cap1, rfl, hR1, hb1⟩
  have H1 : Hid (Strs w1 a1 xs ∧ Below w.heap.size w w1) := ⟨rowV_strs hR1, hb1⟩
  clear hR1 hb1 K1
  go_wp2_with fail
  refine Calls.mono (K2.out _) ?_
  rintro e w2 ⟨a2, cap2, rfl, hR2, hb2⟩
  obtain ⟨T, hT⟩ : ∃ T, T = w2.heap.size := ⟨_, rfl⟩
  obtain ⟨w3, hw3⟩ : ∃ y, y = w2.alloc (.cells #[.slice a2 nx cap2, .int .i64 (z : Nat)] 27) := ⟨_, rfl⟩
  have H3 : Hid (Strs w3 a1 xs ∧ Strs w3 a2 xs ∧ w3.cell? ⟨T, 0, none⟩ = some (.slice a2 nx cap2) ∧ w3.cell? ⟨T, 1, none⟩ = some (.int .i64 (z : Nat)) ∧ T < w3.heap.size ∧ Below w.heap.size w w3) := by
    have hb : Below w2.heap.size w2 w3 := by rw [hw3]; exact below_alloc0 (Below.refl _ _) _
    refine ⟨(H1.out.1.call hb2).call hb, (rowV_strs hR2).call hb, by rw [hw3, hT]; simp [go_sem], by rw [hw3, hT]; simp [go_sem], by rw [hw3, hT]; simp, below_call0 (below_call0 H1.out.2 hb2) hb⟩
  have HW : Hid (w3 = w2.alloc (.cells #[.slice a2 nx cap2, .int .i64 (z : Nat)] 27) ∧ T = w2.heap.size) := ⟨hw3, hT⟩
  clear hR2 hb2 K2 hw3 hT H1
  go_wp2_with fail
  rw [← HW.out.1]
  rw [← HW.out.2]
  clear HW
  refine Calls.mono (KN.out w3 H3.out.2.2.2.2.2) ?_
  rintro e w4 ⟨rfl, c4, hF4, hG4, hb4, hk4⟩
  obtain ⟨G, hGG⟩ : ∃ G, G = w3.heap.size := ⟨_, rfl⟩
  rw [← hGG] at hF4 ⊢
  have H4 : Hid (Fil w4 c4 1 11 G 0 ByteArray.empty ∧ Glb w4 c4 ∧ Below w3.heap.size w3 w4 ∧ ∀ k, k < w3.heap.size → k < w4.heap.size ∧ c4 k = 0) := ⟨hF4, hG4, hb4, hk4⟩
  clear hF4 hG4 hb4 hk4 hGG KN
  go_wp2_with fail
  refine (H4.out.1.op (fun P hP => KA.out G w4 P hP)).mono ?_
  rintro e w5 ⟨rfl, hF5, hC5⟩
  have H5 : Hid (Fil w5 (paint c4 w4 w5 1) 1 11 G 0 b ∧ Glb w5 (paint c4 w4 w5 1) ∧ Below w3.heap.size w3 w5 ∧ ∀ k, k < w3.heap.size → k < w5.heap.size ∧ paint c4 w4 w5 1 k = 0) :=
    ⟨hF5, H4.out.2.1.keep 1 hC5 (by decide) (by decide), H4.out.2.2.1.trans (hC5.under H4.out.2.2.2 (by decide) (by decide)), zero_paint H4.out.2.2.2 (Off.size hC5)⟩
  clear hF5 hC5 H4 KA
  go_wp2_with fail
  refine (KP.out _ G w5 H5.out.1 H5.out.2.1).mono ?_
  rintro e w6 ⟨L, c6, rfl, hF6, hD6, hG6, hC6, -, hk6⟩
  have H6 : Hid (Fil w6 c6 1 11 G z Y ∧ Led w6 c6 G L xs ∧ Below w3.heap.size w3 w6) :=
    ⟨hF6, hD6, H5.out.2.2.1.trans (hC6.under H5.out.2.2.2 (by decide) (by decide))⟩
  clear hF6 hD6 hG6 hC6 hk6 H5 KP
  go_wp2_with fail
  refine (KL.out c6 G w6 H6.out.1).mono ?_
  rintro e w7 ⟨rfl, hb7⟩
  have H7 : Hid (∀ w' : World, Below w7.heap.size w7 w' → Strs w' a1 xs ∧ Strs w' a2 xs ∧ w'.cell? ⟨T, 0, none⟩ = some (.slice a2 nx cap2) ∧ w'.cell? ⟨T, 1, none⟩ = some (.int .i64 (z : Nat)) ∧ Below w.heap.size w w' ∧ Fil w' (paint c6 w6 w' 3) 1 11 G z Y ∧ Led w' (paint c6 w6 w' 3) G L xs) := fun w' hb => by
    have h6 := below_call0 hb7 hb
    have h3 : Below w3.heap.size w3 w' := H6.out.2.2.trans (h6.mono H6.out.2.2.size)
    exact ⟨H3.out.1.call h3, H3.out.2.1.call h3, (h3.cell (p := ⟨T, 0, none⟩) H3.out.2.2.2.2.1).trans H3.out.2.2.1, (h3.cell (p := ⟨T, 1, none⟩) H3.out.2.2.2.2.1).trans H3.out.2.2.2.1, below_call0 H3.out.2.2.2.2.2 h3, H6.out.1.keep 3 (Chg.of_below h6 (i := 0) (j := 0)) (by decide) (by decide) (by decide) (by decide), H6.out.2.1.keep 3 (Chg.of_below h6 (i := 0) (j := 0)) (by decide) (by decide) (by decide) (by decide)⟩
  clear hb7 H3 H6 KL
  go_wp2_with fail
  refine wp_region_N (fun w' => Below w7.heap.size w7 w') 42 43 rfl (by kernel_rfl) ?_
  refine wpAnyN_takeF (i := 0) (oi := ?o0) (v := ?v0) ?hi0 (by kernel_rfl) (by kernel_rfl) (by kernel_rfl) (by decide) ?hQ0 ?hy0 (Below.drew (Below.refl _ _)) ?more0
  case hi0 => rw [List.getElem?_toArray]; exact rfl
  case hQ0 => exact fun _ _ _ h => h
  case hy0 =>
    refine Or.inl ⟨by rfl, ?_⟩
    intro w' hSw
    clear hSw
    go_simp
    try with_reducible rfl
  simp only [Act.put, List.setIfInBounds_toArray, List.set_cons_zero, List.set_cons_succ]
  refine wpAnyN_takeF (i := 1) (oi := ?o1) (v := ?v1) ?hi1 (by kernel_rfl) (by kernel_rfl) (by kernel_rfl) (by decide) ?hQ1 ?hy1 (Below.drew (Below.refl _ _)) ?more1
  case hi1 => rw [List.getElem?_toArray]; exact rfl
  case hQ1 => exact fun _ _ _ h => h
  case hy1 =>
    refine Or.inl ⟨by rfl, ?_⟩
    intro w' hSw
    clear hSw
    go_simp
    try with_reducible rfl
  simp only [Act.put, List.setIfInBounds_toArray, List.set_cons_zero, List.set_cons_succ]
  refine wpAnyN_take (i := 2) (oi := ?o2) (v := ?v2) ?hi2 (by kernel_rfl) (by kernel_rfl) (by kernel_rfl) (by kernel_rfl) (by decide) (by kernel_rfl) ?hQ2 ?hy2 (Below.drew (Below.refl _ _)) ?more2
  case hi2 => rw [List.getElem?_toArray]; exact rfl
  case hQ2 => exact fun _ _ _ h => h
  case hy2 =>
    refine Or.inl ⟨by rfl, ?_⟩
    intro w' hSw
    have z0 := (H7.out _ hSw).2.2.1
    have z1 := (H7.out _ hSw).2.2.2.1
    clear hSw
    go_simp
    try with_reducible rfl
  simp only [Act.put, List.setIfInBounds_toArray, List.set_cons_zero, List.set_cons_succ]
  refine wpAnyN_one (i := 3) (o := ?o3) (by kernel_rfl) ?hi3 ?hw3 ?st3
  case hi3 => rw [List.getElem?_toArray]; exact rfl
  case hw3 => exact rfl
  intro K hK
  have HK3 : Hid _ := hK
  clear hK
  go_simp
  refine (KT.out _ _ _ _ _ (H7.out _ (Below.drew (Below.refl _ _))).1 (H7.out _ (Below.drew (Below.refl _ _))).2.1).mono ?_
  rintro e v3 ⟨rfl, hq⟩
  have I3 : Hid (Below w7.heap.size w7 v3) := below_call0 (Below.drew (Below.refl _ _)) hq
  clear hq
  go_wp2_with fail
  refine HK3.out _ _ ⟨fun _ => I3.out, ?_⟩
  clear HK3 K
  try simp only [Act.put, List.setIfInBounds_toArray, List.set_cons_zero, List.set_cons_succ]
  refine wpAnyN_takeF (i := 4) (oi := ?o4) (v := ?v4) ?hi4 (by kernel_rfl) (by kernel_rfl) (by kernel_rfl) (by decide) ?hQ4 ?hy4 I3.out ?more4
  case hi4 => rw [List.getElem?_toArray]; exact rfl
  case hQ4 => exact fun _ _ _ h => h
  case hy4 =>
    refine Or.inl ⟨by rfl, ?_⟩
    intro w' hSw
    clear hSw
    go_simp
    try with_reducible rfl
  simp only [Act.put, List.setIfInBounds_toArray, List.set_cons_zero, List.set_cons_succ]
  refine wpAnyN_takeF (i := 5) (oi := ?o5) (v := ?v5) ?hi5 (by kernel_rfl) (by kernel_rfl) (by kernel_rfl) (by decide) ?hQ5 ?hy5 I3.out ?more5
  case hi5 => rw [List.getElem?_toArray]; exact rfl
  case hQ5 => exact fun _ _ _ h => h
  case hy5 =>
    refine Or.inl ⟨by rfl, ?_⟩
    intro w' hSw
    clear hSw
    go_simp
    try with_reducible rfl
  simp only [Act.put, List.setIfInBounds_toArray, List.set_cons_zero, List.set_cons_succ]
  refine wpAnyN_takeF (i := 6) (oi := ?o6) (v := ?v6) ?hi6 (by kernel_rfl) (by kernel_rfl) (by kernel_rfl) (by decide) ?hQ6 ?hy6 I3.out ?more6
  case hi6 => rw [List.getElem?_toArray]; exact rfl
  case hQ6 => exact fun _ _ _ h => h
  case hy6 =>
    refine Or.inl ⟨by rfl, ?_⟩
    intro w' hSw
    clear hSw
    go_simp
    try with_reducible rfl
  simp only [Act.put, List.setIfInBounds_toArray, List.set_cons_zero, List.set_cons_succ]
  refine wpAnyN_takeL (i := 7) (oi := ?o7) (v := ?v7) [42] ?hi7 (by kernel_rfl) (by kernel_rfl) (by kernel_rfl) (by kernel_rfl) (by decide) (by decide) (by kernel_rfl) ?hQ7 ?hy7 I3.out ?more7
  case hi7 => rw [List.getElem?_toArray]; exact rfl
  case hQ7 => exact fun _ _ _ h => h
  case hy7 =>
    refine Or.inl ⟨by rfl, ?_⟩
    intro w' hSw
    have z0 := (H7.out _ hSw).2.2.1
    have z1 := (H7.out _ hSw).2.2.2.1
    clear hSw
    go_simp
    try with_reducible rfl
  simp only [Act.put, List.setIfInBounds_toArray, List.set_cons_zero, List.set_cons_succ]
  refine wpAnyN_takeF (i := 8) (oi := ?o8) (v := ?v8) ?hi8 (by kernel_rfl) (by kernel_rfl) (by kernel_rfl) (by decide) ?hQ8 ?hy8 I3.out ?more8
  case hi8 => rw [List.getElem?_toArray]; exact rfl
  case hQ8 => exact fun _ _ _ h => h
  case hy8 =>
    refine Or.inl ⟨by rfl, ?_⟩
    intro w' hSw
    clear hSw
    go_simp
    try with_reducible rfl
  simp only [Act.put, List.setIfInBounds_toArray, List.set_cons_zero, List.set_cons_succ]
  refine wpAnyN_takeF (i := 9) (oi := ?o9) (v := ?v9) ?hi9 (by kernel_rfl) (by kernel_rfl) (by kernel_rfl) (by decide) ?hQ9 ?hy9 I3.out ?more9
  case hi9 => rw [List.getElem?_toArray]; exact rfl
  case hQ9 => exact fun _ _ _ h => h
  case hy9 =>
    refine Or.inl ⟨by rfl, ?_⟩
    intro w' hSw
    clear hSw
    go_simp
    try with_reducible rfl
  simp only [Act.put, List.setIfInBounds_toArray, List.set_cons_zero, List.set_cons_succ]
  refine wpAnyN_takeF (i := 10) (oi := ?o10) (v := ?v10) ?hi10 (by kernel_rfl) (by kernel_rfl) (by kernel_rfl) (by decide) ?hQ10 ?hy10 I3.out ?more10
  case hi10 => rw [List.getElem?_toArray]; exact rfl
  case hQ10 => exact fun _ _ _ h => h
  case hy10 =>
    refine Or.inl ⟨by rfl, ?_⟩
    intro w' hSw
    clear hSw
    go_simp
    try with_reducible rfl
  simp only [Act.put, List.setIfInBounds_toArray, List.set_cons_zero, List.set_cons_succ]
  refine wpAnyN_takeF (i := 11) (oi := ?o11) (v := ?v11) ?hi11 (by kernel_rfl) (by kernel_rfl) (by kernel_rfl) (by decide) ?hQ11 ?hy11 I3.out ?more11
  case hi11 => rw [List.getElem?_toArray]; exact rfl
  case hQ11 => exact fun _ _ _ h => h
  case hy11 =>
    refine Or.inl ⟨by rfl, ?_⟩
    intro w' hSw
    clear hSw
    go_simp
    try with_reducible rfl
  simp only [Act.put, List.setIfInBounds_toArray, List.set_cons_zero, List.set_cons_succ]
  refine wpAnyN_takeF (i := 12) (oi := ?o12) (v := ?v12) ?hi12 (by kernel_rfl) (by kernel_rfl) (by kernel_rfl) (by decide) ?hQ12 ?hy12 I3.out ?more12
  case hi12 => rw [List.getElem?_toArray]; exact rfl
  case hQ12 => exact fun _ _ _ h => h
  case hy12 =>
    refine Or.inl ⟨by rfl, ?_⟩
    intro w' hSw
    clear hSw
    go_simp
    try with_reducible rfl
  simp only [Act.put, List.setIfInBounds_toArray, List.set_cons_zero, List.set_cons_succ]
  refine wpAnyN_takeF (i := 13) (oi := ?o13) (v := ?v13) ?hi13 (by kernel_rfl) (by kernel_rfl) (by kernel_rfl) (by decide) ?hQ13 ?hy13 I3.out ?more13
  case hi13 => rw [List.getElem?_toArray]; exact rfl
  case hQ13 => exact fun _ _ _ h => h
  case hy13 =>
    refine Or.inl ⟨by rfl, ?_⟩
    intro w' hSw
    clear hSw
    go_simp
    try with_reducible rfl
  simp only [Act.put, List.setIfInBounds_toArray, List.set_cons_zero, List.set_cons_succ]
  refine wpAnyN_takeF (i := 14) (oi := ?o14) (v := ?v14) ?hi14 (by kernel_rfl) (by kernel_rfl) (by kernel_rfl) (by decide) ?hQ14 ?hy14 I3.out ?more14
  case hi14 => rw [List.getElem?_toArray]; exact rfl
  case hQ14 => exact fun _ _ _ h => h
  case hy14 =>
    refine Or.inl ⟨by rfl, ?_⟩
    intro w' hSw
    clear hSw
    go_simp
    try with_reducible rfl
  simp only [Act.put, List.setIfInBounds_toArray, List.set_cons_zero, List.set_cons_succ]
  refine wpAnyN_takeF (i := 15) (oi := ?o15) (v := ?v15) ?hi15 (by kernel_rfl) (by kernel_rfl) (by kernel_rfl) (by decide) ?hQ15 ?hy15 I3.out ?more15
  case hi15 => rw [List.getElem?_toArray]; exact rfl
  case hQ15 => exact fun _ _ _ h => h
  case hy15 =>
    refine Or.inl ⟨by rfl, ?_⟩
    intro w' hSw
    clear hSw
    go_simp
    try with_reducible rfl
  simp only [Act.put, List.setIfInBounds_toArray, List.set_cons_zero, List.set_cons_succ]
  refine wpAnyN_takeF (i := 17) (oi := ?o17) (v := ?v17) ?hi17 (by kernel_rfl) (by kernel_rfl) (by kernel_rfl) (by decide) ?hQ17 ?hy17 I3.out ?more17
  case hi17 => rw [List.getElem?_toArray]; exact rfl
  case hQ17 => exact fun _ _ _ h => h
  case hy17 =>
    refine Or.inl ⟨by rfl, ?_⟩
    intro w' hSw
    clear hSw
    go_simp
    try with_reducible rfl
  simp only [Act.put, List.setIfInBounds_toArray, List.set_cons_zero, List.set_cons_succ]
  refine wpAnyN_takeL (i := 18) (oi := ?o18) (v := ?v18) [42] ?hi18 (by kernel_rfl) (by kernel_rfl) (by kernel_rfl) (by kernel_rfl) (by decide) (by decide) (by kernel_rfl) ?hQ18 ?hy18 I3.out ?more18
  case hi18 => rw [List.getElem?_toArray]; exact rfl
  case hQ18 => exact fun _ _ _ h => h
  case hy18 =>
    refine Or.inl ⟨by rfl, ?_⟩
    intro w' hSw
    have z0 := (H7.out _ hSw).2.2.1
    have z1 := (H7.out _ hSw).2.2.2.1
    clear hSw
    go_simp
    try with_reducible rfl
  simp only [Act.put, List.setIfInBounds_toArray, List.set_cons_zero, List.set_cons_succ]
  refine wpAnyN_one (i := 16) (o := ?o16) (by kernel_rfl) ?hi16 ?hw16 ?st16
  case hi16 => rw [List.getElem?_toArray]; exact rfl
  case hw16 => exact rfl
  intro K hK
  have HK16 : Hid _ := hK
  clear hK
  go_simp
  refine (KR.out _ G L _ (H7.out _ I3.out).2.2.2.2.2.2).mono ?_
  rintro e v16 ⟨rfl, hst, hq⟩
  have I16 : Hid (Below w7.heap.size w7 v16 ∧ Strs v16 (some ⟨v3.heap.size, 0, none⟩) xs) := ⟨below_call0 I3.out hq, hst⟩
  clear hq hst
  go_wp2_with fail
  refine HK16.out _ _ ⟨fun _ => I16.out.1, ?_⟩
  clear HK16 K
  try simp only [Act.put, List.setIfInBounds_toArray, List.set_cons_zero, List.set_cons_succ]
  refine wpAnyN_one (i := 19) (o := ?o19) (by kernel_rfl) ?hi19 ?hw19 ?st19
  case hi19 => rw [List.getElem?_toArray]; exact rfl
  case hw19 => exact rfl
  intro K hK
  have HK19 : Hid _ := hK
  clear hK
  go_simp
  refine (KT.out _ _ _ _ _ I16.out.2 (H7.out _ I16.out.1).2.1).mono ?_
  rintro e v19 ⟨rfl, hq⟩
  have I19 : Hid (Below w7.heap.size w7 v19) := below_call0 I16.out.1 hq
  clear hq
  go_wp2_with fail
  refine HK19.out _ _ ⟨fun _ => I19.out, ?_⟩
  clear HK19 K
  try simp only [Act.put, List.setIfInBounds_toArray, List.set_cons_zero, List.set_cons_succ]
  refine wpAnyN_takeF (i := 20) (oi := ?o20) (v := ?v20) ?hi20 (by kernel_rfl) (by kernel_rfl) (by kernel_rfl) (by decide) ?hQ20 ?hy20 I19.out ?more20
  case hi20 => rw [List.getElem?_toArray]; exact rfl
  case hQ20 => exact fun _ _ _ h => h
  case hy20 =>
    refine Or.inl ⟨by rfl, ?_⟩
    intro w' hSw
    clear hSw
    go_simp
    try with_reducible rfl
  simp only [Act.put, List.setIfInBounds_toArray, List.set_cons_zero, List.set_cons_succ]
  refine wpAnyN_takeF (i := 21) (oi := ?o21) (v := ?v21) ?hi21 (by kernel_rfl) (by kernel_rfl) (by kernel_rfl) (by decide) ?hQ21 ?hy21 I19.out ?more21
  case hi21 => rw [List.getElem?_toArray]; exact rfl
  case hQ21 => exact fun _ _ _ h => h
  case hy21 =>
    refine Or.inl ⟨by rfl, ?_⟩
    intro w' hSw
    clear hSw
    go_simp
    try with_reducible rfl
  simp only [Act.put, List.setIfInBounds_toArray, List.set_cons_zero, List.set_cons_succ]
  refine wpAnyN_takeF (i := 22) (oi := ?o22) (v := ?v22) ?hi22 (by kernel_rfl) (by kernel_rfl) (by kernel_rfl) (by decide) ?hQ22 ?hy22 I19.out ?more22
  case hi22 => rw [List.getElem?_toArray]; exact rfl
  case hQ22 => exact fun _ _ _ h => h
  case hy22 =>
    refine Or.inl ⟨by rfl, ?_⟩
    intro w' hSw
    clear hSw
    go_simp
    try with_reducible rfl
  simp only [Act.put, List.setIfInBounds_toArray, List.set_cons_zero, List.set_cons_succ]
  refine wpAnyN_takeF (i := 24) (oi := ?o24) (v := ?v24) ?hi24 (by kernel_rfl) (by kernel_rfl) (by kernel_rfl) (by decide) ?hQ24 ?hy24 I19.out ?more24
  case hi24 => rw [List.getElem?_toArray]; exact rfl
  case hQ24 => exact fun _ _ _ h => h
  case hy24 =>
    refine Or.inl ⟨by rfl, ?_⟩
    intro w' hSw
    clear hSw
    go_simp
    try with_reducible rfl
  simp only [Act.put, List.setIfInBounds_toArray, List.set_cons_zero, List.set_cons_succ]
  refine wpAnyN_takeF (i := 25) (oi := ?o25) (v := ?v25) ?hi25 (by kernel_rfl) (by kernel_rfl) (by kernel_rfl) (by decide) ?hQ25 ?hy25 I19.out ?more25
  case hi25 => rw [List.getElem?_toArray]; exact rfl
  case hQ25 => exact fun _ _ _ h => h
  case hy25 =>
    refine Or.inl ⟨by rfl, ?_⟩
    intro w' hSw
    clear hSw
    go_simp
    try with_reducible rfl
  simp only [Act.put, List.setIfInBounds_toArray, List.set_cons_zero, List.set_cons_succ]
  refine wpAnyN_takeF (i := 26) (oi := ?o26) (v := ?v26) ?hi26 (by kernel_rfl) (by kernel_rfl) (by kernel_rfl) (by decide) ?hQ26 ?hy26 I19.out ?more26
  case hi26 => rw [List.getElem?_toArray]; exact rfl
  case hQ26 => exact fun _ _ _ h => h
  case hy26 =>
    refine Or.inl ⟨by rfl, ?_⟩
    intro w' hSw
    clear hSw
    go_simp
    try with_reducible rfl
  simp only [Act.put, List.setIfInBounds_toArray, List.set_cons_zero, List.set_cons_succ]
  refine wpAnyN_one (i := 23) (o := ?o23) (by kernel_rfl) ?hi23 ?hw23 ?st23
  case hi23 => rw [List.getElem?_toArray]; exact rfl
  case hw23 => exact rfl
  intro K hK
  have HK23 : Hid _ := hK
  clear hK
  go_simp
  refine (KB.out _ G _ (H7.out _ I19.out).2.2.2.2.2.1).mono ?_
  rintro e v23 ⟨rfl, rfl⟩
  go_wp2_with fail
  refine HK23.out _ _ ⟨fun _ => I19.out, ?_⟩
  clear HK23 K
  try simp only [Act.put, List.setIfInBounds_toArray, List.set_cons_zero, List.set_cons_succ]
  refine wpAnyN_takeF (i := 27) (oi := ?o27) (v := ?v27) ?hi27 (by kernel_rfl) (by kernel_rfl) (by kernel_rfl) (by decide) ?hQ27 ?hy27 I19.out ?more27
  case hi27 => rw [List.getElem?_toArray]; exact rfl
  case hQ27 => exact fun _ _ _ h => h
  case hy27 =>
    refine Or.inl ⟨by rfl, ?_⟩
    intro w' hSw
    clear hSw
    go_simp
    try with_reducible rfl
  simp only [Act.put, List.setIfInBounds_toArray, List.set_cons_zero, List.set_cons_succ]
  refine wpAnyN_takeF (i := 28) (oi := ?o28) (v := ?v28) ?hi28 (by kernel_rfl) (by kernel_rfl) (by kernel_rfl) (by decide) ?hQ28 ?hy28 I19.out ?more28
  case hi28 => rw [List.getElem?_toArray]; exact rfl
  case hQ28 => exact fun _ _ _ h => h
  case hy28 =>
    refine Or.inl ⟨by rfl, ?_⟩
    intro w' hSw
    clear hSw
    go_simp
    try with_reducible rfl
  simp only [Act.put, List.setIfInBounds_toArray, List.set_cons_zero, List.set_cons_succ]
  refine wpAnyN_takeF (i := 29) (oi := ?o29) (v := ?v29) ?hi29 (by kernel_rfl) (by kernel_rfl) (by kernel_rfl) (by decide) ?hQ29 ?hy29 I19.out ?more29
  case hi29 => rw [List.getElem?_toArray]; exact rfl
  case hQ29 => exact fun _ _ _ h => h
  case hy29 =>
    refine Or.inl ⟨by rfl, ?_⟩
    intro w' hSw
    clear hSw
    go_simp
    try with_reducible rfl
  simp only [Act.put, List.setIfInBounds_toArray, List.set_cons_zero, List.set_cons_succ]
  refine wpAnyN_takeF (i := 30) (oi := ?o30) (v := ?v30) ?hi30 (by kernel_rfl) (by kernel_rfl) (by kernel_rfl) (by decide) ?hQ30 ?hy30 I19.out ?more30
  case hi30 => rw [List.getElem?_toArray]; exact rfl
  case hQ30 => exact fun _ _ _ h => h
  case hy30 =>
    refine Or.inl ⟨by rfl, ?_⟩
    intro w' hSw
    clear hSw
    go_simp
    try with_reducible rfl
  simp only [Act.put, List.setIfInBounds_toArray, List.set_cons_zero, List.set_cons_succ]
  refine wpAnyN_takeF (i := 31) (oi := ?o31) (v := ?v31) ?hi31 (by kernel_rfl) (by kernel_rfl) (by kernel_rfl) (by decide) ?hQ31 ?hy31 I19.out ?more31
  case hi31 => rw [List.getElem?_toArray]; exact rfl
  case hQ31 => exact fun _ _ _ h => h
  case hy31 =>
    refine Or.inl ⟨by rfl, ?_⟩
    intro w' hSw
    clear hSw
    go_simp
    try with_reducible rfl
  simp only [Act.put, List.setIfInBounds_toArray, List.set_cons_zero, List.set_cons_succ]
  refine wpAnyN_takeF (i := 32) (oi := ?o32) (v := ?v32) ?hi32 (by kernel_rfl) (by kernel_rfl) (by kernel_rfl) (by decide) ?hQ32 ?hy32 I19.out ?more32
  case hi32 => rw [List.getElem?_toArray]; exact rfl
  case hQ32 => exact fun _ _ _ h => h
  case hy32 =>
    refine Or.inl ⟨by rfl, ?_⟩
    intro w' hSw
    clear hSw
    go_simp
    try with_reducible rfl
  simp only [Act.put, List.setIfInBounds_toArray, List.set_cons_zero, List.set_cons_succ]
  refine wpAnyN_takeF (i := 33) (oi := ?o33) (v := ?v33) ?hi33 (by kernel_rfl) (by kernel_rfl) (by kernel_rfl) (by decide) ?hQ33 ?hy33 I19.out ?more33
  case hi33 => rw [List.getElem?_toArray]; exact rfl
  case hQ33 => exact fun _ _ _ h => h
  case hy33 =>
    refine Or.inl ⟨by rfl, ?_⟩
    intro w' hSw
    clear hSw
    go_simp
    try with_reducible rfl
  simp only [Act.put, List.setIfInBounds_toArray, List.set_cons_zero, List.set_cons_succ]
  refine wpAnyN_takeF (i := 34) (oi := ?o34) (v := ?v34) ?hi34 (by kernel_rfl) (by kernel_rfl) (by kernel_rfl) (by decide) ?hQ34 ?hy34 I19.out ?more34
  case hi34 => rw [List.getElem?_toArray]; exact rfl
  case hQ34 => exact fun _ _ _ h => h
  case hy34 =>
    refine Or.inl ⟨by rfl, ?_⟩
    intro w' hSw
    clear hSw
    go_simp
    try with_reducible rfl
  simp only [Act.put, List.setIfInBounds_toArray, List.set_cons_zero, List.set_cons_succ]
  refine wpAnyN_takeF (i := 35) (oi := ?o35) (v := ?v35) ?hi35 (by kernel_rfl) (by kernel_rfl) (by kernel_rfl) (by decide) ?hQ35 ?hy35 I19.out ?more35
  case hi35 => rw [List.getElem?_toArray]; exact rfl
  case hQ35 => exact fun _ _ _ h => h
  case hy35 =>
    refine Or.inl ⟨by rfl, ?_⟩
    intro w' hSw
    clear hSw
    go_simp
    try with_reducible rfl
  simp only [Act.put, List.setIfInBounds_toArray, List.set_cons_zero, List.set_cons_succ]
  refine wpAnyN_takeF (i := 36) (oi := ?o36) (v := ?v36) ?hi36 (by kernel_rfl) (by kernel_rfl) (by kernel_rfl) (by decide) ?hQ36 ?hy36 I19.out ?more36
  case hi36 => rw [List.getElem?_toArray]; exact rfl
  case hQ36 => exact fun _ _ _ h => h
  case hy36 =>
    refine Or.inl ⟨by rfl, ?_⟩
    intro w' hSw
    clear hSw
    go_simp
    try with_reducible rfl
  simp only [Act.put, List.setIfInBounds_toArray, List.set_cons_zero, List.set_cons_succ]
  refine wpAnyN_takeF (i := 37) (oi := ?o37) (v := ?v37) ?hi37 (by kernel_rfl) (by kernel_rfl) (by kernel_rfl) (by decide) ?hQ37 ?hy37 I19.out ?more37
  case hi37 => rw [List.getElem?_toArray]; exact rfl
  case hQ37 => exact fun _ _ _ h => h
  case hy37 =>
    refine Or.inl ⟨by rfl, ?_⟩
    intro w' hSw
    clear hSw
    go_simp
    try with_reducible rfl
  simp only [Act.put, List.setIfInBounds_toArray, List.set_cons_zero, List.set_cons_succ]
  refine wpAnyN_takeF (i := 38) (oi := ?o38) (v := ?v38) ?hi38 (by kernel_rfl) (by kernel_rfl) (by kernel_rfl) (by decide) ?hQ38 ?hy38 I19.out ?more38
  case hi38 => rw [List.getElem?_toArray]; exact rfl
  case hQ38 => exact fun _ _ _ h => h
  case hy38 =>
    refine Or.inl ⟨by rfl, ?_⟩
    intro w' hSw
    clear hSw
    go_simp
    try with_reducible rfl
  simp only [Act.put, List.setIfInBounds_toArray, List.set_cons_zero, List.set_cons_succ]
  refine wpAnyN_takeF (i := 39) (oi := ?o39) (v := ?v39) ?hi39 (by kernel_rfl) (by kernel_rfl) (by kernel_rfl) (by decide) ?hQ39 ?hy39 I19.out ?more39
  case hi39 => rw [List.getElem?_toArray]; exact rfl
  case hQ39 => exact fun _ _ _ h => h
  case hy39 =>
    refine Or.inl ⟨by rfl, ?_⟩
    intro w' hSw
    clear hSw
    go_simp
    try with_reducible rfl
  simp only [Act.put, List.setIfInBounds_toArray, List.set_cons_zero, List.set_cons_succ]
  refine wpAnyN_one (i := 40) (o := ?o40) (by kernel_rfl) ?hi40 ?hw40 ?st40
  case hi40 => rw [List.getElem?_toArray]; exact rfl
  case hw40 => exact rfl
  intro K hK
  have HK40 : Hid _ := hK
  clear hK
  go_simp
  refine (KO.out _ (H7.out _ I19.out).2.2.2.2.1).mono ?_
  rintro e v40 ⟨rfl, hq⟩
  have I40 : Hid (Below w7.heap.size w7 v40) := below_call0 I19.out hq
  clear hq
  go_wp2_with fail
  refine HK40.out _ _ ⟨fun _ => I40.out, ?_⟩
  clear HK40 K
  try simp only [Act.put, List.setIfInBounds_toArray, List.set_cons_zero, List.set_cons_succ]
  refine wpAnyN_takeF (i := 41) (oi := ?o41) (v := ?v41) ?hi41 (by kernel_rfl) (by kernel_rfl) (by kernel_rfl) (by decide) ?hQ41 ?hy41 I40.out ?more41
  case hi41 => rw [List.getElem?_toArray]; exact rfl
  case hQ41 => exact fun _ _ _ h => h
  case hy41 =>
    refine Or.inl ⟨by rfl, ?_⟩
    intro w' hSw
    clear hSw
    go_simp
    try with_reducible rfl
  simp only [Act.put, List.setIfInBounds_toArray, List.set_cons_zero, List.set_cons_succ]
  refine wpAnyN_one (i := 42) (o := ?o42) (by kernel_rfl) ?hi42 ?hw42 ?st42
  case hi42 => rw [List.getElem?_toArray]; exact rfl
  case hw42 => exact rfl
  intro K hK
  have HK42 : Hid _ := hK
  clear hK
  go_simp
  refine HK42.out _ _ ⟨fun h => absurd h (by decide +kernel), ?_⟩
  clear HK42 K
  try simp only [Act.put, List.setIfInBounds_toArray, List.set_cons_zero, List.set_cons_succ]
  refine wpAnyN_done (by kernel_rfl) ?_ _
  go_wp2_with fail
  go_ret
  exact ⟨rfl, (H7.out _ I40.out).2.2.2.2.1⟩
end Go.Proofs.YtnmanndiiaikdaaDoor
