/- The reference's file: Sync, Crash. -/
import Derived.Test.YtlcinkhgjjpmmaaDkR
namespace Go.Proofs.Ytlcinkhgjjpmmaa
open Go Go.RowKit Go.Lib

set_option maxHeartbeats 1000000 in
theorem rsync_any (r : Nat) (S R : ByteArray) (hz : S.size + R.size ≤ 1048576) (w : World) (hF0 : RefAt w r S R) :
    Calls Try.prog 16 #[.pointer (some ⟨r, 0, none⟩)] w fun e w' => e = .returned (.tuple #[]) ∧ RefAt w' r (S ++ R) emp ∧ But r (From w.heap.size) w w' := by
  have HF : RefAt w.drew r S R := hF0
  have HF1 : Hid (RefAt w.drew r S R) := hF0
  obtain ⟨c0, c1, fz, hr⟩ := hF0
  have f0 := fz 0
  have f1 := fz 1
  have z5 : ¬ (9223372036854775807 < S.size + R.size) := by omega
  clear fz hr hz
  go_enter Try.func16, Try.ntmps16
  go_wp2_with fail
  refine wp_region_N (fun w' => RefAt w' r S R) 12 13 rfl (by kernel_rfl) ?_
  refine wpAnyN_takeF (i := 0) (oi := ?o0) (v := ?v0) ?hi0 (by kernel_rfl) (by kernel_rfl) (by kernel_rfl) (by decide) ?hQ0 ?hy0 HF ?more0
  case hi0 => rw [List.getElem?_toArray]; exact rfl
  case hQ0 => exact fun _ _ _ h => h
  case hy0 =>
    refine Or.inl ⟨by rfl, ?_⟩
    intro w' hSw
    clear hSw
    go_simp
    try with_reducible rfl
  simp only [Act.put, List.setIfInBounds_toArray, List.set_cons_zero, List.set_cons_succ]
  refine wpAnyN_takeF (i := 1) (oi := ?o1) (v := ?v1) ?hi1 (by kernel_rfl) (by kernel_rfl) (by kernel_rfl) (by decide) ?hQ1 ?hy1 HF ?more1
  case hi1 => rw [List.getElem?_toArray]; exact rfl
  case hQ1 => exact fun _ _ _ h => h
  case hy1 =>
    refine Or.inl ⟨by rfl, ?_⟩
    intro w' hSw
    clear hSw
    go_simp
    try with_reducible rfl
  simp only [Act.put, List.setIfInBounds_toArray, List.set_cons_zero, List.set_cons_succ]
  refine wpAnyN_takeF (i := 2) (oi := ?o2) (v := ?v2) ?hi2 (by kernel_rfl) (by kernel_rfl) (by kernel_rfl) (by decide) ?hQ2 ?hy2 HF ?more2
  case hi2 => rw [List.getElem?_toArray]; exact rfl
  case hQ2 => exact fun _ _ _ h => h
  case hy2 =>
    refine Or.inl ⟨by rfl, ?_⟩
    intro w' hSw
    clear hSw
    go_simp
    try with_reducible rfl
  simp only [Act.put, List.setIfInBounds_toArray, List.set_cons_zero, List.set_cons_succ]
  refine wpAnyN_takeF (i := 3) (oi := ?o3) (v := ?v3) ?hi3 (by kernel_rfl) (by kernel_rfl) (by kernel_rfl) (by decide) ?hQ3 ?hy3 HF ?more3
  case hi3 => rw [List.getElem?_toArray]; exact rfl
  case hQ3 => exact fun _ _ _ h => h
  case hy3 =>
    refine Or.inl ⟨by rfl, ?_⟩
    intro w' hSw
    clear hSw
    go_simp
    try with_reducible rfl
  simp only [Act.put, List.setIfInBounds_toArray, List.set_cons_zero, List.set_cons_succ]
  refine wpAnyN_take (i := 4) (oi := ?o4) (v := ?v4) ?hi4 (by kernel_rfl) (by kernel_rfl) (by kernel_rfl) (by kernel_rfl) (by decide) (by kernel_rfl) ?hQ4 ?hy4 HF ?more4
  case hi4 => rw [List.getElem?_toArray]; exact rfl
  case hQ4 => exact fun _ _ _ h => h
  case hy4 =>
    refine Or.inl ⟨by rfl, ?_⟩
    intro w' hSw
    obtain ⟨e0, e1, -, -⟩ := hSw
    go_simp
    try with_reducible rfl
  simp only [Act.put, List.setIfInBounds_toArray, List.set_cons_zero, List.set_cons_succ]
  refine wpAnyN_takeF (i := 5) (oi := ?o5) (v := ?v5) ?hi5 (by kernel_rfl) (by kernel_rfl) (by kernel_rfl) (by decide) ?hQ5 ?hy5 HF ?more5
  case hi5 => rw [List.getElem?_toArray]; exact rfl
  case hQ5 => exact fun _ _ _ h => h
  case hy5 =>
    refine Or.inl ⟨by rfl, ?_⟩
    intro w' hSw
    clear hSw
    go_simp
    try with_reducible rfl
  simp only [Act.put, List.setIfInBounds_toArray, List.set_cons_zero, List.set_cons_succ]
  refine wpAnyN_takeF (i := 6) (oi := ?o6) (v := ?v6) ?hi6 (by kernel_rfl) (by kernel_rfl) (by kernel_rfl) (by decide) ?hQ6 ?hy6 HF ?more6
  case hi6 => rw [List.getElem?_toArray]; exact rfl
  case hQ6 => exact fun _ _ _ h => h
  case hy6 =>
    refine Or.inl ⟨by rfl, ?_⟩
    intro w' hSw
    clear hSw
    go_simp
    try with_reducible rfl
  simp only [Act.put, List.setIfInBounds_toArray, List.set_cons_zero, List.set_cons_succ]
  refine wpAnyN_takeF (i := 7) (oi := ?o7) (v := ?v7) ?hi7 (by kernel_rfl) (by kernel_rfl) (by kernel_rfl) (by decide) ?hQ7 ?hy7 HF ?more7
  case hi7 => rw [List.getElem?_toArray]; exact rfl
  case hQ7 => exact fun _ _ _ h => h
  case hy7 =>
    refine Or.inl ⟨by rfl, ?_⟩
    intro w' hSw
    clear hSw
    go_simp
    try with_reducible rfl
  simp only [Act.put, List.setIfInBounds_toArray, List.set_cons_zero, List.set_cons_succ]
  refine wpAnyN_take (i := 8) (oi := ?o8) (v := ?v8) ?hi8 (by kernel_rfl) (by kernel_rfl) (by kernel_rfl) (by kernel_rfl) (by decide) (by kernel_rfl) ?hQ8 ?hy8 HF ?more8
  case hi8 => rw [List.getElem?_toArray]; exact rfl
  case hQ8 => exact fun _ _ _ h => h
  case hy8 =>
    refine Or.inl ⟨by rfl, ?_⟩
    intro w' hSw
    obtain ⟨e0, e1, -, -⟩ := hSw
    go_simp
    try with_reducible rfl
  simp only [Act.put, List.setIfInBounds_toArray, List.set_cons_zero, List.set_cons_succ]
  refine wpAnyN_takeF (i := 9) (oi := ?o9) (v := ?v9) ?hi9 (by kernel_rfl) (by kernel_rfl) (by kernel_rfl) (by decide) ?hQ9 ?hy9 HF ?more9
  case hi9 => rw [List.getElem?_toArray]; exact rfl
  case hQ9 => exact fun _ _ _ h => h
  case hy9 =>
    refine Or.inl ⟨by rfl, ?_⟩
    intro w' hSw
    clear hSw
    go_simp
    try with_reducible rfl
  simp only [Act.put, List.setIfInBounds_toArray, List.set_cons_zero, List.set_cons_succ]
  refine wpAnyN_takeF (i := 10) (oi := ?o10) (v := ?v10) ?hi10 (by kernel_rfl) (by kernel_rfl) (by kernel_rfl) (by decide) ?hQ10 ?hy10 HF ?more10
  case hi10 => rw [List.getElem?_toArray]; exact rfl
  case hQ10 => exact fun _ _ _ h => h
  case hy10 =>
    refine Or.inl ⟨by rfl, ?_⟩
    intro w' hSw
    clear hSw
    go_simp
    try with_reducible rfl
  simp only [Act.put, List.setIfInBounds_toArray, List.set_cons_zero, List.set_cons_succ]
  refine wpAnyN_takeF (i := 11) (oi := ?o11) (v := ?v11) ?hi11 (by kernel_rfl) (by kernel_rfl) (by kernel_rfl) (by decide) ?hQ11 ?hy11 HF ?more11
  case hi11 => rw [List.getElem?_toArray]; exact rfl
  case hQ11 => exact fun _ _ _ h => h
  case hy11 =>
    refine Or.inl ⟨by rfl, ?_⟩
    intro w' hSw
    clear hSw
    go_simp
    try with_reducible rfl
  simp only [Act.put, List.setIfInBounds_toArray, List.set_cons_zero, List.set_cons_succ]
  refine wpAnyN_one (i := 12) (o := ?o12) (by kernel_rfl) ?hi12 ?hw12 ?st12
  case hi12 => rw [List.getElem?_toArray]; exact rfl
  case hw12 => exact rfl
  intro K hK
  have HK12 : Hid _ := hK
  clear hK
  go_simp
  refine HK12.out _ _ ⟨fun h => absurd h (by decide +kernel), ?_⟩
  clear HK12 K
  try simp only [Act.put, List.setIfInBounds_toArray, List.set_cons_zero, List.set_cons_succ]
  refine wpAnyN_done (by kernel_rfl) ?_ _
  clear HF
  go_wp2
  refine bodyPost_end (results_none rfl _ _ _) rfl ⟨rfl, HF1.out.set0.set1, (((But.refl _ _ _).drew).set _).set _⟩
set_option maxHeartbeats 1000000 in
theorem rcrash_no (r : Nat) (k q : Int) (S R : ByteArray) (hz : R.size ≤ 1048576) (hn : k < 0 ∨ (R.size : Int) < k ∨ q < 0 ∨ 255 < q) (w : World) (hF : RefAt w r S R) :
    Calls Try.prog 18 #[.pointer (some ⟨r, 0, none⟩), .int .i64 k, .int .i64 q] w fun e w' => e = .returned (.int .i64 1) ∧ RefAt w' r S R ∧ But r (From w.heap.size) w w' := by
  have HF : Hid (RefAt w r S R) := hF
  obtain ⟨c0, c1, fz, hr⟩ := hF
  have z0 : (R.size : Int) ≤ 1048576 := by omega
  clear fz hr hz
  by_cases h0 : k < 0
  · clear hn
    go_enter Try.func18, Try.ntmps18
    go_wp2
    go_ret
    exact ⟨rfl, HF.out, But.refl _ _ _⟩
  · by_cases h1 : (R.size : Int) < k
    · clear hn
      go_enter Try.func18, Try.ntmps18
      go_wp2
      go_ret
      exact ⟨rfl, HF.out, But.refl _ _ _⟩
    · by_cases h2 : q < 0
      · clear hn
        go_enter Try.func18, Try.ntmps18
        go_wp2
        go_ret
        exact ⟨rfl, HF.out, But.refl _ _ _⟩
      · have h3 : 255 < q := by omega
        clear hn
        go_enter Try.func18, Try.ntmps18
        go_wp2
        go_ret
        exact ⟨rfl, HF.out, But.refl _ _ _⟩
set_option maxHeartbeats 1000000 in
theorem rcrash_ok (r k q : Nat) (S R : ByteArray) (hz : S.size + R.size ≤ 1048576) (hk : k ≤ R.size) (hq : q < 256) (hc : q = 0 ∨ k = R.size) (w : World) (hF : RefAt w r S R) :
    Calls Try.prog 18 #[.pointer (some ⟨r, 0, none⟩), .int .i64 (k : Nat), .int .i64 (q : Nat)] w fun e w' => e = .returned (.int .i64 0) ∧ RefAt w' r (S ++ R.extract 0 k) emp ∧ But r (From w.heap.size) w w' := by
  have HF : Hid (RefAt w r S R) := hF
  obtain ⟨c0, c1, fz, hr⟩ := hF
  have f0 := fz 0
  have f1 := fz 1
  have k1 : ¬ ((R.size : Int) < (k : Int)) := by omega
  have k2 : (k : Int) ≤ (R.size : Int) := by omega
  have q1 : ¬ ((255 : Int) < (q : Int)) := by omega
  have ez : (R.extract 0 k).size = k := by rw [ByteArray.size_extract]; omega
  have z5 : S.size + (R.extract 0 k).size ≤ 9223372036854775807 := by omega
  have z6 : S.size + k ≤ 9223372036854775807 := by omega
  have HC : Hid (q = 0 ∨ k = R.size) := hc
  clear fz hr hz hk hq hc
  go_enter Try.func18, Try.ntmps18
  go_wp2
  go_quiet (fail)
  rcases HC.out with hc | hc
  · have hd : ¬ ((0 : Int) < (q : Int)) := by omega
    clear hc
    go_wp2
    go_ret
    exact ⟨rfl, HF.out.drewN.set0.set1, (((But.refl _ _ _).drewN).set _).set _⟩
  · have hd : ¬ ((k : Int) < (R.size : Int)) := by omega
    clear hc
    by_cases hq : (0 : Int) < (q : Int)
    · go_wp2
      go_ret
      exact ⟨rfl, HF.out.drewN.set0.set1, (((But.refl _ _ _).drewN).set _).set _⟩
    · go_wp2
      go_ret
      exact ⟨rfl, HF.out.drewN.set0.set1, (((But.refl _ _ _).drewN).set _).set _⟩
theorem conv_one (y : UInt8) (w : World) : (convert 43 9 (.slice (some ⟨w.heap.size, 0, none⟩) 1 1)).run Try.prog (w.alloc (.cells #[.int .u8 (y.toNat : Int)] 5)) = .ok (.string (one y)) (w.alloc (.cells #[.int .u8 (y.toNat : Int)] 5)) := by
  have hR : RowB (w.alloc (.cells #[.int .u8 (y.toNat : Int)] 5)) (fun _ => True) (some ⟨w.heap.size, 0, none⟩) (one y) 1 := by
    refine .inr ⟨w.heap.size, rfl, trivial, by simp, Nat.le_refl _, by decide, fun j u hj => ?_, fun j hj => ?_, fun j => by simp [go_sem]⟩
    · match j, hj with
      | 0, hj => simp [strCells, one] at hj; subst hj; simp [go_sem]
      | j + 1, hj => simp [strCells, one] at hj
    · obtain rfl : j = 0 := by omega
      simp [go_sem]
  exact run_string_RowB (P := Try.prog) _ (fun _ => True) 43 5 9 Try.underlying43 Try.underlying5 Try.underlying9 _ _ (one y) hR
theorem byte_get (R : ByteArray) (k : Nat) (h : k < R.size) : (R[k]'h) = R.data.toList.getD k 0 := by
  have hl := ba_len R
  rw [List.getD_eq_getElem?_getD, List.getElem?_eq_getElem (by omega)]
  rfl
set_option maxHeartbeats 1000000 in
theorem rcrash_byte (r k q : Nat) (S R : ByteArray) (hz : S.size + R.size ≤ 1048576) (hk : k < R.size) (hq : q < 256) (hq0 : 0 < q) (w : World) (hF : RefAt w r S R) :
    Calls Try.prog 18 #[.pointer (some ⟨r, 0, none⟩), .int .i64 (k : Nat), .int .i64 (q : Nat)] w fun e w' => e = .returned (.int .i64 0) ∧ RefAt w' r (S ++ R.extract 0 k ++ one (xr (R.data.toList.getD k 0) q)) emp ∧ But r (From w.heap.size) w w' := by
  have HF : Hid (RefAt w r S R) := hF
  obtain ⟨c0, c1, fz, hr⟩ := hF
  have f0 := fz 0
  have f1 := fz 1
  obtain ⟨x, hx⟩ : ∃ x, x = R.data.toList.getD k 0 := ⟨_, rfl⟩
  have bx : ∀ h, (R[k]'h) = x := fun h => by rw [hx]; exact byte_get R k h
  have k1 : ¬ ((R.size : Int) < (k : Int)) := by omega
  have k2 : (k : Int) ≤ (R.size : Int) := by omega
  have k3 : (k : Int) < (R.size : Int) := by omega
  have k4 : k < R.size := hk
  have q1 : ¬ ((255 : Int) < (q : Int)) := by omega
  have q2 : IntKind.u8.wrap (q : Int) = (q : Int) := wrap_u8_nat q hq
  have q4 : 0 < q := hq0
  have q3 : bits .xor .u8 (x.toNat : Int) (q : Int) = ((xr x q).toNat : Nat) := bits_xor8 x q
  have ez : (R.extract 0 k).size = k := by rw [ByteArray.size_extract]; omega
  have z5 : S.size + (R.extract 0 k).size ≤ 9223372036854775807 := by omega
  have z6 : S.size + k ≤ 9223372036854775807 := by omega
  have z7 : S.size + k + 1 ≤ 9223372036854775807 := by omega
  have z8 : (one (xr x q)).size = 1 := rfl
  have hcv : ∀ w' : World, (convert 43 9 (.slice (some ⟨w'.heap.size, 0, none⟩) 1 1)).run Try.prog (w'.alloc (.cells #[.int .u8 ((xr x q).toNat : Int)] 5)) = .ok (.string (one (xr x q))) (w'.alloc (.cells #[.int .u8 ((xr x q).toNat : Int)] 5)) := fun w' => conv_one (xr x q) w'
  have hsz : ∀ w, (Go.sizeOf 5).run Try.prog w = .ok 1 w := fun _ => by kernel_rfl
  rw [← hx]
  have HL : Hid (r < w.heap.size) := hr
  clear fz hr hz hk hq hq0 hx
  go_enter Try.func18, Try.ntmps18
  go_wp2
  go_quiet (fail)
  have hcw : (convert 43 9 (.slice (some ⟨w.heap.size, 0, none⟩) 1 1)).run Try.prog ((w.drewN nq).alloc (.cells #[.int .u8 ((xr x q).toNat : Int)] 5)) = .ok (.string (one (xr x q))) ((w.drewN nq).alloc (.cells #[.int .u8 ((xr x q).toNat : Int)] 5)) := hcv (w.drewN nq)
  clear hcv
  have HB : Hid (Below w.heap.size w ((w.drewN nq).alloc (.cells #[.int .u8 ((xr x q).toNat : Int)] 5))) := below_alloc0 (below_drewN (Below.refl _ _) _) _
  obtain ⟨d0, d1, dz, -⟩ := HF.out.call HB.out
  have d2 := dz 0
  have d3 := dz 1
  clear dz
  go_wp2
  go_ret
  exact ⟨rfl, (HF.out.call HB.out).set0.set1, ((But.of_below HB.out).set _).set _⟩
end Go.Proofs.Ytlcinkhgjjpmmaa
