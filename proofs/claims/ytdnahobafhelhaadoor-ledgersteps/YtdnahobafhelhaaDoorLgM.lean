/- The reference's Read. -/
import Derived.Test.YtdnahobafhelhaaDoorLgQ
namespace Go.Proofs.YtdnahobafhelhaaDoor
open Go Go.RowKit Go.Lib

theorem atN_of {w : World} {c n : Nat} (h : w.cell? ⟨c, 1, none⟩ = some (.int .i64 (n : Nat))) : atN w c = n := by unfold atN; rw [h]; simp
theorem RfI.fin {w : World} {A : Nat} {b : ByteArray} {xs pre : List ByteArray} {a : Option Addr} {cap : Nat} {W : World} {x y : Value} (h : RfI w A b xs pre [] a cap W) (hA : A = w.heap.size) :
    xs = pre ∧ RowV ((W.setCell ⟨A, 0, none⟩ x).setCell ⟨A, 1, none⟩ y) (From w.heap.size) a (xs.map Value.string) cap ∧ Below w.heap.size w ((W.setCell ⟨A, 0, none⟩ x).setCell ⟨A, 1, none⟩ y) := by
  obtain ⟨h1, h2, h3, h4, h5, h6, h7, h8, h9, h10, h11⟩ := h
  have e : xs = pre := by rw [h1, List.append_nil]
  refine ⟨e, ?_, (h9.setCell (by rw [hA]; exact Nat.le_refl _) _).setCell (by rw [hA]; exact Nat.le_refl _) _⟩
  rw [e]
  refine (h8.kept (by rw [World.size_setCell, World.size_setCell]; exact Nat.le_refl _) (fun k hk hz' => ?_)).mono (fun k _ hk => ?_)
  · have hk' : A + 2 ≤ k := hk
    rw [Below.heap_setCell _ ⟨A, 1, none⟩ _ k (fun (q : k = A) => by omega), Below.heap_setCell _ ⟨A, 0, none⟩ _ k (fun (q : k = A) => by omega)]
  · have hk' : A + 2 ≤ k := hk
    show w.heap.size ≤ k
    omega
theorem RfI.next {w : World} {A : Nat} {b R : ByteArray} {xs pre rest ys : List ByteArray} {a a8 : Option Addr} {cap c8 n8 p8 : Nat} {W W8 : World} (h : RfI w A b xs pre rest a cap W) (hA : A = w.heap.size) (hr : rest = R :: ys)
    (ht : Told (pre.length + 1) (b.extract (sizesN (pre ++ [R])) b.size) ys) (hz : sizesN (pre ++ [R]) ≤ b.size) (hb : Off (From (A + 2)) W W8) (hR : RowV W8 (From (A + 2)) a8 ((pre ++ [R]).map Value.string) c8) (hn : n8 = pre.length + 1) (hp : p8 = sizesN (pre ++ [R])) :
    RfI w A b xs (pre ++ [R]) ys a8 c8 ((W8.setCell ⟨A + 1, 0, none⟩ (.slice a8 n8 c8)).setCell ⟨A + 1, 1, none⟩ (.int .i64 (p8 : Nat))) := by
  obtain ⟨h1, h2, h3, h4, h5, h6, h7, h8, h9, h10, h11⟩ := h
  have q1 : ¬ From (A + 2) (A + 1) := fun (q : A + 2 ≤ A + 1) => by omega
  have q0 : ¬ From (A + 2) A := fun (q : A + 2 ≤ A) => by omega
  have d0 := (hb.cell (p := ⟨A + 1, 0, none⟩) q1).trans h4
  have d1 := (hb.cell (p := ⟨A + 1, 1, none⟩) q1).trans h5
  have hl : (pre ++ [R]).length = pre.length + 1 := by simp
  refine ⟨by rw [h1, hr]; simp, by rw [hl]; exact ht, hz, ?_, ?_, fun o => ?_, ?_, ?_, ?_, fun j hj => ?_, fun o => ?_⟩
  · rw [World.cell?_setCell_other _ _ _ _ (by intro k; injection k with _ k2 _; omega), hl, ← hn]
    exact World.cell?_setCell_same _ _ _ d0
  · rw [← hp]
    exact World.cell?_setCell_same _ _ _ (by rw [World.cell?_setCell_other _ _ _ _ (by intro k; injection k with _ k2 _; omega)]; exact d1)
  · rw [World.frozen?_setCell, World.frozen?_setCell]; exact (hb.frozen (p := ⟨A + 1, o, none⟩) q1).trans (h6 o)
  · rw [World.size_setCell, World.size_setCell]; exact Nat.lt_of_lt_of_le h7 hb.size
  · refine hR.kept (by rw [World.size_setCell, World.size_setCell]; exact Nat.le_refl _) (fun k hk hz' => ?_)
    have hk' : A + 2 ≤ k := hk
    rw [Below.heap_setCell _ ⟨A + 1, 1, none⟩ _ k (fun (q : k = A + 1) => by omega), Below.heap_setCell _ ⟨A + 1, 0, none⟩ _ k (fun (q : k = A + 1) => by omega)]
  · have hB : Below w.heap.size w W8 := h9.trans ⟨hb.os, hb.tape, hb.output, hb.size, fun k hk => hb.block k (fun (q : A + 2 ≤ k) => by omega)⟩
    exact (hB.setCell (by rw [hA]; exact Nat.le_succ _) _).setCell (by rw [hA]; exact Nat.le_succ _) _
  · rw [World.cell?_setCell_other _ _ _ _ (by intro k; injection k with k1 _ _; omega), World.cell?_setCell_other _ _ _ _ (by intro k; injection k with k1 _ _; omega), hb.cell (p := ⟨A, j, none⟩) q0]; exact h10 j hj
  · rw [World.frozen?_setCell, World.frozen?_setCell]; exact (hb.frozen (p := ⟨A, o, none⟩) q0).trans (h11 o)
set_option maxRecDepth 20000 in
set_option maxHeartbeats 2000000 in
theorem read11_any (b : ByteArray) (hb : b.size ≤ 1000000) (xs : List ByteArray) (hx : Told 0 b xs) (w : World) :
    Calls Tryd.prog 10 #[.string b] w fun e w' => ∃ a cap, e = .returned (.agg #[.slice a xs.length cap, .int .i64 (sizesN xs : Nat)]) ∧ RowV w' (From w.heap.size) a (xs.map Value.string) cap ∧ Below w.heap.size w w' := by
  obtain ⟨i0, hi, hz0, hz1, hz2⟩ := infoStr
  have hsz : ∀ w, (Go.sizeOf 9).run Tryd.prog w = .ok 1 w := fun _ => by kernel_rfl
  have HX : Hid (Told 0 b xs) := hx
  clear hx
  go_enter Tryd.func10, Tryd.ntmps10
  go_wp2_with fail
  rename_i Kr hKr
  have HKr : Hid _ := hKr
  clear hKr
  go_loopw [] (fun wr => ∃ (pre rest : List ByteArray) (a : Option Addr) (cap : Nat), RfI w w.heap.size b xs pre rest a cap wr) (fun wr => b.size - atN wr (w.heap.size + 1))
  case atStart =>
    refine ⟨[], xs, none, 0, rfl, ?_, Nat.zero_le _, by simp [go_sem], by simp [go_sem, sizesN], fun o => by simp [go_sem], by simp, RowV.nil _ _, ?_, ?_, ?_⟩
    · have e : b.extract (sizesN []) b.size = b := by simp [sizesN]
      rw [e]; exact HX.out
    · exact below_alloc0 (below_alloc0 (Below.refl _ _) _) _
    · intro j hj
      match j, hj with
      | 0, _ => simp [go_sem]
      | 1, _ => simp [go_sem]
    · intro o; simp [go_sem]
  case round =>
    obtain ⟨pre, rest, a, cap, hI⟩ := hrel
    rename World => wr
    have HI : Hid (RfI w w.heap.size b xs pre rest a cap wr) := hI
    obtain ⟨h1, h2, h3, h4, h5, h6, h7, h8, h9, h10, h11⟩ := hI
    have hlen := sizesN_len pre
    obtain ⟨p, hp⟩ : ∃ p, p = sizesN pre := ⟨_, rfl⟩
    obtain ⟨n, hn⟩ : ∃ n, n = pre.length := ⟨_, rfl⟩
    rw [← hn] at h4 h2 hlen
    rw [← hp] at h5 h2 h3 hlen
    have f0 := h6 0
    have f1 := h6 1
    obtain ⟨v0, o0⟩ := Option.isSome_iff_exists.1 (h10 0 (by decide))
    obtain ⟨v1, o1⟩ := Option.isSome_iff_exists.1 (h10 1 (by decide))
    have g0 := h11 0
    have g1 := h11 1
    have HP : Hid (p = sizesN pre ∧ n = pre.length ∧ Told n (b.extract p b.size) rest ∧ p ≤ b.size ∧ 6 * n ≤ p ∧ xs = pre ++ rest) := ⟨hp, hn, h2, h3, hlen, h1⟩
    have bp : (p : Int) ≤ 1000000 := by omega
    clear hp hn h2 hlen h1 h6 h7 h8 h9 h10 h11 h3
    by_cases s6 : p + 6 ≤ b.size
    case neg =>
      have k1 : ¬ (6 : Int) ≤ (b.size : Int) - (p : Int) := by omega
      have k2 : (b.size : Int) - (p : Int) < 6 := by omega
      have hr : rest = [] := HP.out.2.2.1.none (firstS_short _ _ (by rw [ext_size]; omega))
      subst hr
      clear s6
      go_wp2_with fail
      refine HKr.out _ _ ?_
      clear HKr
      go_wp2_with fail
      have hfin := fun _ : Nat => RfI.fin HI.out rfl (x := .slice a n cap) (y := .int .i64 (p : Nat))
      exact bodyPost_ret (v := .agg #[.slice a n cap, .int .i64 (p : Nat)]) (by simp [results, Tryd.results10, go_sem, o0, o1]) rfl ⟨a, cap, by rw [(hfin 0).1, HP.out.1, HP.out.2.1], (hfin 0).2.1, (hfin 0).2.2⟩
    obtain ⟨x, hx⟩ : ∃ x, x = b[p].toNat := ⟨_, rfl⟩
    obtain ⟨y, hy⟩ : ∃ y, y = b[p + 1].toNat := ⟨_, rfl⟩
    have x8 : x < 256 := by rw [hx]; exact UInt8.toNat_lt _
    have y8 : y < 256 := by rw [hy]; exact UInt8.toNat_lt _
    have b0 : ∀ q, ((b[p]'q).toNat) = x := fun _ => hx.symm
    have b1 : ∀ q, ((b[p + 1]'q).toNat) = y := fun _ => hy.symm
    obtain ⟨m, hm⟩ : ∃ m, m = x * 256 + y := ⟨_, rfl⟩
    have HF := firstS_at n p m b s6 (by rw [hm, hx, hy])
    have k1 : (6 : Int) ≤ (b.size : Int) - (p : Int) := by omega
    have k2 : ¬ (b.size : Int) - (p : Int) < 6 := by omega
    have k3 : (p : Int) < (b.size : Int) := by omega
    have k4 : (p : Int) + 1 < (b.size : Int) := by omega
    have e1 : (256 : Int) * (x : Int) + (y : Int) = (m : Int) := by omega
    have HM : Hid (m = x * 256 + y) := hm
    clear hm hx hy s6
    go_wp2_with fail
    go_quiet (fail)
    by_cases h9 : 9000 < m ∨ b.size < p + m + 6
    · have hr : rest = [] := HP.out.2.2.1.none (by rw [HF, if_pos h9])
      subst hr
      clear HF
      by_cases h8 : 9000 < m
      · have k5 : (9000 : Int) < (m : Int) := by omega
        clear h9 h8
        go_wp2_with fail
        refine HKr.out _ _ ?_
        clear HKr
        go_wp2_with fail
        have hfin := fun kd : Nat => RfI.fin (HI.out.call (below_drewN (Below.refl _ _) kd)) rfl (x := .slice a n cap) (y := .int .i64 (p : Nat))
        exact bodyPost_ret (v := .agg #[.slice a n cap, .int .i64 (p : Nat)]) (by simp [results, Tryd.results10, go_sem, o0, o1]) rfl ⟨a, cap, by rw [(hfin 0).1, HP.out.1, HP.out.2.1], (hfin _).2.1, (hfin _).2.2⟩
      · have k5 : ¬ (9000 : Int) < (m : Int) := by omega
        have k6 : (b.size : Int) - (p : Int) < (m : Int) + 6 := by omega
        have k7 : (m : Int) ≤ 9000 := by omega
        clear h9 h8
        go_wp2_with fail
        refine HKr.out _ _ ?_
        clear HKr
        go_wp2_with fail
        have hfin := fun kd : Nat => RfI.fin (HI.out.call (below_drewN (Below.refl _ _) kd)) rfl (x := .slice a n cap) (y := .int .i64 (p : Nat))
        exact bodyPost_ret (v := .agg #[.slice a n cap, .int .i64 (p : Nat)]) (by simp [results, Tryd.results10, go_sem, o0, o1]) rfl ⟨a, cap, by rw [(hfin 0).1, HP.out.1, HP.out.2.1], (hfin _).2.1, (hfin _).2.2⟩
    · obtain ⟨q2, hq2⟩ : ∃ q, q = p + 2 := ⟨_, rfl⟩
      obtain ⟨qm, hqm⟩ : ∃ q, q = p + 2 + m := ⟨_, rfl⟩
      obtain ⟨q6, hq6⟩ : ∃ q, q = p + 6 := ⟨_, rfl⟩
      obtain ⟨qr, hqr⟩ : ∃ q, q = p + 6 + m := ⟨_, rfl⟩
      rw [if_neg h9, ← hqm, ← hqr, ← hq2] at HF
      have k5 : ¬ (9000 : Int) < (m : Int) := by omega
      have k6 : ¬ (b.size : Int) - (p : Int) < (m : Int) + 6 := by omega
      have k7 : (m : Int) ≤ 9000 := by omega
      have a2 : (p : Int) + 2 = (q2 : Int) := by omega
      have am : (q2 : Int) + (m : Int) = (qm : Int) := by omega
      have l1 : (q2 : Int) ≤ (qm : Int) := by omega
      have l2 : (qm : Int) ≤ (b.size : Int) := by omega
      have HW : Hid (IntKind.i64.wrap ((p : Int) + 2) = (q2 : Int) ∧ IntKind.i64.wrap ((q2 : Int) + (m : Int)) = (qm : Int) ∧ IntKind.i64.wrap ((p : Int) + 6) = (q6 : Int) ∧ IntKind.i64.wrap ((q6 : Int) + (m : Int)) = (qr : Int) ∧ (qm : Int) ≤ (qr : Int) ∧ (qr : Int) ≤ (b.size : Int)) := ⟨by rw [IntKind.wrap_i64]; omega, by rw [IntKind.wrap_i64]; omega, by rw [IntKind.wrap_i64]; omega, by rw [IntKind.wrap_i64]; omega, by omega, by omega⟩
      have HQ : Hid (q2 = p + 2 ∧ qm = p + 2 + m ∧ q6 = p + 6 ∧ qr = p + 6 + m ∧ qr ≤ b.size) := ⟨hq2, hqm, hq6, hqr, by omega⟩
      have HZ : Hid (w.heap.size + 1 < wr.heap.size) := HI.out.2.2.2.2.2.2.1
      obtain ⟨R, hR⟩ : ∃ R, R = b.extract q2 qm := ⟨_, rfl⟩
      have hRz : R.size = m := by rw [hR, ByteArray.size_extract]; omega
      have KS : Hid _ := fun w' : World => seal11_any n R (by have := HP.out; omega) (by omega) w'
      rw [← hR] at HF
      have hR' : b.extract q2 qm = R := hR.symm
      generalize sealS n R = Z at HF KS
      have HFH : Hid _ := HF
      clear hq2 hqm hq6 hqr h9 HF hR
      go_wp2_with fail
      clear a2 am
      obtain ⟨wa, wb, wc, wd, l3, l4⟩ := HW.out
      refine wp_region_N (fun w' => Below wr.heap.size wr w') 17 18 rfl (by kernel_rfl) ?_
      refine wpAnyN_takeF (i := 0) (oi := ?o0) (v := ?v0) ?hi0 (by kernel_rfl) (by kernel_rfl) (by kernel_rfl) (by decide) ?hQ0 ?hy0 (by first | exact below_drewN (Below.refl _ _) _ | exact Below.drew (below_drewN (Below.refl _ _) _) | exact Below.drew (Below.refl _ _)) ?more0
      case hi0 => rw [List.getElem?_toArray]; exact rfl
      case hQ0 => exact fun _ _ _ h => h
      case hy0 =>
        refine Or.inl ⟨by rfl, ?_⟩
        intro w' hSw
        clear hSw
        go_simp
        try with_reducible rfl
      simp only [Act.put, List.setIfInBounds_toArray, List.set_cons_zero, List.set_cons_succ]
      refine wpAnyN_takeF (i := 1) (oi := ?o1) (v := ?v1) ?hi1 (by kernel_rfl) (by kernel_rfl) (by kernel_rfl) (by decide) ?hQ1 ?hy1 (by first | exact below_drewN (Below.refl _ _) _ | exact Below.drew (below_drewN (Below.refl _ _) _) | exact Below.drew (Below.refl _ _)) ?more1
      case hi1 => rw [List.getElem?_toArray]; exact rfl
      case hQ1 => exact fun _ _ _ h => h
      case hy1 =>
        refine Or.inl ⟨by rfl, ?_⟩
        intro w' hSw
        clear hSw
        go_simp
        try with_reducible rfl
      simp only [Act.put, List.setIfInBounds_toArray, List.set_cons_zero, List.set_cons_succ]
      refine wpAnyN_takeL (i := 2) (oi := ?o2) (v := ?v2) [3, 5, 11, 17] ?hi2 (by kernel_rfl) (by kernel_rfl) (by kernel_rfl) (by kernel_rfl) (by decide) (by decide) (by kernel_rfl) ?hQ2 ?hy2 (by first | exact below_drewN (Below.refl _ _) _ | exact Below.drew (below_drewN (Below.refl _ _) _) | exact Below.drew (Below.refl _ _)) ?more2
      case hi2 => rw [List.getElem?_toArray]; exact rfl
      case hQ2 => exact fun _ _ _ h => h
      case hy2 =>
        refine Or.inl ⟨by rfl, ?_⟩
        intro w' hSw
        have z0 := (hSw.cell (p := ⟨w.heap.size + 1, 0, none⟩) HZ.out).trans h4
        have z1 := (hSw.cell (p := ⟨w.heap.size + 1, 1, none⟩) HZ.out).trans h5
        clear hSw
        go_simp
        try with_reducible rfl
      simp only [Act.put, List.setIfInBounds_toArray, List.set_cons_zero, List.set_cons_succ]
      refine wpAnyN_takeF (i := 3) (oi := ?o3) (v := ?v3) ?hi3 (by kernel_rfl) (by kernel_rfl) (by kernel_rfl) (by decide) ?hQ3 ?hy3 (by first | exact below_drewN (Below.refl _ _) _ | exact Below.drew (below_drewN (Below.refl _ _) _) | exact Below.drew (Below.refl _ _)) ?more3
      case hi3 => rw [List.getElem?_toArray]; exact rfl
      case hQ3 => exact fun _ _ _ h => h
      case hy3 =>
        refine Or.inl ⟨by rfl, ?_⟩
        intro w' hSw
        clear hSw
        go_simp
        try with_reducible rfl
      simp only [Act.put, List.setIfInBounds_toArray, List.set_cons_zero, List.set_cons_succ]
      refine wpAnyN_takeF (i := 4) (oi := ?o4) (v := ?v4) ?hi4 (by kernel_rfl) (by kernel_rfl) (by kernel_rfl) (by decide) ?hQ4 ?hy4 (by first | exact below_drewN (Below.refl _ _) _ | exact Below.drew (below_drewN (Below.refl _ _) _) | exact Below.drew (Below.refl _ _)) ?more4
      case hi4 => rw [List.getElem?_toArray]; exact rfl
      case hQ4 => exact fun _ _ _ h => h
      case hy4 =>
        refine Or.inl ⟨by rfl, ?_⟩
        intro w' hSw
        clear hSw
        go_simp
        try with_reducible rfl
      simp only [Act.put, List.setIfInBounds_toArray, List.set_cons_zero, List.set_cons_succ]
      refine wpAnyN_takeF (i := 5) (oi := ?o5) (v := ?v5) ?hi5 (by kernel_rfl) (by kernel_rfl) (by kernel_rfl) (by decide) ?hQ5 ?hy5 (by first | exact below_drewN (Below.refl _ _) _ | exact Below.drew (below_drewN (Below.refl _ _) _) | exact Below.drew (Below.refl _ _)) ?more5
      case hi5 => rw [List.getElem?_toArray]; exact rfl
      case hQ5 => exact fun _ _ _ h => h
      case hy5 =>
        refine Or.inl ⟨by rfl, ?_⟩
        intro w' hSw
        clear hSw
        go_simp
        try with_reducible rfl
      simp only [Act.put, List.setIfInBounds_toArray, List.set_cons_zero, List.set_cons_succ]
      refine wpAnyN_takeF (i := 6) (oi := ?o6) (v := ?v6) ?hi6 (by kernel_rfl) (by kernel_rfl) (by kernel_rfl) (by decide) ?hQ6 ?hy6 (by first | exact below_drewN (Below.refl _ _) _ | exact Below.drew (below_drewN (Below.refl _ _) _) | exact Below.drew (Below.refl _ _)) ?more6
      case hi6 => rw [List.getElem?_toArray]; exact rfl
      case hQ6 => exact fun _ _ _ h => h
      case hy6 =>
        refine Or.inl ⟨by rfl, ?_⟩
        intro w' hSw
        clear hSw
        go_simp
        try with_reducible rfl
      simp only [Act.put, List.setIfInBounds_toArray, List.set_cons_zero, List.set_cons_succ]
      refine wpAnyN_takeL (i := 7) (oi := ?o7) (v := ?v7) [8, 10, 11, 17] ?hi7 (by kernel_rfl) (by kernel_rfl) (by kernel_rfl) (by kernel_rfl) (by decide) (by decide) (by kernel_rfl) ?hQ7 ?hy7 (by first | exact below_drewN (Below.refl _ _) _ | exact Below.drew (below_drewN (Below.refl _ _) _) | exact Below.drew (Below.refl _ _)) ?more7
      case hi7 => rw [List.getElem?_toArray]; exact rfl
      case hQ7 => exact fun _ _ _ h => h
      case hy7 =>
        refine Or.inl ⟨by rfl, ?_⟩
        intro w' hSw
        have z0 := (hSw.cell (p := ⟨w.heap.size + 1, 0, none⟩) HZ.out).trans h4
        have z1 := (hSw.cell (p := ⟨w.heap.size + 1, 1, none⟩) HZ.out).trans h5
        clear hSw
        go_simp
        try with_reducible rfl
      simp only [Act.put, List.setIfInBounds_toArray, List.set_cons_zero, List.set_cons_succ]
      refine wpAnyN_takeF (i := 8) (oi := ?o8) (v := ?v8) ?hi8 (by kernel_rfl) (by kernel_rfl) (by kernel_rfl) (by decide) ?hQ8 ?hy8 (by first | exact below_drewN (Below.refl _ _) _ | exact Below.drew (below_drewN (Below.refl _ _) _) | exact Below.drew (Below.refl _ _)) ?more8
      case hi8 => rw [List.getElem?_toArray]; exact rfl
      case hQ8 => exact fun _ _ _ h => h
      case hy8 =>
        refine Or.inl ⟨by rfl, ?_⟩
        intro w' hSw
        clear hSw
        go_simp
        try with_reducible rfl
      simp only [Act.put, List.setIfInBounds_toArray, List.set_cons_zero, List.set_cons_succ]
      refine wpAnyN_takeF (i := 9) (oi := ?o9) (v := ?v9) ?hi9 (by kernel_rfl) (by kernel_rfl) (by kernel_rfl) (by decide) ?hQ9 ?hy9 (by first | exact below_drewN (Below.refl _ _) _ | exact Below.drew (below_drewN (Below.refl _ _) _) | exact Below.drew (Below.refl _ _)) ?more9
      case hi9 => rw [List.getElem?_toArray]; exact rfl
      case hQ9 => exact fun _ _ _ h => h
      case hy9 =>
        refine Or.inl ⟨by rfl, ?_⟩
        intro w' hSw
        clear hSw
        go_simp
        try with_reducible rfl
      simp only [Act.put, List.setIfInBounds_toArray, List.set_cons_zero, List.set_cons_succ]
      refine wpAnyN_takeF (i := 10) (oi := ?o10) (v := ?v10) ?hi10 (by kernel_rfl) (by kernel_rfl) (by kernel_rfl) (by decide) ?hQ10 ?hy10 (by first | exact below_drewN (Below.refl _ _) _ | exact Below.drew (below_drewN (Below.refl _ _) _) | exact Below.drew (Below.refl _ _)) ?more10
      case hi10 => rw [List.getElem?_toArray]; exact rfl
      case hQ10 => exact fun _ _ _ h => h
      case hy10 =>
        refine Or.inl ⟨by rfl, ?_⟩
        intro w' hSw
        clear hSw
        go_simp
        try with_reducible rfl
      simp only [Act.put, List.setIfInBounds_toArray, List.set_cons_zero, List.set_cons_succ]
      refine wpAnyN_takeF (i := 11) (oi := ?o11) (v := ?v11) ?hi11 (by kernel_rfl) (by kernel_rfl) (by kernel_rfl) (by decide) ?hQ11 ?hy11 (by first | exact below_drewN (Below.refl _ _) _ | exact Below.drew (below_drewN (Below.refl _ _) _) | exact Below.drew (Below.refl _ _)) ?more11
      case hi11 => rw [List.getElem?_toArray]; exact rfl
      case hQ11 => exact fun _ _ _ h => h
      case hy11 =>
        refine Or.inl ⟨by rfl, ?_⟩
        intro w' hSw
        clear hSw
        go_simp
        try with_reducible rfl
      simp only [Act.put, List.setIfInBounds_toArray, List.set_cons_zero, List.set_cons_succ]
      refine wpAnyN_takeF (i := 12) (oi := ?o12) (v := ?v12) ?hi12 (by kernel_rfl) (by kernel_rfl) (by kernel_rfl) (by decide) ?hQ12 ?hy12 (by first | exact below_drewN (Below.refl _ _) _ | exact Below.drew (below_drewN (Below.refl _ _) _) | exact Below.drew (Below.refl _ _)) ?more12
      case hi12 => rw [List.getElem?_toArray]; exact rfl
      case hQ12 => exact fun _ _ _ h => h
      case hy12 =>
        refine Or.inl ⟨by rfl, ?_⟩
        intro w' hSw
        clear hSw
        go_simp
        try with_reducible rfl
      simp only [Act.put, List.setIfInBounds_toArray, List.set_cons_zero, List.set_cons_succ]
      refine wpAnyN_takeL (i := 13) (oi := ?o13) (v := ?v13) [14, 16, 17] ?hi13 (by kernel_rfl) (by kernel_rfl) (by kernel_rfl) (by kernel_rfl) (by decide) (by decide) (by kernel_rfl) ?hQ13 ?hy13 (by first | exact below_drewN (Below.refl _ _) _ | exact Below.drew (below_drewN (Below.refl _ _) _) | exact Below.drew (Below.refl _ _)) ?more13
      case hi13 => rw [List.getElem?_toArray]; exact rfl
      case hQ13 => exact fun _ _ _ h => h
      case hy13 =>
        refine Or.inl ⟨by rfl, ?_⟩
        intro w' hSw
        have z0 := (hSw.cell (p := ⟨w.heap.size + 1, 0, none⟩) HZ.out).trans h4
        have z1 := (hSw.cell (p := ⟨w.heap.size + 1, 1, none⟩) HZ.out).trans h5
        clear hSw
        go_simp
        try with_reducible rfl
      simp only [Act.put, List.setIfInBounds_toArray, List.set_cons_zero, List.set_cons_succ]
      refine wpAnyN_takeF (i := 14) (oi := ?o14) (v := ?v14) ?hi14 (by kernel_rfl) (by kernel_rfl) (by kernel_rfl) (by decide) ?hQ14 ?hy14 (by first | exact below_drewN (Below.refl _ _) _ | exact Below.drew (below_drewN (Below.refl _ _) _) | exact Below.drew (Below.refl _ _)) ?more14
      case hi14 => rw [List.getElem?_toArray]; exact rfl
      case hQ14 => exact fun _ _ _ h => h
      case hy14 =>
        refine Or.inl ⟨by rfl, ?_⟩
        intro w' hSw
        clear hSw
        go_simp
        try with_reducible rfl
      simp only [Act.put, List.setIfInBounds_toArray, List.set_cons_zero, List.set_cons_succ]
      refine wpAnyN_takeF (i := 15) (oi := ?o15) (v := ?v15) ?hi15 (by kernel_rfl) (by kernel_rfl) (by kernel_rfl) (by decide) ?hQ15 ?hy15 (by first | exact below_drewN (Below.refl _ _) _ | exact Below.drew (below_drewN (Below.refl _ _) _) | exact Below.drew (Below.refl _ _)) ?more15
      case hi15 => rw [List.getElem?_toArray]; exact rfl
      case hQ15 => exact fun _ _ _ h => h
      case hy15 =>
        refine Or.inl ⟨by rfl, ?_⟩
        intro w' hSw
        clear hSw
        go_simp
        try with_reducible rfl
      simp only [Act.put, List.setIfInBounds_toArray, List.set_cons_zero, List.set_cons_succ]
      refine wpAnyN_one (i := 16) (o := ?o16) (by kernel_rfl) ?hi16 ?hw16 ?st16
      case hi16 => rw [List.getElem?_toArray]; exact rfl
      case hw16 => exact rfl
      intro K hK
      have HK16 : Hid _ := hK
      clear hK
      go_simp
      refine (KS.out _).mono ?_
      rintro e w2 ⟨rfl, hq⟩
      have H2 : Hid (Below wr.heap.size wr w2) := below_call0 (by first | exact below_drewN (Below.refl _ _) _ | exact Below.drew (below_drewN (Below.refl _ _) _) | exact Below.drew (Below.refl _ _)) hq
      clear hq
      go_wp2_with fail
      refine HK16.out _ _ ⟨fun _ => H2.out, ?_⟩
      clear HK16 K
      try simp only [Act.put, List.setIfInBounds_toArray, List.set_cons_zero, List.set_cons_succ]
      refine wpAnyN_one (i := 17) (o := ?o17) (by kernel_rfl) ?hi17 ?hw17 ?st17
      case hi17 => rw [List.getElem?_toArray]; exact rfl
      case hw17 => exact rfl
      intro K hK
      have HK17 : Hid _ := hK
      clear hK
      go_simp
      refine HK17.out _ _ ⟨fun h => absurd h (by decide +kernel), ?_⟩
      clear HK17 K
      try simp only [Act.put, List.setIfInBounds_toArray, List.set_cons_zero, List.set_cons_succ]
      refine wpAnyN_done (by kernel_rfl) ?_ _
      have HFR : Hid _ := HFH.out
      clear HFH wa wb wc wd l3 l4
      generalize ((b.extract qm qr).toList == Z.toList) = bq at HFR ⊢
      cases bq
      · have hr : rest = [] := HP.out.2.2.1.none (by rw [HFR.out]; rfl)
        subst hr
        clear HFR
        have z0 := (H2.out.cell (p := ⟨w.heap.size + 1, 0, none⟩) HZ.out).trans h4
        have z1 := (H2.out.cell (p := ⟨w.heap.size + 1, 1, none⟩) HZ.out).trans h5
        have o0' := (H2.out.cell (p := ⟨w.heap.size, 0, none⟩) (Nat.lt_of_succ_lt HZ.out)).trans o0
        have o1' := (H2.out.cell (p := ⟨w.heap.size, 1, none⟩) (Nat.lt_of_succ_lt HZ.out)).trans o1
        have g0' := (H2.out.frozen (p := ⟨w.heap.size, 0, none⟩) (Nat.lt_of_succ_lt HZ.out)).trans g0
        have g1' := (H2.out.frozen (p := ⟨w.heap.size, 1, none⟩) (Nat.lt_of_succ_lt HZ.out)).trans g1
        clear h4 h5 f0 f1 o0 o1 g0 g1
        go_wp2_with fail
        refine HKr.out _ _ ?_
        clear HKr
        go_wp2_with fail
        have hfin := fun _ : Nat => RfI.fin (HI.out.call H2.out) rfl (x := .slice a n cap) (y := .int .i64 (p : Nat))
        exact bodyPost_ret (v := .agg #[.slice a n cap, .int .i64 (p : Nat)]) (by simp [results, Tryd.results10, go_sem, o0', o1']) rfl ⟨a, cap, by rw [(hfin 0).1, HP.out.1, HP.out.2.1], (hfin 0).2.1, (hfin 0).2.2⟩
      · obtain ⟨ys, hys, hty⟩ := HP.out.2.2.1.some (show firstS n (b.extract p b.size) = some R by rw [HFR.out]; rfl)
        have hsm : sizesN (pre ++ [R]) = qr := by
          rw [sizesN_append, ← HP.out.1]
          simp only [sizesN]
          have := HQ.out
          omega
        have HNX : Hid (rest = R :: ys ∧ Told (pre.length + 1) (b.extract (sizesN (pre ++ [R])) b.size) ys ∧ sizesN (pre ++ [R]) = qr ∧ qr ≤ b.size ∧ p < qr) := by
          refine ⟨hys, ?_, hsm, HQ.out.2.2.2.2, by have := HQ.out; omega⟩
          rw [ext_ext, ext_size, ← Nat.add_assoc p, show p + (b.size - p) = b.size by have := HP.out; omega, show p + R.size + 6 = qr by have := HQ.out; omega, HP.out.2.1] at hty
          rw [hsm]
          exact hty
        clear HFR hys hty hsm
        have HZ2 : Hid (w.heap.size + 2 ≤ w2.heap.size) := Nat.le_trans HZ.out H2.out.size
        have HRow : Hid (RowV w2 (From (w.heap.size + 2)) a (pre.map Value.string) cap) := (HI.out.call H2.out).2.2.2.2.2.2.2.1
        have HNR : Hid (∀ (a8 : Option Addr) (m8 c8 : Nat) (w8 : World) (t : TypeId), m8 = n + 1 → RowV w8 (From (w.heap.size + 2)) a8 (pre.map Value.string ++ [.string R]) c8 → Off (From (w.heap.size + 2)) (w2.alloc (.cells #[.string R] t)) w8 → RfI w w.heap.size b xs (pre ++ [R]) ys a8 c8 ((w8.setCell ⟨w.heap.size + 1, 0, none⟩ (.slice a8 m8 c8)).setCell ⟨w.heap.size + 1, 1, none⟩ (.int .i64 (qr : Nat)))) := fun a8 m8 c8 w8 t hm8 hR8 hb8 =>
          (HI.out.call H2.out).next rfl HNX.out.1 HNX.out.2.1 (by rw [HNX.out.2.2.1]; exact HNX.out.2.2.2.1) ((Off.of_below (below_alloc0 (Below.refl _ _) _) (fun k hk => Nat.le_trans HZ2.out hk)).trans hb8) (by rw [List.map_append]; exact hR8) (by rw [hm8, HP.out.2.1]) HNX.out.2.2.1.symm
        have z0 := (H2.out.cell (p := ⟨w.heap.size + 1, 0, none⟩) HZ.out).trans h4
        have z1 := (H2.out.cell (p := ⟨w.heap.size + 1, 1, none⟩) HZ.out).trans h5
        have y0 := (H2.out.frozen (p := ⟨w.heap.size + 1, 0, none⟩) HZ.out).trans f0
        have y1 := (H2.out.frozen (p := ⟨w.heap.size + 1, 1, none⟩) HZ.out).trans f1
        have H5 : Hid (wr.cell? ⟨w.heap.size + 1, 1, none⟩ = some (.int .i64 (p : Nat)) ∧ w2.cell? ⟨w.heap.size + 1, 0, none⟩ = some (.slice a n cap) ∧ w2.cell? ⟨w.heap.size + 1, 1, none⟩ = some (.int .i64 (p : Nat)) ∧ w2.frozen? ⟨w.heap.size + 1, 0, none⟩ = false ∧ w2.frozen? ⟨w.heap.size + 1, 1, none⟩ = false) := ⟨h5, z0, z1, y0, y1⟩
        have q1 : ¬ From (w.heap.size + 2) (w.heap.size + 1) := fun (q : w.heap.size + 2 ≤ w.heap.size + 1) => by omega
        have Q1 : Hid _ := q1
        have HO : Hid (∀ (w8 : World) (t : TypeId), Off (From (w.heap.size + 2)) (w2.alloc (.cells #[.string R] t)) w8 → w8.cell? ⟨w.heap.size + 1, 0, none⟩ = some (.slice a n cap) ∧ w8.cell? ⟨w.heap.size + 1, 1, none⟩ = some (.int .i64 (p : Nat)) ∧ w8.frozen? ⟨w.heap.size + 1, 0, none⟩ = false ∧ w8.frozen? ⟨w.heap.size + 1, 1, none⟩ = false) := fun w8 t hb8 => by
          have ho := (Off.of_below (below_alloc0 (Below.refl w2.heap.size w2) (.cells #[.string R] t)) (fun k hk => Nat.le_trans HZ2.out hk)).trans hb8
          exact ⟨(ho.cell (p := ⟨w.heap.size + 1, 0, none⟩) q1).trans z0, (ho.cell (p := ⟨w.heap.size + 1, 1, none⟩) q1).trans z1, (ho.frozen (p := ⟨w.heap.size + 1, 0, none⟩) q1).trans y0, (ho.frozen (p := ⟨w.heap.size + 1, 1, none⟩) q1).trans y1⟩
        have a6 : (p : Int) + 6 = (q6 : Int) := by have := HQ.out; omega
        have ar : (q6 : Int) + (m : Int) = (qr : Int) := by have := HQ.out; omega
        clear h4 h5 f0 f1 o0 o1 g0 g1 q1
        go_wp2_with (at_builtin; refine wpList_append_RowV _ rfl _ _ 23 rfl (From (w.heap.size + 2)) 9 i0 (.string ⟨#[]⟩) 16 Tryd.underlying23 hi hz0 rfl hz1 hz2 a n cap (pre.map Value.string) [.string R] rfl (by rw [List.length_map]; exact HP.out.2.1) (RowV.call HRow.out (below_alloc0 (Below.refl _ _) _)) (by rw [List.length_map]; have := HP.out; unfold maxLen; simp; omega) (by rw [List.length_map]; have := HP.out; simp; omega) (fun k hk => Nat.le_trans HZ2.out (Nat.le_trans (by simp) hk)) ⟨w2.heap.size, 0, none⟩ 1 1 rfl rfl (cellnew1 R w2 _) (strone R) ?_; intro a8 m8 c8 w8 hm8 hR8 hb8; have H8 : Hid _ := HNR.out a8 m8 c8 w8 _ hm8 hR8 hb8; obtain ⟨d0, d1, d2, d3⟩ := HO.out w8 _ hb8; clear hm8 hR8 hb8 z0 z1 y0 y1)
        go_roundw
        case rel => first | exact ⟨_, _, _, _, H8.out⟩ | ((repeat apply Exists.intro); exact ⟨⟨_, _, _, _, H8.out⟩, rfl⟩)
        case measure => rw [atN_of H8.out.2.2.2.2.1, atN_of H5.out.1]; have := HNX.out; omega
end Go.Proofs.YtdnahobafhelhaaDoor
