/- Share: a polynomial of scalars of numbers. -/
import Derived.Test.YtcdiehnkknmbeaaDoorShX
namespace Go.Proofs.YtcdiehnkknmbeaaDoor
open Go Go.RowKit Go.Lib

def rtL (l : List Nat) : List Nat := (l.take 10).map fun n => n % QQ
theorem rtL_length (l : List Nat) : (rtL l).length ≤ 10 := by unfold rtL; rw [List.length_map, List.length_take]; omega
theorem rtL_step {l : List Nat} {k : Nat} (hk : k < l.length) (h : k < 10) : rtL (l.take (k + 1)) = rtL (l.take k) ++ [(l[k]'hk) % QQ] := by
  unfold rtL
  rw [List.take_take, List.take_take, show min 10 (k + 1) = k + 1 by omega, show min 10 k = k by omega, List.take_succ_eq_append_getElem hk, List.map_append]
  rfl
theorem rtL_same {l : List Nat} {k : Nat} (h : ¬ k < 10) : rtL (l.take (k + 1)) = rtL (l.take k) := by
  unfold rtL
  rw [List.take_take, List.take_take, show min 10 (k + 1) = 10 by omega, show min 10 k = 10 by omega]
theorem rtL_all (l : List Nat) : allQ (rtL l) = true := by
  unfold allQ rtL
  rw [List.all_eq_true]
  intro x hx
  obtain ⟨y, _, rfl⟩ := List.mem_map.1 hx
  exact decide_eq_true (Nat.mod_lt _ QQ_pos)
theorem limb_high (m k : Nat) (hm : m < R256) (hk : 4 ≤ k) : limb m k = 0 := by
  unfold limb
  rw [Nat.div_eq_of_lt (Nat.lt_of_lt_of_le hm ?_), Nat.zero_mod]
  exact Nat.le_trans (show R256 ≤ M64 ^ 4 by decide) (Nat.pow_le_pow_right (by decide) hk)
theorem reduce4 (m : Nat) (hm : m < R256) (w : World) : Calls Tryd.prog 26 #[.agg #[.int .u64 (limb (QQ) 0 : Nat), .int .u64 (limb (QQ) 1 : Nat), .int .u64 (limb (QQ) 2 : Nat), .int .u64 (limb (QQ) 3 : Nat), .int .u64 (limb (R256 - (QQ)) 0 : Nat), .int .u64 (limb (R256 - (QQ)) 1 : Nat), .int .u64 (limb (R256 - (QQ)) 2 : Nat), .int .u64 (limb (R256 - (QQ)) 3 : Nat)], .agg #[.int .u64 (limb m 0 : Nat), .int .u64 (limb m 1 : Nat), .int .u64 (limb m 2 : Nat), .int .u64 (limb m 3 : Nat), .int .u64 0, .int .u64 0, .int .u64 0, .int .u64 0]] w fun e w' => e = .returned (.agg #[.int .u64 (limb (m % QQ) 0 : Nat), .int .u64 (limb (m % QQ) 1 : Nat), .int .u64 (limb (m % QQ) 2 : Nat), .int .u64 (limb (m % QQ) 3 : Nat)]) ∧ Below w.heap.size w w' := by
  have h := reduce2_any QQ m FM_Q FS_Q (Nat.lt_of_lt_of_le hm (by decide)) w
  rw [limb_high m 4 hm (by omega), limb_high m 5 hm (by omega), limb_high m 6 hm (by omega), limb_high m 7 hm (by omega)] at h
  exact h
set_option maxRecDepth 100000 in
set_option maxHeartbeats 8000000 in
theorem right_any (a : Option Addr) (l : List Nat) (c : Nat) (hl : l.length ≤ 4398046511104) (hR : ∀ n ∈ l, n < R256) (w : World) (hN : Nums w a l) :
    Calls Tryd.prog 24 #[.slice a l.length c] w fun e w' => ∃ a' n' cap', e = .returned (.slice a' n' cap') ∧ n' = (rtL l).length ∧ RowN w' w.heap.size a' (rtL l) cap' ∧ Below w.heap.size w w' := by
  obtain ⟨n, hn⟩ : ∃ n, n = l.length := ⟨_, rfl⟩
  obtain ⟨q, hq⟩ : ∃ q, q = QQ := ⟨_, rfl⟩
  have KS : Hid (∀ w, Calls Tryd.prog 25 #[] w fun e w' => e = .returned (.agg #[.int .u64 (limb (q) 0 : Nat), .int .u64 (limb (q) 1 : Nat), .int .u64 (limb (q) 2 : Nat), .int .u64 (limb (q) 3 : Nat), .int .u64 (limb (R256 - (q)) 0 : Nat), .int .u64 (limb (R256 - (q)) 1 : Nat), .int .u64 (limb (R256 - (q)) 2 : Nat), .int .u64 (limb (R256 - (q)) 3 : Nat)]) ∧ Below w.heap.size w w') := fun w => by rw [hq]; exact scalars2_any w
  rw [← hn]
  have HL : Hid (n = l.length ∧ Nums w a l ∧ (∀ n ∈ l, n < R256) ∧ q = QQ) := ⟨hn, hN, hR, hq⟩
  have n43 : (n : Int) ≤ 4398046511104 := by omega
  clear hn hl hN hR hq
  go_enter Tryd.func24, Tryd.ntmps24
  go_wp2_with fail
  rename_i Kr hKr
  have HKr : Hid _ := hKr
  clear hKr
  go_loopw [3, 8] (fun ov iv wr => ∃ k m cap : Nat, ∃ a' : Option Addr, k ≤ n ∧ iv = .int .i64 (k : Nat) ∧ ov = .slice a' m cap ∧ m = (rtL (l.take k)).length ∧ RowN wr w.heap.size a' (rtL (l.take k)) cap ∧ Below w.heap.size w wr) (fun _ iv _ => n - (Go.RowKit.intOf iv).toNat)
  case atStart => exact ⟨0, 0, 0, none, Nat.zero_le _, rfl, rfl, rfl, RowN.nil _ _, Below.refl _ _⟩
  case round =>
    obtain ⟨k, m, cap, a', hk, rfl, rfl, hm, hRow, hB⟩ := hrel
    rename World => wr
    have HR : Hid (m = (rtL (l.take k)).length ∧ RowN wr w.heap.size a' (rtL (l.take k)) cap ∧ Below w.heap.size w wr) := ⟨hm, hRow, hB⟩
    clear hm hRow hB
    by_cases hlt : k < n
    · clear HKr
      have hkl : k < l.length := by rw [← HL.out.1]; exact hlt
      have hlt' : (k : Int) < (n : Int) := Int.ofNat_lt.2 hlt
      obtain ⟨p, o, rfl, ⟨c0, c1, c2, c3⟩, pz⟩ := (HL.out.2.1.call HR.out.2.2).get hkl
      obtain ⟨y, hy⟩ : ∃ y, y = (l[k]'hkl) := ⟨_, rfl⟩
      rw [← hy] at c0 c1 c2 c3
      by_cases h10 : k < 10
      · have h10' : (k : Int) < 10 := by omega
        have d10 : decide ((k : Int) < 10) = true := decide_eq_true h10'
        obtain ⟨r, hr⟩ : ∃ r, r = y % QQ := ⟨_, rfl⟩
        have KD : Hid (∀ w, Calls Tryd.prog 26 #[.agg #[.int .u64 (limb (q) 0 : Nat), .int .u64 (limb (q) 1 : Nat), .int .u64 (limb (q) 2 : Nat), .int .u64 (limb (q) 3 : Nat), .int .u64 (limb (R256 - (q)) 0 : Nat), .int .u64 (limb (R256 - (q)) 1 : Nat), .int .u64 (limb (R256 - (q)) 2 : Nat), .int .u64 (limb (R256 - (q)) 3 : Nat)], .agg #[.int .u64 (limb y 0 : Nat), .int .u64 (limb y 1 : Nat), .int .u64 (limb y 2 : Nat), .int .u64 (limb y 3 : Nat), .int .u64 0, .int .u64 0, .int .u64 0, .int .u64 0]] w fun e w' => e = .returned (.agg #[.int .u64 (limb (r) 0 : Nat), .int .u64 (limb (r) 1 : Nat), .int .u64 (limb (r) 2 : Nat), .int .u64 (limb (r) 3 : Nat)]) ∧ Below w.heap.size w w') := fun w => by rw [HL.out.2.2.2, hr]; exact reduce4 y (by rw [hy]; exact HL.out.2.2.1 _ (List.getElem_mem hkl)) w
        have HV : Hid (rtL (l.take (k + 1)) = rtL (l.take k) ++ [r]) := by rw [rtL_step hkl h10, ← hy, hr]; rfl
        have HLN : Hid ((rtL (l.take k)).length ≤ 1000000) := Nat.le_trans (rtL_length _) (by decide)
        clear hy hr h10
        go_wp2_with fail
        obtain ⟨w8, hw8⟩ : ∃ z, z = wr.alloc (.cells #[.int .u64 (limb y 0 : Nat), .int .u64 (limb y 1 : Nat), .int .u64 (limb y 2 : Nat), .int .u64 (limb y 3 : Nat)] 25) := ⟨_, rfl⟩
        have H8 : Hid (Own4 w8 wr.heap.size y ∧ RowN w8 w.heap.size a' (rtL (l.take k)) cap ∧ Below w.heap.size w w8) := by
          rw [hw8]
          exact ⟨Own4.new _ _ _, HR.out.2.1.alloc, below_alloc0 HR.out.2.2 _⟩
        rw [← hw8]
        clear hw8 c0 c1 c2 c3 pz
        refine wp_region_N (fun w' => Below w8.heap.size w8 w') 11 15 rfl (by kernel_rfl) ?_
        refine wpAnyN_takeF (i := 0) (oi := ?o0) (v := ?v0) ?hi0 (by kernel_rfl) (by kernel_rfl) (by kernel_rfl) (by decide) ?hQ0 ?hy0 (Below.drew (Below.refl _ _)) ?more0
        case hi0 => rw [List.getElem?_toArray]; exact rfl
        case hQ0 => exact fun _ _ _ h => h
        case hy0 =>
          refine Or.inl ⟨by rfl, ?_⟩
          intro w' hSw
          clear hSw
          go_simp
          try with_reducible rfl
        simp only [Act.put, List.setIfInBounds_toArray, List.set_cons_zero, List.set_cons_succ]
        refine wpAnyN_takeL (i := 2) (oi := ?o2) (v := ?v2) [3, 10, 11] ?hi2 (by kernel_rfl) (by kernel_rfl) (by kernel_rfl) (by kernel_rfl) (by decide) (by decide) (by kernel_rfl) ?hQ2 ?hy2 (Below.drew (Below.refl _ _)) ?more2
        case hi2 => rw [List.getElem?_toArray]; exact rfl
        case hQ2 => exact fun _ _ _ h => h
        case hy2 =>
          refine Or.inl ⟨by rfl, ?_⟩
          intro w' hSw
          obtain ⟨⟨m0, m1, m2, m3⟩, _, mz⟩ := (H8.out.1.call hSw).facts
          clear hSw
          go_simp
          try with_reducible rfl
        simp only [Act.put, List.setIfInBounds_toArray, List.set_cons_zero, List.set_cons_succ]
        refine wpAnyN_takeL (i := 3) (oi := ?o3) (v := ?v3) [10, 11] ?hi3 (by kernel_rfl) (by kernel_rfl) (by kernel_rfl) (by kernel_rfl) (by decide) (by decide) (by kernel_rfl) ?hQ3 ?hy3 (Below.drew (Below.refl _ _)) ?more3
        case hi3 => rw [List.getElem?_toArray]; exact rfl
        case hQ3 => exact fun _ _ _ h => h
        case hy3 =>
          refine Or.inl ⟨by rfl, ?_⟩
          intro w' hSw
          obtain ⟨⟨m0, m1, m2, m3⟩, _, mz⟩ := (H8.out.1.call hSw).facts
          clear hSw
          go_simp
          try with_reducible rfl
        simp only [Act.put, List.setIfInBounds_toArray, List.set_cons_zero, List.set_cons_succ]
        refine wpAnyN_takeL (i := 4) (oi := ?o4) (v := ?v4) [5, 10, 11] ?hi4 (by kernel_rfl) (by kernel_rfl) (by kernel_rfl) (by kernel_rfl) (by decide) (by decide) (by kernel_rfl) ?hQ4 ?hy4 (Below.drew (Below.refl _ _)) ?more4
        case hi4 => rw [List.getElem?_toArray]; exact rfl
        case hQ4 => exact fun _ _ _ h => h
        case hy4 =>
          refine Or.inl ⟨by rfl, ?_⟩
          intro w' hSw
          obtain ⟨⟨m0, m1, m2, m3⟩, _, mz⟩ := (H8.out.1.call hSw).facts
          clear hSw
          go_simp
          try with_reducible rfl
        simp only [Act.put, List.setIfInBounds_toArray, List.set_cons_zero, List.set_cons_succ]
        refine wpAnyN_takeL (i := 5) (oi := ?o5) (v := ?v5) [10, 11] ?hi5 (by kernel_rfl) (by kernel_rfl) (by kernel_rfl) (by kernel_rfl) (by decide) (by decide) (by kernel_rfl) ?hQ5 ?hy5 (Below.drew (Below.refl _ _)) ?more5
        case hi5 => rw [List.getElem?_toArray]; exact rfl
        case hQ5 => exact fun _ _ _ h => h
        case hy5 =>
          refine Or.inl ⟨by rfl, ?_⟩
          intro w' hSw
          obtain ⟨⟨m0, m1, m2, m3⟩, _, mz⟩ := (H8.out.1.call hSw).facts
          clear hSw
          go_simp
          try with_reducible rfl
        simp only [Act.put, List.setIfInBounds_toArray, List.set_cons_zero, List.set_cons_succ]
        refine wpAnyN_takeL (i := 6) (oi := ?o6) (v := ?v6) [7, 10, 11] ?hi6 (by kernel_rfl) (by kernel_rfl) (by kernel_rfl) (by kernel_rfl) (by decide) (by decide) (by kernel_rfl) ?hQ6 ?hy6 (Below.drew (Below.refl _ _)) ?more6
        case hi6 => rw [List.getElem?_toArray]; exact rfl
        case hQ6 => exact fun _ _ _ h => h
        case hy6 =>
          refine Or.inl ⟨by rfl, ?_⟩
          intro w' hSw
          obtain ⟨⟨m0, m1, m2, m3⟩, _, mz⟩ := (H8.out.1.call hSw).facts
          clear hSw
          go_simp
          try with_reducible rfl
        simp only [Act.put, List.setIfInBounds_toArray, List.set_cons_zero, List.set_cons_succ]
        refine wpAnyN_takeL (i := 7) (oi := ?o7) (v := ?v7) [10, 11] ?hi7 (by kernel_rfl) (by kernel_rfl) (by kernel_rfl) (by kernel_rfl) (by decide) (by decide) (by kernel_rfl) ?hQ7 ?hy7 (Below.drew (Below.refl _ _)) ?more7
        case hi7 => rw [List.getElem?_toArray]; exact rfl
        case hQ7 => exact fun _ _ _ h => h
        case hy7 =>
          refine Or.inl ⟨by rfl, ?_⟩
          intro w' hSw
          obtain ⟨⟨m0, m1, m2, m3⟩, _, mz⟩ := (H8.out.1.call hSw).facts
          clear hSw
          go_simp
          try with_reducible rfl
        simp only [Act.put, List.setIfInBounds_toArray, List.set_cons_zero, List.set_cons_succ]
        refine wpAnyN_takeL (i := 8) (oi := ?o8) (v := ?v8) [9, 10, 11] ?hi8 (by kernel_rfl) (by kernel_rfl) (by kernel_rfl) (by kernel_rfl) (by decide) (by decide) (by kernel_rfl) ?hQ8 ?hy8 (Below.drew (Below.refl _ _)) ?more8
        case hi8 => rw [List.getElem?_toArray]; exact rfl
        case hQ8 => exact fun _ _ _ h => h
        case hy8 =>
          refine Or.inl ⟨by rfl, ?_⟩
          intro w' hSw
          obtain ⟨⟨m0, m1, m2, m3⟩, _, mz⟩ := (H8.out.1.call hSw).facts
          clear hSw
          go_simp
          try with_reducible rfl
        simp only [Act.put, List.setIfInBounds_toArray, List.set_cons_zero, List.set_cons_succ]
        refine wpAnyN_takeL (i := 9) (oi := ?o9) (v := ?v9) [10, 11] ?hi9 (by kernel_rfl) (by kernel_rfl) (by kernel_rfl) (by kernel_rfl) (by decide) (by decide) (by kernel_rfl) ?hQ9 ?hy9 (Below.drew (Below.refl _ _)) ?more9
        case hi9 => rw [List.getElem?_toArray]; exact rfl
        case hQ9 => exact fun _ _ _ h => h
        case hy9 =>
          refine Or.inl ⟨by rfl, ?_⟩
          intro w' hSw
          obtain ⟨⟨m0, m1, m2, m3⟩, _, mz⟩ := (H8.out.1.call hSw).facts
          clear hSw
          go_simp
          try with_reducible rfl
        simp only [Act.put, List.setIfInBounds_toArray, List.set_cons_zero, List.set_cons_succ]
        refine wpAnyN_take (i := 10) (oi := ?o10) (v := ?v10) ?hi10 (by kernel_rfl) (by kernel_rfl) (by kernel_rfl) (by kernel_rfl) (by decide) (by kernel_rfl) ?hQ10 ?hy10 (Below.drew (Below.refl _ _)) ?more10
        case hi10 => rw [List.getElem?_toArray]; exact rfl
        case hQ10 => exact fun _ _ _ h => h
        case hy10 =>
          refine Or.inl ⟨by rfl, ?_⟩
          intro w' hSw
          obtain ⟨⟨m0, m1, m2, m3⟩, _, mz⟩ := (H8.out.1.call hSw).facts
          clear hSw
          go_simp
          try with_reducible rfl
        simp only [Act.put, List.setIfInBounds_toArray, List.set_cons_zero, List.set_cons_succ]
        refine wpAnyN_one (i := 1) (o := ?o1) (by kernel_rfl) ?hi1 ?hw1 ?st1
        case hi1 => rw [List.getElem?_toArray]; exact rfl
        case hw1 => exact rfl
        intro K hK
        have HK1 : Hid _ := hK
        clear hK
        go_simp
        refine (KS.out _).mono ?_
        rintro e w6 ⟨rfl, hq⟩
        have H6 : Hid (Below w8.heap.size w8 w6) := below_call0 (Below.drew (Below.refl _ _)) hq
        clear hq
        go_wp2_with fail
        refine HK1.out _ _ ⟨fun _ => H6.out, ?_⟩
        clear HK1 K
        try simp only [Act.put, List.setIfInBounds_toArray, List.set_cons_zero, List.set_cons_succ]
        refine wpAnyN_one (i := 11) (o := ?o11) (by kernel_rfl) ?hi11 ?hw11 ?st11
        case hi11 => rw [List.getElem?_toArray]; exact rfl
        case hw11 => exact rfl
        intro K hK
        have HK11 : Hid _ := hK
        clear hK
        go_simp
        refine (KD.out _).mono ?_
        rintro e w7 ⟨rfl, hq⟩
        have H7 : Hid (Below w8.heap.size w8 w7) := below_call0 H6.out hq
        clear hq
        go_wp2_with fail
        refine HK11.out _ _ ⟨fun _ => H7.out, ?_⟩
        clear HK11 K
        try simp only [Act.put, List.setIfInBounds_toArray, List.set_cons_zero, List.set_cons_succ]
        refine wpAnyN_one (i := 12) (o := ?o12) (by kernel_rfl) ?hi12 ?hw12 ?st12
        case hi12 => rw [List.getElem?_toArray]; exact rfl
        case hw12 => exact rfl
        intro K hK
        have HK12 : Hid _ := hK
        clear hK
        go_simp
        refine HK12.out _ _ ⟨fun h => absurd h (by decide +kernel), ?_⟩
        clear HK12 K
        try simp only [Act.put, List.setIfInBounds_toArray, List.set_cons_zero, List.set_cons_succ]
        refine wpAnyN_one (i := 13) (o := ?o13) (by kernel_rfl) ?hi13 ?hw13 ?st13
        case hi13 => rw [List.getElem?_toArray]; exact rfl
        case hw13 => exact rfl
        intro K hK
        have HK13 : Hid _ := hK
        clear hK
        have HA : Hid (RowN (w7.alloc (.cells #[.int .u64 (limb r 0 : Nat), .int .u64 (limb r 1 : Nat), .int .u64 (limb r 2 : Nat), .int .u64 (limb r 3 : Nat)] 25)) w.heap.size a' (rtL (l.take k)) cap ∧ Num4 (w7.alloc (.cells #[.int .u64 (limb r 0 : Nat), .int .u64 (limb r 1 : Nat), .int .u64 (limb r 2 : Nat), .int .u64 (limb r 3 : Nat)] 25)) w7.heap.size r ∧ Below w.heap.size w (w7.alloc (.cells #[.int .u64 (limb r 0 : Nat), .int .u64 (limb r 1 : Nat), .int .u64 (limb r 2 : Nat), .int .u64 (limb r 3 : Nat)] 25))) := ⟨(H8.out.2.1.call H7.out).alloc, Num4.new _ _ _, below_alloc0 (below_call0 H8.out.2.2 H7.out) _⟩
        refine owp_append_RowN _ (.tmp 15) (.tmp 27) rfl w.heap.size a' m cap (rtL (l.take k)) r rfl HR.out.1 HA.out.1 HA.out.2.2.size HLN.out w7.heap.size 1 rfl HA.out.2.1 ?_
        intro a5 m5 cap5 w5 hm5 hR5 hb5
        have H5 : Hid (m5 = m + 1 ∧ RowN w5 w.heap.size a5 (rtL (l.take k) ++ [r]) cap5 ∧ Below w.heap.size w w5) := ⟨hm5, hR5, HA.out.2.2.trans hb5⟩
        clear hm5 hR5 hb5
        refine HK13.out _ _ ⟨fun h => absurd h (by decide +kernel), ?_⟩
        clear HK13 K
        try simp only [Act.put, List.setIfInBounds_toArray, List.set_cons_zero, List.set_cons_succ]
        refine wpAnyN_one (i := 14) (o := ?o14) (by kernel_rfl) ?hi14 ?hw14 ?st14
        case hi14 => rw [List.getElem?_toArray]; exact rfl
        case hw14 => exact rfl
        intro K hK
        have HK14 : Hid _ := hK
        clear hK
        go_simp
        refine HK14.out _ _ ⟨fun h => absurd h (by decide +kernel), ?_⟩
        clear HK14 K
        try simp only [Act.put, List.setIfInBounds_toArray, List.set_cons_zero, List.set_cons_succ]
        refine wpAnyN_done (by kernel_rfl) ?_ _
        have HG : Hid (m5 = (rtL (l.take (k + 1))).length ∧ RowN w5 w.heap.size a5 (rtL (l.take (k + 1))) cap5 ∧ Below w.heap.size w w5) := by
          rw [HV.out]
          exact ⟨by rw [H5.out.1, HR.out.1, List.length_append]; rfl, H5.out.2⟩
        go_wp2_with fail
        go_roundw
        case rel => first | exact ⟨k + 1, m5, cap5, a5, hlt, by go_num, rfl, HG.out⟩ | ((repeat apply Exists.intro); exact ⟨⟨k + 1, m5, cap5, a5, hlt, by go_num, rfl, HG.out⟩, rfl⟩)
        case measure => simp [intOf]; omega
      · have h10' : ¬ ((k : Int) < 10) := by omega
        have d10 : decide ((k : Int) < 10) = false := decide_eq_false h10'
        have HG : Hid (m = (rtL (l.take (k + 1))).length ∧ RowN (wr.alloc (.cells #[.int .u64 (limb y 0 : Nat), .int .u64 (limb y 1 : Nat), .int .u64 (limb y 2 : Nat), .int .u64 (limb y 3 : Nat)] 25)) w.heap.size a' (rtL (l.take (k + 1))) cap ∧ Below w.heap.size w (wr.alloc (.cells #[.int .u64 (limb y 0 : Nat), .int .u64 (limb y 1 : Nat), .int .u64 (limb y 2 : Nat), .int .u64 (limb y 3 : Nat)] 25))) := by
          rw [rtL_same h10]
          exact ⟨HR.out.1, HR.out.2.1.alloc, below_alloc0 HR.out.2.2 _⟩
        clear hy h10
        go_wp2_with fail
        go_roundw
        case rel => first | exact ⟨k + 1, m, cap, a', hlt, by go_num, rfl, HG.out⟩ | ((repeat apply Exists.intro); exact ⟨⟨k + 1, m, cap, a', hlt, by go_num, rfl, HG.out⟩, rfl⟩)
        case measure => simp [intOf]; omega
    · obtain rfl : k = n := by omega
      have hnl : ¬ ((k : Int) < (k : Int)) := Int.lt_irrefl _
      have HF : Hid (m = (rtL l).length ∧ RowN wr w.heap.size a' (rtL l) cap) := by
        have e1 : l.take k = l := List.take_of_length_le (by rw [← HL.out.1]; exact Nat.le_refl _)
        have h := HR.out
        rw [e1] at h
        exact ⟨h.1, h.2.1⟩
      clear hlt hk
      go_wp2_with fail
      refine HKr.out _ _ ?_
      clear HKr
      go_wp2_with fail
      go_ret
      exact ⟨a', m, cap, rfl, HF.out.1, HF.out.2, HR.out.2.2⟩
end Go.Proofs.YtcdiehnkknmbeaaDoor
