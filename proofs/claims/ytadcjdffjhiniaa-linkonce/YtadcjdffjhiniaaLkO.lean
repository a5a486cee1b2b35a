/- The law LinkTakes: the walk. -/
import Derived.Test.YtadcjdffjhiniaaLkM
namespace Go.Proofs.Ytadcjdffjhiniaa
open Go Go.RowKit Go.Lib

theorem tkR_le (s : ByteArray) (l c : Nat) (hl : l ≤ 1099511627776) (hc : c ≤ 1099511627776) : (tkR s l c).2.2.2.1 ≤ 1099511627776 ∧ (tkR s l c).2.2.2.2 ≤ 1099511627776 := by
  unfold tkR
  split
  · exact ⟨hl, hc⟩
  · next l' n t h =>
    obtain ⟨-, -, -, -, h1, h2⟩ := rdF_inv h
    split
    · exact ⟨hl, hc⟩
    · split
      · split
        · exact ⟨h1, (by decide : 1 ≤ 1099511627776)⟩
        · exact ⟨h1, (by decide : 0 ≤ 1099511627776)⟩
      · split
        · next c => exact ⟨hl, by rw [← c]; exact h2⟩
        · exact ⟨hl, hc⟩
theorem TakerAt.new {W : World} {y : TypeId} : TakerAt (W.alloc (.cells #[.int .i64 0, .int .i64 0] y)) W.heap.size 0 0 := by
  refine ⟨?_, ?_, fun o => ?_, ?_⟩ <;> simp [go_sem]
theorem TakerAt.keep {w w' : World} {T U l c : Nat} (h : TakerAt w U l c) (hb : But T (From w.heap.size) w w') (hT : T ≠ U) : TakerAt w' U l c :=
  h.off (Off.of_but hb) (fun q => q.elim (fun q => absurd h.2.2.2 (Nat.not_lt_of_le q)) (fun q => hT q.symm))
set_option maxRecDepth 100000 in
set_option maxHeartbeats 4000000 in
theorem linkTakes_any (a : Option Addr) (l : List ByteArray) (cap : Nat) (w : World) (hS : Strs w a l) (hz : ∀ s ∈ l, s.size < 140737488351233) :
    Calls Try.prog 4 #[.slice a l.length cap] w fun e w' => e = .returned (.bool true) ∧ Below w.heap.size w w' := by
  have K1 : Hid _ := fun w : World => newTaker_any w
  have K2 : Hid _ := fun w : World => ltwo_any w
  obtain ⟨n, hn⟩ : ∃ n, n = l.length := ⟨_, rfl⟩
  rw [← hn]
  by_cases h3 : 300 < n
  · have h3' : (300 : Int) < (n : Int) := by omega
    clear hn hS hz h3
    go_enter Try.func4, Try.ntmps4
    go_wp2_with fail
    refine (K1.out _).mono ?_
    rintro e w1 ⟨rfl, -, hb1, -⟩
    have H1 : Hid _ := hb1
    clear hb1 K1
    go_wp2_with fail
    refine (K2.out _).mono ?_
    rintro e w2 ⟨rfl, hb2⟩
    have H2 : Hid _ := below_call0 H1.out hb2
    clear hb2 K2
    go_wp2_with fail
    go_ret
    exact ⟨rfl, H2.out⟩
  · have h3' : ¬ ((300 : Int) < (n : Int)) := by omega
    have n3 : (n : Int) ≤ 300 := by omega
    have HS : Hid (Strs w a l ∧ (∀ s ∈ l, s.size < 140737488351233) ∧ n = l.length) := ⟨hS, hz, hn⟩
    clear hn hS hz h3
    go_enter Try.func4, Try.ntmps4
    go_wp2_with fail
    refine (K1.out _).mono ?_
    rintro e w1 ⟨rfl, hT1, hb1, hs1⟩
    have HS1 : Hid (w1.heap.size = w.heap.size + 1) := hs1
    clear hs1
    obtain ⟨U, hU⟩ : ∃ U, U = w1.heap.size := ⟨_, rfl⟩
    obtain ⟨w2, hw2⟩ : ∃ y, y = w1.alloc (.cells #[.int .i64 0, .int .i64 0] 46) := ⟨_, rfl⟩
    have H2 : Hid (TakerAt w2 w.heap.size 0 0 ∧ TakerAt w2 U 0 0 ∧ Below w.heap.size w w2 ∧ w.heap.size ≠ U ∧ w.heap.size ≤ w.heap.size ∧ w.heap.size ≤ U) := by
      rw [hw2, hU]
      exact ⟨hT1.call (below_alloc0 (Below.refl _ _) _), TakerAt.new, below_alloc0 hb1 _, by have := HS1.out; omega, Nat.le_refl _, by have := HS1.out; omega⟩
    go_wp2_with fail
    rename_i Kr hKr
    have HKr : Hid _ := hKr
    clear hKr K1
    rw [← hw2, ← hU]
    clear hT1 hb1 hw2 hU HS1
    go_loopw [33] (fun iv wr => ∃ k L C : Nat, k ≤ n ∧ iv = .int .i64 (k : Nat) ∧ L ≤ 1099511627776 ∧ C ≤ 1099511627776 ∧ TakerAt wr w.heap.size L C ∧ TakerAt wr U L C ∧ Below w.heap.size w wr) (fun iv _ => n - (Go.RowKit.intOf iv).toNat)
    case atStart => exact ⟨0, 0, 0, Nat.zero_le _, rfl, by decide, by decide, H2.out.1, H2.out.2.1, H2.out.2.2.1⟩
    case round =>
      obtain ⟨k, L, C, hk, rfl, hL, hC, hT, hU, hB⟩ := hrel
      rename World => wr
      have HR : Hid (TakerAt wr w.heap.size L C ∧ TakerAt wr U L C ∧ Below w.heap.size w wr) := ⟨hT, hU, hB⟩
      clear hT hU hB
      by_cases hlt : k < n
      · clear HKr K2
        have hlt' : (k : Int) < (n : Int) := Int.ofNat_lt.2 hlt
        have hkl : k < l.length := by rw [← HS.out.2.2]; exact hlt
        obtain ⟨f, hf⟩ : ∃ f, f = (l[k]'hkl) := ⟨_, rfl⟩
        obtain ⟨pb, po, rfl, hcl, hpb⟩ := HS.out.1.get hkl
        rw [← hf] at hcl
        have hcr : wr.cell? ⟨pb, po + k, none⟩ = some (.string f) := (HR.out.2.2.cell (p := ⟨pb, po + k, none⟩) hpb).trans hcl
        have fz : f.size < 140737488351233 := HS.out.2.1 f (by rw [hf]; exact List.getElem_mem hkl)
        obtain ⟨bL, bC⟩ := tkR_le f L C hL hC
        have K3 : Hid _ := fun (w' : World) (h : TakerAt w' w.heap.size L C) => take_any w.heap.size L C hC f fz w' h
        have K4 : Hid _ := fun (w : World) (h : TakerAt w U L C) => rtake_any U L C hC f fz w h
        unfold takePost at K3 K4
        obtain ⟨r, hr⟩ : ∃ r, r = tkR f L C := ⟨_, rfl⟩
        rw [← hr] at K3 K4 bL bC
        obtain ⟨tx, bo, er, L', C'⟩ := r
        have K5 : Hid _ := fun (w' : World) (h : TakerAt w' w.heap.size L' C') => came_taker w.heap.size L' C' w' h
        have K6 : Hid _ := fun (w' : World) (h : TakerAt w' w.heap.size L' C') => ack_any w.heap.size L' C' bL bC w' h
        have K7 : Hid _ := fun (w : World) => rack_any L' C' bL bC w
        have tb1 : (tx.toList == tx.toList) = true := by simp only [BEq.rfl]
        have BL : Hid (L' ≤ 1099511627776 ∧ C' ≤ 1099511627776) := ⟨bL, bC⟩
        clear hf hcl fz hr bL bC hL hC hkl
        by_cases h0 : L' = 0
        · subst h0
          have ea : akS 0 C' = ⟨#[]⟩ := rfl
          rw [ea] at K6
          have tb2 : ((⟨#[]⟩ : ByteArray).toList == (⟨#[]⟩ : ByteArray).toList) = true := by simp only [BEq.rfl]
          clear ea K7
          go_wp2_with fail
          refine (K3.out _ HR.out.1).mono ?_
          rintro e w4 ⟨rfl, hT4, hb4⟩
          have H4 : Hid (TakerAt w4 w.heap.size 0 C' ∧ TakerAt w4 U L C ∧ Below w.heap.size w w4) := ⟨hT4, HR.out.2.1.keep hb4 H2.out.2.2.2.1, HR.out.2.2.trans (hb4.under H2.out.2.2.2.2.1 (fun k hk => Nat.le_trans HR.out.2.2.size hk))⟩
          clear hT4 hb4 hcr
          go_wp2_with fail
          refine (K4.out _ H4.out.2.1).mono ?_
          rintro e w5 ⟨rfl, hT5, hb5⟩
          have H5 : Hid (TakerAt w5 w.heap.size 0 C' ∧ TakerAt w5 U 0 C' ∧ Below w.heap.size w w5) := ⟨H4.out.1.keep hb5 (Ne.symm H2.out.2.2.2.1), hT5, H4.out.2.2.trans (hb5.under H2.out.2.2.2.2.2 (fun k hk => Nat.le_trans H4.out.2.2.size hk))⟩
          clear hT5 hb5 H4
          go_wp2_with fail
          refine (K5.out _ H5.out.1).mono ?_
          rintro e w6 ⟨rfl, hb6⟩
          have H6 : Hid (TakerAt w6 w.heap.size 0 C' ∧ TakerAt w6 U 0 C' ∧ Below w.heap.size w w6) := ⟨H5.out.1.call hb6, H5.out.2.1.call hb6, below_call0 H5.out.2.2 hb6⟩
          clear hb6 H5
          obtain ⟨c0, c1, -, -⟩ := H6.out.2.1
          go_wp2_with fail
          refine (K6.out _ H6.out.1).mono ?_
          rintro e w7 ⟨rfl, hb7⟩
          have H7 : Hid (TakerAt w7 w.heap.size 0 C' ∧ TakerAt w7 U 0 C' ∧ Below w.heap.size w w7) := ⟨H6.out.1.call hb7, H6.out.2.1.call hb7, below_call0 H6.out.2.2 hb7⟩
          clear hb7 c0 c1
          go_wp2_with fail
          go_roundw
          case rel => first | exact ⟨k + 1, 0, C', hlt, by go_num, BL.out.1, BL.out.2, H7.out⟩ | ((repeat apply Exists.intro); exact ⟨⟨k + 1, 0, C', hlt, by go_num, BL.out.1, BL.out.2, H7.out⟩, rfl⟩)
          case measure => simp [Go.RowKit.intOf]; omega
        · have ea : akS L' C' = letS 2 L' C' [] := if_neg h0
          rw [ea] at K6
          obtain ⟨A, hA⟩ : ∃ A, A = letS 2 L' C' [] := ⟨_, rfl⟩
          rw [← hA] at K6 K7
          have tb2 : (A.toList == A.toList) = true := by simp only [BEq.rfl]
          have h0' : (0 : Int) < (L' : Int) := by omega
          clear ea hA h0
          go_wp2_with fail
          refine (K3.out _ HR.out.1).mono ?_
          rintro e w4 ⟨rfl, hT4, hb4⟩
          have H4 : Hid (TakerAt w4 w.heap.size L' C' ∧ TakerAt w4 U L C ∧ Below w.heap.size w w4) := ⟨hT4, HR.out.2.1.keep hb4 H2.out.2.2.2.1, HR.out.2.2.trans (hb4.under H2.out.2.2.2.2.1 (fun k hk => Nat.le_trans HR.out.2.2.size hk))⟩
          clear hT4 hb4 hcr
          go_wp2_with fail
          refine (K4.out _ H4.out.2.1).mono ?_
          rintro e w5 ⟨rfl, hT5, hb5⟩
          have H5 : Hid (TakerAt w5 w.heap.size L' C' ∧ TakerAt w5 U L' C' ∧ Below w.heap.size w w5) := ⟨H4.out.1.keep hb5 (Ne.symm H2.out.2.2.2.1), hT5, H4.out.2.2.trans (hb5.under H2.out.2.2.2.2.2 (fun k hk => Nat.le_trans H4.out.2.2.size hk))⟩
          clear hT5 hb5 H4
          go_wp2_with fail
          refine (K5.out _ H5.out.1).mono ?_
          rintro e w6 ⟨rfl, hb6⟩
          have H6 : Hid (TakerAt w6 w.heap.size L' C' ∧ TakerAt w6 U L' C' ∧ Below w.heap.size w w6) := ⟨H5.out.1.call hb6, H5.out.2.1.call hb6, below_call0 H5.out.2.2 hb6⟩
          clear hb6 H5
          obtain ⟨c0, c1, -, -⟩ := H6.out.2.1
          go_wp2_with fail
          clear c0 c1
          refine wp_region_N (fun w' => Below w6.heap.size w6 w') 9 10 rfl (by kernel_rfl) ?_
          refine wpAnyN_take (i := 0) (oi := ?o0) (v := ?v0) ?hi0 (by kernel_rfl) (by kernel_rfl) (by kernel_rfl) (by kernel_rfl) (by decide) (by kernel_rfl) ?hQ0 ?hy0 (Below.drew (Below.refl _ _)) ?more0
          case hi0 => rw [List.getElem?_toArray]; exact rfl
          case hQ0 => exact fun _ _ _ h => h
          case hy0 =>
            refine Or.inl ⟨by rfl, ?_⟩
            intro w' hSw
            obtain ⟨c0, c1, -, -⟩ := H6.out.2.1.call hSw
            clear hSw
            go_simp
            try with_reducible rfl
          simp only [Act.put, List.setIfInBounds_toArray, List.set_cons_zero, List.set_cons_succ]
          refine wpAnyN_take (i := 1) (oi := ?o1) (v := ?v1) ?hi1 (by kernel_rfl) (by kernel_rfl) (by kernel_rfl) (by kernel_rfl) (by decide) (by kernel_rfl) ?hQ1 ?hy1 (Below.drew (Below.refl _ _)) ?more1
          case hi1 => rw [List.getElem?_toArray]; exact rfl
          case hQ1 => exact fun _ _ _ h => h
          case hy1 =>
            refine Or.inl ⟨by rfl, ?_⟩
            intro w' hSw
            obtain ⟨c0, c1, -, -⟩ := H6.out.2.1.call hSw
            clear hSw
            go_simp
            try with_reducible rfl
          simp only [Act.put, List.setIfInBounds_toArray, List.set_cons_zero, List.set_cons_succ]
          refine wpAnyN_take (i := 2) (oi := ?o2) (v := ?v2) ?hi2 (by kernel_rfl) (by kernel_rfl) (by kernel_rfl) (by kernel_rfl) (by decide) (by kernel_rfl) ?hQ2 ?hy2 (Below.drew (Below.refl _ _)) ?more2
          case hi2 => rw [List.getElem?_toArray]; exact rfl
          case hQ2 => exact fun _ _ _ h => h
          case hy2 =>
            refine Or.inl ⟨by rfl, ?_⟩
            intro w' hSw
            obtain ⟨c0, c1, -, -⟩ := H6.out.2.1.call hSw
            clear hSw
            go_simp
            try with_reducible rfl
          simp only [Act.put, List.setIfInBounds_toArray, List.set_cons_zero, List.set_cons_succ]
          refine wpAnyN_take (i := 3) (oi := ?o3) (v := ?v3) ?hi3 (by kernel_rfl) (by kernel_rfl) (by kernel_rfl) (by kernel_rfl) (by decide) (by kernel_rfl) ?hQ3 ?hy3 (Below.drew (Below.refl _ _)) ?more3
          case hi3 => rw [List.getElem?_toArray]; exact rfl
          case hQ3 => exact fun _ _ _ h => h
          case hy3 =>
            refine Or.inl ⟨by rfl, ?_⟩
            intro w' hSw
            obtain ⟨c0, c1, -, -⟩ := H6.out.2.1.call hSw
            clear hSw
            go_simp
            try with_reducible rfl
          simp only [Act.put, List.setIfInBounds_toArray, List.set_cons_zero, List.set_cons_succ]
          refine wpAnyN_take (i := 4) (oi := ?o4) (v := ?v4) ?hi4 (by kernel_rfl) (by kernel_rfl) (by kernel_rfl) (by kernel_rfl) (by decide) (by kernel_rfl) ?hQ4 ?hy4 (Below.drew (Below.refl _ _)) ?more4
          case hi4 => rw [List.getElem?_toArray]; exact rfl
          case hQ4 => exact fun _ _ _ h => h
          case hy4 =>
            refine Or.inl ⟨by rfl, ?_⟩
            intro w' hSw
            obtain ⟨c0, c1, -, -⟩ := H6.out.2.1.call hSw
            clear hSw
            go_simp
            try with_reducible rfl
          simp only [Act.put, List.setIfInBounds_toArray, List.set_cons_zero, List.set_cons_succ]
          refine wpAnyN_take (i := 5) (oi := ?o5) (v := ?v5) ?hi5 (by kernel_rfl) (by kernel_rfl) (by kernel_rfl) (by kernel_rfl) (by decide) (by kernel_rfl) ?hQ5 ?hy5 (Below.drew (Below.refl _ _)) ?more5
          case hi5 => rw [List.getElem?_toArray]; exact rfl
          case hQ5 => exact fun _ _ _ h => h
          case hy5 =>
            refine Or.inl ⟨by rfl, ?_⟩
            intro w' hSw
            obtain ⟨c0, c1, -, -⟩ := H6.out.2.1.call hSw
            clear hSw
            go_simp
            try with_reducible rfl
          simp only [Act.put, List.setIfInBounds_toArray, List.set_cons_zero, List.set_cons_succ]
          refine wpAnyN_take (i := 6) (oi := ?o6) (v := ?v6) ?hi6 (by kernel_rfl) (by kernel_rfl) (by kernel_rfl) (by kernel_rfl) (by decide) (by kernel_rfl) ?hQ6 ?hy6 (Below.drew (Below.refl _ _)) ?more6
          case hi6 => rw [List.getElem?_toArray]; exact rfl
          case hQ6 => exact fun _ _ _ h => h
          case hy6 =>
            refine Or.inl ⟨by rfl, ?_⟩
            intro w' hSw
            obtain ⟨c0, c1, -, -⟩ := H6.out.2.1.call hSw
            clear hSw
            go_simp
            try with_reducible rfl
          simp only [Act.put, List.setIfInBounds_toArray, List.set_cons_zero, List.set_cons_succ]
          refine wpAnyN_take (i := 7) (oi := ?o7) (v := ?v7) ?hi7 (by kernel_rfl) (by kernel_rfl) (by kernel_rfl) (by kernel_rfl) (by decide) (by kernel_rfl) ?hQ7 ?hy7 (Below.drew (Below.refl _ _)) ?more7
          case hi7 => rw [List.getElem?_toArray]; exact rfl
          case hQ7 => exact fun _ _ _ h => h
          case hy7 =>
            refine Or.inl ⟨by rfl, ?_⟩
            intro w' hSw
            obtain ⟨c0, c1, -, -⟩ := H6.out.2.1.call hSw
            clear hSw
            go_simp
            try with_reducible rfl
          simp only [Act.put, List.setIfInBounds_toArray, List.set_cons_zero, List.set_cons_succ]
          refine wpAnyN_one (i := 8) (o := ?o8) (by kernel_rfl) ?hi8 ?hw8 ?st8
          case hi8 => rw [List.getElem?_toArray]; exact rfl
          case hw8 => exact rfl
          intro K hK
          have HK8 : Hid _ := hK
          clear hK
          go_simp
          refine (K7.out _).mono ?_
          rintro e w8 ⟨rfl, hq⟩
          have H8 : Hid (Below w6.heap.size w6 w8) := below_call0 (Below.drew (Below.refl _ _)) hq
          clear hq
          go_wp2_with fail
          refine HK8.out _ _ ⟨fun _ => H8.out, ?_⟩
          clear HK8 K
          try simp only [Act.put, List.setIfInBounds_toArray, List.set_cons_zero, List.set_cons_succ]
          refine wpAnyN_one (i := 9) (o := ?o9) (by kernel_rfl) ?hi9 ?hw9 ?st9
          case hi9 => rw [List.getElem?_toArray]; exact rfl
          case hw9 => exact rfl
          intro K hK
          have HK9 : Hid _ := hK
          clear hK
          go_simp
          refine HK9.out _ _ ⟨fun h => absurd h (by decide +kernel), ?_⟩
          clear HK9 K
          try simp only [Act.put, List.setIfInBounds_toArray, List.set_cons_zero, List.set_cons_succ]
          refine wpAnyN_done (by kernel_rfl) ?_ _
          obtain ⟨c0, c1, -, -⟩ := H6.out.2.1.call H8.out
          go_wp2_with fail
          refine (K6.out _ (H6.out.1.call H8.out)).mono ?_
          rintro e w7 ⟨rfl, hb7⟩
          have H7 : Hid (TakerAt w7 w.heap.size L' C' ∧ TakerAt w7 U L' C' ∧ Below w.heap.size w w7) := ⟨(H6.out.1.call H8.out).call hb7, (H6.out.2.1.call H8.out).call hb7, below_call0 (below_call0 H6.out.2.2 H8.out) hb7⟩
          clear hb7 c0 c1
          go_wp2_with fail
          go_roundw
          case rel => first | exact ⟨k + 1, L', C', hlt, by go_num, BL.out.1, BL.out.2, H7.out⟩ | ((repeat apply Exists.intro); exact ⟨⟨k + 1, L', C', hlt, by go_num, BL.out.1, BL.out.2, H7.out⟩, rfl⟩)
          case measure => simp [Go.RowKit.intOf]; omega
      · obtain rfl : k = n := by omega
        have hnl : ¬ ((k : Int) < (k : Int)) := Int.lt_irrefl _
        clear hlt hk
        go_wp2_with fail
        refine HKr.out _ _ ?_
        clear HKr
        go_wp2_with fail
        refine (K2.out _).mono ?_
        rintro e w3 ⟨rfl, hb3⟩
        have H3 : Hid (Below w.heap.size w w3) := below_call0 HR.out.2.2 hb3
        clear hb3 K2
        go_wp2_with fail
        go_ret
        exact ⟨rfl, H3.out⟩
end Go.Proofs.Ytadcjdffjhiniaa
