/- The law AgendaSteps. -/
import Derived.Test.YtkgfeiigdhbddaaAgH5
namespace Go.Proofs.Ytkgfeiigdhbddaa
open Go Go.RowKit Go.Lib
theorem StepsA.callS {w w' : World} {a : Option Addr} {n B : Nat} (h : StepsA w a n) (hB : B = w.heap.size) (hb : Below B w w') : StepsA w' a n := fun j hj => by
  obtain ⟨b, o, X, N, M, s, h1, h2, h3, h4, h5, h6, h7, h8⟩ := h j hj
  subst hB
  exact ⟨b, o, X, N, M, s, h1, (hb.cell (p := ⟨b, _, none⟩) h7).trans h2, (hb.cell (p := ⟨b, _, none⟩) h7).trans h3, (hb.cell (p := ⟨b, _, none⟩) h7).trans h4, (hb.cell (p := ⟨b, _, none⟩) h7).trans h5, h6, Nat.lt_of_lt_of_le h7 hb.size, h8⟩
theorem belowD (w : World) : Below w.heap.size w w.drew := ⟨rfl, rfl, rfl, Nat.le_refl _, fun _ _ => rfl⟩
theorem neq_zero (w : World) : Sem.run Try.prog (binOp .neq 34 (.agg #[.int .i64 0, .int .i64 0, .string ⟨#[]⟩]) (.agg #[.int .i64 0, .int .i64 0, .string ⟨#[]⟩])) w = .ok (.bool false) w := by kernel_rfl
theorem BothB.drewN {w0 w : World} {B g r b n : Nat} (h : BothB w0 w B g r b) : BothB w0 (w.drewN n) B g r b := h.call ⟨rfl, rfl, rfl, Nat.le_refl _, fun _ _ => rfl⟩
theorem BothB.drew {w0 w : World} {B g r b : Nat} (h : BothB w0 w B g r b) : BothB w0 w.drew B g r b := h.call ⟨rfl, rfl, rfl, Nat.le_refl _, fun _ _ => rfl⟩
set_option maxRecDepth 100000 in
set_option maxHeartbeats 1000000 in
theorem agendaSteps_no (a : Option Addr) (n cap : Nat) (w : World) (h : 700 < n) : Calls Try.prog 3 #[.slice a n cap] w fun e w' => e = .returned (.bool true) ∧ Below w.heap.size w w' := by
  have d1 : (700 : Int) < (n : Nat) := by omega
  clear h
  go_enter Try.func3, Try.ntmps3
  go_wp2_with fail
  refine (anew_in (From w.heap.size) w (fun k hk => hk)).mono ?_
  rintro e w1 ⟨rfl, hA1, hb1⟩
  have H1 : Hid (Below w.heap.size w w1) := hb1
  clear hA1 hb1
  go_wp2_with fail
  refine (three_any _).mono ?_
  rintro e w2 ⟨rfl, hb2⟩
  have H2 : Hid (Below w.heap.size w w2) := below_call0 H1.out hb2
  clear hb2
  go_wp2_with fail
  go_ret
  exact ⟨rfl, H2.out⟩
set_option maxRecDepth 100000 in
set_option maxHeartbeats 4000000 in
theorem agendaSteps_ok (a : Option Addr) (n cap : Nat) (hn : n ≤ 700) (w : World) (hS : StepsA w a n) : Calls Try.prog 3 #[.slice a n cap] w fun e w' => e = .returned (.bool true) ∧ Below w.heap.size w w' := by
  have HS : Hid (StepsA w a n ∧ n ≤ 700) := ⟨hS, hn⟩
  have d1 : ¬ ((700 : Int) < (n : Nat)) := by omega
  have n2 : (n : Int) ≤ 700 := by omega
  obtain ⟨g, hg⟩ : ∃ g, g = w.heap.size := ⟨_, rfl⟩
  have HG : Hid (g = w.heap.size) := hg
  clear hS hn
  go_enter Try.func3, Try.ntmps3
  go_wp2_with fail
  refine (anew_in (From g) w (fun k hk => by show g ≤ k; rw [HG.out]; exact hk)).mono ?_
  rintro e w1 ⟨rfl, hA1, hb1⟩
  rw [← hg] at hA1 hb1 ⊢
  have HA1 : Hid (AgZ w1 (From g) g 0 [] ∧ Below g w w1) := ⟨hA1, hb1⟩
  clear hg hA1 hb1
  go_wp2_with fail
  rename_i Kr hKr
  have HKr : Hid _ := hKr
  clear hKr
  have hbr : Below w1.heap.size w1 (w1.alloc (.cells #[.slice none 0 0, .int .i64 0] 29)) := below_alloc0 (Below.refl _ _) _
  have hzr : (w1.alloc (.cells #[.slice none 0 0, .int .i64 0] 29)).heap.size = w1.heap.size + 1 := by simp
  have r0 : (w1.alloc (.cells #[.slice none 0 0, .int .i64 0] 29)).cell? ⟨w1.heap.size, 0, none⟩ = some (.slice none 0 0) := by rw [World.cell?_alloc_new]; rfl
  have r1 : (w1.alloc (.cells #[.slice none 0 0, .int .i64 0] 29)).cell? ⟨w1.heap.size, 1, none⟩ = some (.int .i64 0) := by rw [World.cell?_alloc_new]; rfl
  obtain ⟨hA1, hb1⟩ := HA1.out
  have hgw : g ≤ w1.heap.size := Nat.le_trans (Nat.le_of_eq HG.out) hb1.size
  have H1 : Hid (BothB w (w1.alloc (.cells #[.slice none 0 0, .int .i64 0] 29)) g g w1.heap.size 0) := by
    refine ⟨fun k => g ≤ k ∧ k < w1.heap.size, fun k => k = w1.heap.size, 0, [], Nat.le_refl _, ⟨(hA1.mono (fun k hk hz => ⟨hz, hk⟩)).call hbr, ⟨rfl, by rw [hzr]; exact Nat.lt_succ_self _, fun o => World.frozen?_alloc_new _ _ _ _, ⟨none, 0, r0, ⟨Nat.le_refl _, fun _ => rfl, fun b hb => by cases hb⟩, EnsAt.nil _ _ _⟩, r1⟩, fun k hk c => ?_, fun k hk => ?_, fun k hk => ?_⟩, fun k hk => hk.1, fun k hk => ?_, Nat.le_trans hgw hbr.size, hb1.trans (hbr.mono hgw)⟩
    · have := hk.2; omega
    · have := hk.2; rw [hzr]; omega
    · rw [hzr]; omega
    · show g ≤ k; omega
  obtain ⟨r, hr⟩ : ∃ r, r = w1.heap.size := ⟨_, rfl⟩
  rw [← hr] at H1 ⊢
  clear hA1 hb1 hbr hzr r0 r1 hgw hr HA1
  go_loopw [26] (fun iv wr => ∃ k : Nat, k ≤ n ∧ iv = .int .i64 (k : Nat) ∧ BothB w wr g g r k) (fun iv _ => n - (Go.RowKit.intOf iv).toNat)
  case atStart => exact ⟨0, Nat.zero_le _, rfl, H1.out⟩
  case round =>
    obtain ⟨k, hk, rfl, hB⟩ := hrel
    rename World => wr
    have HR : Hid (BothB w wr g g r k) := hB
    have hbl : Below g w wr := by obtain ⟨_, _, _, _, _, _, _, _, _, h⟩ := hB; exact h
    by_cases hlt : k < n
    · obtain ⟨b, o, X, N, M, s, ha, c0, c1, c2, c3, hs, hbz, hN, hM⟩ := (HS.out.1.callS HG.out hbl) k hlt
      subst ha
      have HX : Hid (s.size < 140737488351233 ∧ M ≤ 9223372036854775807 ∧ k < n ∧ k < 100000) := ⟨hs, hM.2, hlt, by have := HS.out.2; omega⟩
      have i1 : (k : Int) < (n : Int) := by omega
      clear HKr hk hB hbl hlt hs hbz hN hM H1
      go_wp2_with fail
      have hD := does_in w g g r k X N M s (wr.alloc (.cells #[.int .i64 X, .int .i64 N, .int .i64 M, .string s] 31)) (HR.out.call (below_alloc0 (Below.refl _ _) _)) HX.out.2.2.2 HX.out.1 HX.out.2.1
      refine hD.mono ?_
      clear hD
      rintro e w3 ⟨rfl, h3⟩
      have H3 : Hid (BothB w w3 g g r (k + 1)) := h3
      obtain ⟨S, R, l, L, hl, hBo, hSS, hRR, hz3, hbl3⟩ := h3
      have HO : Hid (Both w3 S R g r l L) := hBo
      have l5 := hBo.ag.len5
      clear hl hBo hSS hRR hz3 hbl3 c0 c1 c2 c3
      cases L with
      | nil =>
        go_wp2_with fail
        refine (afirst_nil g l S w3 HO.out.ag).mono ?_
        rintro e w4 ⟨rfl, hb4⟩
        have H4 : Hid (BothB w w4 g g r (k + 1) ∧ Both w4 S R g r l []) := ⟨H3.out.call hb4, HO.out.call hb4⟩
        clear hb4
        unfold enG
        go_wp2_with fail
        have hbA : Below w4.heap.size w4 (w4.alloc (.cells #[.int .i64 (zeroE.t : Nat), .int .i64 (zeroE.m : Nat), .string zeroE.s] 34)) := below_alloc0 (Below.refl _ _) _
        have H5 : Hid (BothB w (w4.alloc (.cells #[.int .i64 (zeroE.t : Nat), .int .i64 (zeroE.m : Nat), .string zeroE.s] 34)) g g r (k + 1) ∧ Both (w4.alloc (.cells #[.int .i64 (zeroE.t : Nat), .int .i64 (zeroE.m : Nat), .string zeroE.s] 34)) S R g r l []) := ⟨H4.out.1.call hbA, H4.out.2.call hbA⟩
        have y0 : (w4.alloc (.cells #[.int .i64 (zeroE.t : Nat), .int .i64 (zeroE.m : Nat), .string zeroE.s] 34)).cell? ⟨w4.heap.size, 0, none⟩ = some (.int .i64 0) := by rw [World.cell?_alloc_new]; rfl
        have y1 : (w4.alloc (.cells #[.int .i64 (zeroE.t : Nat), .int .i64 (zeroE.m : Nat), .string zeroE.s] 34)).cell? ⟨w4.heap.size, 1, none⟩ = some (.int .i64 0) := by rw [World.cell?_alloc_new]; rfl
        have y2 : (w4.alloc (.cells #[.int .i64 (zeroE.t : Nat), .int .i64 (zeroE.m : Nat), .string zeroE.s] 34)).cell? ⟨w4.heap.size, 2, none⟩ = some (.string ⟨#[]⟩) := by rw [World.cell?_alloc_new]; rfl
        obtain ⟨a0, cap0, hr0, _, _⟩ := H5.out.2.rf.c0
        have hr0' : (w4.alloc (.cells #[.int .i64 (zeroE.t : Nat), .int .i64 (zeroE.m : Nat), .string zeroE.s] 34)).cell? ⟨r, 0, none⟩ = some (.slice a0 0 cap0) := hr0
        have hqz := neq_zero
        clear hbA hr0
        generalize w4.alloc (.cells #[.int .i64 (zeroE.t : Nat), .int .i64 (zeroE.m : Nat), .string zeroE.s] 34) = V at *
        have hrV : r < V.heap.size := H5.out.2.rf.rl
        refine wp_region_H (fun w' => Below V.heap.size V w') 18 rfl (by kernel_rfl) ?_
        refine wpAnyH_take (i := 0) (oi := ?o0n) (v := ?v0n) ?hi0n (by kernel_rfl) (by kernel_rfl) (by kernel_rfl) ?hQ0n ?hy0n (belowD V) ?more0n
        case hi0n => rw [List.getElem?_toArray]; exact rfl
        case hQ0n => exact fun _ _ _ h => h
        case hy0n =>
          refine Or.inl ⟨by rfl, ?_⟩
          intro w' hSw
          have c0' := (hSw.cell (p := ⟨r, 0, none⟩) hrV).trans hr0'
          clear hSw
          go_simp
          try with_reducible rfl
        simp only [Act.put, List.setIfInBounds_toArray, List.set_cons_zero, List.set_cons_succ]
        refine wpAnyH_take (i := 1) (oi := ?o1n) (v := ?v1n) ?hi1n (by kernel_rfl) (by kernel_rfl) (by kernel_rfl) ?hQ1n ?hy1n (belowD V) ?more1n
        case hi1n => rw [List.getElem?_toArray]; exact rfl
        case hQ1n => exact fun _ _ _ h => h
        case hy1n =>
          refine Or.inl ⟨by rfl, ?_⟩
          intro w' hSw
          have c0' := (hSw.cell (p := ⟨r, 0, none⟩) hrV).trans hr0'
          clear hSw
          go_simp
          try with_reducible rfl
        simp only [Act.put, List.setIfInBounds_toArray, List.set_cons_zero, List.set_cons_succ]
        refine wpAnyH_take (i := 2) (oi := ?o2n) (v := ?v2n) ?hi2n (by kernel_rfl) (by kernel_rfl) (by kernel_rfl) ?hQ2n ?hy2n (belowD V) ?more2n
        case hi2n => rw [List.getElem?_toArray]; exact rfl
        case hQ2n => exact fun _ _ _ h => h
        case hy2n =>
          refine Or.inl ⟨by rfl, ?_⟩
          intro w' hSw
          have c0' := (hSw.cell (p := ⟨r, 0, none⟩) hrV).trans hr0'
          clear hSw
          go_simp
          try with_reducible rfl
        simp only [Act.put, List.setIfInBounds_toArray, List.set_cons_zero, List.set_cons_succ]
        refine wpAnyH_take (i := 3) (oi := ?o3n) (v := ?v3n) ?hi3n (by kernel_rfl) (by kernel_rfl) (by kernel_rfl) ?hQ3n ?hy3n (belowD V) ?more3n
        case hi3n => rw [List.getElem?_toArray]; exact rfl
        case hQ3n => exact fun _ _ _ h => h
        case hy3n =>
          refine Or.inl ⟨by rfl, ?_⟩
          intro w' hSw
          have c0' := (hSw.cell (p := ⟨r, 0, none⟩) hrV).trans hr0'
          clear hSw
          go_simp
          try with_reducible rfl
        simp only [Act.put, List.setIfInBounds_toArray, List.set_cons_zero, List.set_cons_succ]
        refine wpAnyH_take (i := 4) (oi := ?o4n) (v := ?v4n) ?hi4n (by kernel_rfl) (by kernel_rfl) (by kernel_rfl) ?hQ4n ?hy4n (belowD V) ?more4n
        case hi4n => rw [List.getElem?_toArray]; exact rfl
        case hQ4n => exact fun _ _ _ h => h
        case hy4n =>
          refine Or.inl ⟨by rfl, ?_⟩
          intro w' hSw
          have c0' := (hSw.cell (p := ⟨r, 0, none⟩) hrV).trans hr0'
          clear hSw
          go_simp
          try with_reducible rfl
        simp only [Act.put, List.setIfInBounds_toArray, List.set_cons_zero, List.set_cons_succ]
        refine wpAnyH_take (i := 5) (oi := ?o5n) (v := ?v5n) ?hi5n (by kernel_rfl) (by kernel_rfl) (by kernel_rfl) ?hQ5n ?hy5n (belowD V) ?more5n
        case hi5n => rw [List.getElem?_toArray]; exact rfl
        case hQ5n => exact fun _ _ _ h => h
        case hy5n =>
          refine Or.inl ⟨by rfl, ?_⟩
          intro w' hSw
          have c0' := (hSw.cell (p := ⟨r, 0, none⟩) hrV).trans hr0'
          clear hSw
          go_simp
          try with_reducible rfl
        simp only [Act.put, List.setIfInBounds_toArray, List.set_cons_zero, List.set_cons_succ]
        refine wpAnyH_take (i := 6) (oi := ?o6n) (v := ?v6n) ?hi6n (by kernel_rfl) (by kernel_rfl) (by kernel_rfl) ?hQ6n ?hy6n (belowD V) ?more6n
        case hi6n => rw [List.getElem?_toArray]; exact rfl
        case hQ6n => exact fun _ _ _ h => h
        case hy6n =>
          refine Or.inl ⟨by rfl, ?_⟩
          intro w' hSw
          have c0' := (hSw.cell (p := ⟨r, 0, none⟩) hrV).trans hr0'
          clear hSw
          go_simp
          try with_reducible rfl
        simp only [Act.put, List.setIfInBounds_toArray, List.set_cons_zero, List.set_cons_succ]
        refine wpAnyH_take (i := 7) (oi := ?o7n) (v := ?v7n) ?hi7n (by kernel_rfl) (by kernel_rfl) (by kernel_rfl) ?hQ7n ?hy7n (belowD V) ?more7n
        case hi7n => rw [List.getElem?_toArray]; exact rfl
        case hQ7n => exact fun _ _ _ h => h
        case hy7n =>
          refine Or.inl ⟨by rfl, ?_⟩
          intro w' hSw
          have c0' := (hSw.cell (p := ⟨r, 0, none⟩) hrV).trans hr0'
          clear hSw
          go_simp
          try with_reducible rfl
        simp only [Act.put, List.setIfInBounds_toArray, List.set_cons_zero, List.set_cons_succ]
        refine wpAnyH_take (i := 8) (oi := ?o8n) (v := ?v8n) ?hi8n (by kernel_rfl) (by kernel_rfl) (by kernel_rfl) ?hQ8n ?hy8n (belowD V) ?more8n
        case hi8n => rw [List.getElem?_toArray]; exact rfl
        case hQ8n => exact fun _ _ _ h => h
        case hy8n =>
          refine Or.inl ⟨by rfl, ?_⟩
          intro w' hSw
          have c0' := (hSw.cell (p := ⟨r, 0, none⟩) hrV).trans hr0'
          clear hSw
          go_simp
          try with_reducible rfl
        simp only [Act.put, List.setIfInBounds_toArray, List.set_cons_zero, List.set_cons_succ]
        refine wpAnyH_take (i := 9) (oi := ?o9n) (v := ?v9n) ?hi9n (by kernel_rfl) (by kernel_rfl) (by kernel_rfl) ?hQ9n ?hy9n (belowD V) ?more9n
        case hi9n => rw [List.getElem?_toArray]; exact rfl
        case hQ9n => exact fun _ _ _ h => h
        case hy9n =>
          refine Or.inl ⟨by rfl, ?_⟩
          intro w' hSw
          have c0' := (hSw.cell (p := ⟨r, 0, none⟩) hrV).trans hr0'
          clear hSw
          go_simp
          try with_reducible rfl
        simp only [Act.put, List.setIfInBounds_toArray, List.set_cons_zero, List.set_cons_succ]
        refine wpAnyH_take (i := 11) (oi := ?o11n) (v := ?v11n) ?hi11n (by kernel_rfl) (by kernel_rfl) (by kernel_rfl) ?hQ11n ?hy11n (belowD V) ?more11n
        case hi11n => rw [List.getElem?_toArray]; exact rfl
        case hQ11n => exact fun _ _ _ h => h
        case hy11n =>
          refine Or.inl ⟨by rfl, ?_⟩
          intro w' hSw
          have c0' := (hSw.cell (p := ⟨r, 0, none⟩) hrV).trans hr0'
          clear hSw
          go_simp
          try with_reducible rfl
        simp only [Act.put, List.setIfInBounds_toArray, List.set_cons_zero, List.set_cons_succ]
        refine wpAnyH_take (i := 12) (oi := ?o12n) (v := ?v12n) ?hi12n (by kernel_rfl) (by kernel_rfl) (by kernel_rfl) ?hQ12n ?hy12n (belowD V) ?more12n
        case hi12n => rw [List.getElem?_toArray]; exact rfl
        case hQ12n => exact fun _ _ _ h => h
        case hy12n =>
          refine Or.inl ⟨by rfl, ?_⟩
          intro w' hSw
          have c0' := (hSw.cell (p := ⟨r, 0, none⟩) hrV).trans hr0'
          clear hSw
          go_simp
          try with_reducible rfl
        simp only [Act.put, List.setIfInBounds_toArray, List.set_cons_zero, List.set_cons_succ]
        refine wpAnyH_take (i := 13) (oi := ?o13n) (v := ?v13n) ?hi13n (by kernel_rfl) (by kernel_rfl) (by kernel_rfl) ?hQ13n ?hy13n (belowD V) ?more13n
        case hi13n => rw [List.getElem?_toArray]; exact rfl
        case hQ13n => exact fun _ _ _ h => h
        case hy13n =>
          refine Or.inl ⟨by rfl, ?_⟩
          intro w' hSw
          have c0' := (hSw.cell (p := ⟨r, 0, none⟩) hrV).trans hr0'
          clear hSw
          go_simp
          try with_reducible rfl
        simp only [Act.put, List.setIfInBounds_toArray, List.set_cons_zero, List.set_cons_succ]
        refine wpAnyH_take (i := 14) (oi := ?o14n) (v := ?v14n) ?hi14n (by kernel_rfl) (by kernel_rfl) (by kernel_rfl) ?hQ14n ?hy14n (belowD V) ?more14n
        case hi14n => rw [List.getElem?_toArray]; exact rfl
        case hQ14n => exact fun _ _ _ h => h
        case hy14n =>
          refine Or.inl ⟨by rfl, ?_⟩
          intro w' hSw
          have c0' := (hSw.cell (p := ⟨r, 0, none⟩) hrV).trans hr0'
          clear hSw
          go_simp
          try with_reducible rfl
        simp only [Act.put, List.setIfInBounds_toArray, List.set_cons_zero, List.set_cons_succ]
        refine wpAnyH_take (i := 15) (oi := ?o15n) (v := ?v15n) ?hi15n (by kernel_rfl) (by kernel_rfl) (by kernel_rfl) ?hQ15n ?hy15n (belowD V) ?more15n
        case hi15n => rw [List.getElem?_toArray]; exact rfl
        case hQ15n => exact fun _ _ _ h => h
        case hy15n =>
          refine Or.inl ⟨by rfl, ?_⟩
          intro w' hSw
          have c0' := (hSw.cell (p := ⟨r, 0, none⟩) hrV).trans hr0'
          clear hSw
          go_simp
          try with_reducible rfl
        simp only [Act.put, List.setIfInBounds_toArray, List.set_cons_zero, List.set_cons_succ]
        refine wpAnyH_one (i := 10) (o := ?o10n) (by kernel_rfl) ?hi10n ?hw10n ?st10n
        case hi10n => rw [List.getElem?_toArray]; exact rfl
        case hw10n => exact rfl
        intro K hK
        have HK10n : Hid _ := hK
        clear hK
        go_simp
        refine (alen_in g l 0 S [] rfl _ (H5.out.2.ag.call (belowD V))).mono ?_
        rintro e w6 ⟨rfl, rfl⟩
        go_wp2_with fail
        refine HK10n.out _ _ ⟨(belowD V), ?_⟩
        clear HK10n K
        try simp only [Act.put, List.setIfInBounds_toArray, List.set_cons_zero, List.set_cons_succ]
        refine wpAnyH_take (i := 16) (oi := ?o16n) (v := ?v16n) ?hi16n (by kernel_rfl) (by kernel_rfl) (by kernel_rfl) ?hQ16n ?hy16n (belowD V) ?more16n
        case hi16n => rw [List.getElem?_toArray]; exact rfl
        case hQ16n => exact fun _ _ _ h => h
        case hy16n =>
          refine Or.inl ⟨by rfl, ?_⟩
          intro w' hSw
          have c0' := (hSw.cell (p := ⟨r, 0, none⟩) hrV).trans hr0'
          clear hSw
          go_simp
          try with_reducible rfl
        simp only [Act.put, List.setIfInBounds_toArray, List.set_cons_zero, List.set_cons_succ]
        refine wpAnyH_take (i := 17) (oi := ?o17n) (v := ?v17n) ?hi17n (by kernel_rfl) (by kernel_rfl) (by kernel_rfl) ?hQ17n ?hy17n (belowD V) ?more17n
        case hi17n => rw [List.getElem?_toArray]; exact rfl
        case hQ17n => exact fun _ _ _ h => h
        case hy17n =>
          refine Or.inl ⟨by rfl, ?_⟩
          intro w' hSw
          have c0' := (hSw.cell (p := ⟨r, 0, none⟩) hrV).trans hr0'
          clear hSw
          go_simp
          try with_reducible rfl
        simp only [Act.put, List.setIfInBounds_toArray, List.set_cons_zero, List.set_cons_succ]
        refine wpAnyH_done (by kernel_rfl) ?_ _
        go_wp2_with fail
        go_quiet (fail)
        go_wp2_with fail
        go_roundw
        case rel => first | exact ⟨k + 1, HX.out.2.2.1, by go_num, H5.out.1.call ⟨rfl, rfl, rfl, Nat.le_refl _, fun _ _ => rfl⟩⟩ | ((repeat apply Exists.intro); exact ⟨⟨k + 1, HX.out.2.2.1, by go_num, H5.out.1.call ⟨rfl, rfl, rfl, Nat.le_refl _, fun _ _ => rfl⟩⟩, rfl⟩)
        case measure => have h1 := HX.out.2.2.1; simp [Go.RowKit.intOf]; omega
      | cons x L =>
        obtain ⟨nn, hnn⟩ : ∃ nn, nn = (x :: L).length := ⟨_, rfl⟩
        have HN : Hid (nn = (x :: L).length) := hnn
        have j0 : 0 < nn := by rw [hnn, List.length_cons]; omega
        have j1 : (0 : Int) < (nn : Nat) := by omega
        have j2 : (nn : Int) ≤ 512 := by omega
        have j4 : decide ((0 : Int) < (nn : Nat)) = true := decide_eq_true j1
        have j5 : decide (0 < nn) = true := decide_eq_true j0
        clear hnn l5
        go_wp2_with fail
        refine (afirst_cons g l S x L w3 HO.out.ag).mono ?_
        rintro e w4 ⟨rfl, hb4⟩
        have H4 : Hid (BothB w w4 g g r (k + 1) ∧ Both w4 S R g r l (x :: L)) := ⟨H3.out.call hb4, HO.out.call hb4⟩
        clear hb4
        unfold enG
        go_wp2_with fail
        have hbA : Below w4.heap.size w4 (w4.alloc (.cells #[.int .i64 (x.t : Nat), .int .i64 (x.m : Nat), .string x.s] 34)) := below_alloc0 (Below.refl _ _) _
        have H5 : Hid (BothB w (w4.alloc (.cells #[.int .i64 (x.t : Nat), .int .i64 (x.m : Nat), .string x.s] 34)) g g r (k + 1) ∧ Both (w4.alloc (.cells #[.int .i64 (x.t : Nat), .int .i64 (x.m : Nat), .string x.s] 34)) S R g r l (x :: L)) := ⟨H4.out.1.call hbA, H4.out.2.call hbA⟩
        have y0 : (w4.alloc (.cells #[.int .i64 (x.t : Nat), .int .i64 (x.m : Nat), .string x.s] 34)).cell? ⟨w4.heap.size, 0, none⟩ = some (.int .i64 (x.t : Nat)) := by rw [World.cell?_alloc_new]; rfl
        have y1 : (w4.alloc (.cells #[.int .i64 (x.t : Nat), .int .i64 (x.m : Nat), .string x.s] 34)).cell? ⟨w4.heap.size, 1, none⟩ = some (.int .i64 (x.m : Nat)) := by rw [World.cell?_alloc_new]; rfl
        have y2 : (w4.alloc (.cells #[.int .i64 (x.t : Nat), .int .i64 (x.m : Nat), .string x.s] 34)).cell? ⟨w4.heap.size, 2, none⟩ = some (.string x.s) := by rw [World.cell?_alloc_new]; rfl
        obtain ⟨a0, cap0, hr0, _, hE0⟩ := H5.out.2.rf.c0
        obtain ⟨q0, o0, ha0, _, _, z0, z1, z2⟩ := hE0 0 x rfl
        subst ha0
        rw [← HN.out] at hr0
        rw [Nat.zero_mul, Nat.add_zero] at z0 z1 z2
        clear hbA hE0
        generalize w4.alloc (.cells #[.int .i64 (x.t : Nat), .int .i64 (x.m : Nat), .string x.s] 34) = V at *
        have hrV : r < V.heap.size := H5.out.2.rf.rl
        refine wp_region_H (fun w' => Below V.heap.size V w') 18 rfl (by kernel_rfl) ?_
        refine wpAnyH_take (i := 0) (oi := ?o0c) (v := ?v0c) ?hi0c (by kernel_rfl) (by kernel_rfl) (by kernel_rfl) ?hQ0c ?hy0c (belowD V) ?more0c
        case hi0c => rw [List.getElem?_toArray]; exact rfl
        case hQ0c => exact fun _ _ _ h => h
        case hy0c =>
          refine Or.inl ⟨by rfl, ?_⟩
          intro w' hSw
          have c0' := (hSw.cell (p := ⟨r, 0, none⟩) hrV).trans hr0
          clear hSw
          go_simp
          try with_reducible rfl
        simp only [Act.put, List.setIfInBounds_toArray, List.set_cons_zero, List.set_cons_succ]
        refine wpAnyH_take (i := 1) (oi := ?o1c) (v := ?v1c) ?hi1c (by kernel_rfl) (by kernel_rfl) (by kernel_rfl) ?hQ1c ?hy1c (belowD V) ?more1c
        case hi1c => rw [List.getElem?_toArray]; exact rfl
        case hQ1c => exact fun _ _ _ h => h
        case hy1c =>
          refine Or.inl ⟨by rfl, ?_⟩
          intro w' hSw
          have c0' := (hSw.cell (p := ⟨r, 0, none⟩) hrV).trans hr0
          clear hSw
          go_simp
          try with_reducible rfl
        simp only [Act.put, List.setIfInBounds_toArray, List.set_cons_zero, List.set_cons_succ]
        refine wpAnyH_take (i := 2) (oi := ?o2c) (v := ?v2c) ?hi2c (by kernel_rfl) (by kernel_rfl) (by kernel_rfl) ?hQ2c ?hy2c (belowD V) ?more2c
        case hi2c => rw [List.getElem?_toArray]; exact rfl
        case hQ2c => exact fun _ _ _ h => h
        case hy2c =>
          refine Or.inl ⟨by rfl, ?_⟩
          intro w' hSw
          have c0' := (hSw.cell (p := ⟨r, 0, none⟩) hrV).trans hr0
          clear hSw
          go_simp
          try with_reducible rfl
        simp only [Act.put, List.setIfInBounds_toArray, List.set_cons_zero, List.set_cons_succ]
        refine wpAnyH_take (i := 3) (oi := ?o3c) (v := ?v3c) ?hi3c (by kernel_rfl) (by kernel_rfl) (by kernel_rfl) ?hQ3c ?hy3c (belowD V) ?more3c
        case hi3c => rw [List.getElem?_toArray]; exact rfl
        case hQ3c => exact fun _ _ _ h => h
        case hy3c =>
          refine Or.inl ⟨by rfl, ?_⟩
          intro w' hSw
          have c0' := (hSw.cell (p := ⟨r, 0, none⟩) hrV).trans hr0
          clear hSw
          go_simp
          try with_reducible rfl
        simp only [Act.put, List.setIfInBounds_toArray, List.set_cons_zero, List.set_cons_succ]
        refine wpAnyH_take (i := 4) (oi := ?o4c) (v := ?v4c) ?hi4c (by kernel_rfl) (by kernel_rfl) (by kernel_rfl) ?hQ4c ?hy4c (belowD V) ?more4c
        case hi4c => rw [List.getElem?_toArray]; exact rfl
        case hQ4c => exact fun _ _ _ h => h
        case hy4c =>
          refine Or.inl ⟨by rfl, ?_⟩
          intro w' hSw
          have c0' := (hSw.cell (p := ⟨r, 0, none⟩) hrV).trans hr0
          clear hSw
          go_simp
          try with_reducible rfl
        simp only [Act.put, List.setIfInBounds_toArray, List.set_cons_zero, List.set_cons_succ]
        refine wpAnyH_take (i := 5) (oi := ?o5c) (v := ?v5c) ?hi5c (by kernel_rfl) (by kernel_rfl) (by kernel_rfl) ?hQ5c ?hy5c (belowD V) ?more5c
        case hi5c => rw [List.getElem?_toArray]; exact rfl
        case hQ5c => exact fun _ _ _ h => h
        case hy5c =>
          refine Or.inl ⟨by rfl, ?_⟩
          intro w' hSw
          have c0' := (hSw.cell (p := ⟨r, 0, none⟩) hrV).trans hr0
          clear hSw
          go_simp
          try with_reducible rfl
        simp only [Act.put, List.setIfInBounds_toArray, List.set_cons_zero, List.set_cons_succ]
        refine wpAnyH_take (i := 6) (oi := ?o6c) (v := ?v6c) ?hi6c (by kernel_rfl) (by kernel_rfl) (by kernel_rfl) ?hQ6c ?hy6c (belowD V) ?more6c
        case hi6c => rw [List.getElem?_toArray]; exact rfl
        case hQ6c => exact fun _ _ _ h => h
        case hy6c =>
          refine Or.inl ⟨by rfl, ?_⟩
          intro w' hSw
          have c0' := (hSw.cell (p := ⟨r, 0, none⟩) hrV).trans hr0
          clear hSw
          go_simp
          try with_reducible rfl
        simp only [Act.put, List.setIfInBounds_toArray, List.set_cons_zero, List.set_cons_succ]
        refine wpAnyH_take (i := 7) (oi := ?o7c) (v := ?v7c) ?hi7c (by kernel_rfl) (by kernel_rfl) (by kernel_rfl) ?hQ7c ?hy7c (belowD V) ?more7c
        case hi7c => rw [List.getElem?_toArray]; exact rfl
        case hQ7c => exact fun _ _ _ h => h
        case hy7c =>
          refine Or.inl ⟨by rfl, ?_⟩
          intro w' hSw
          have c0' := (hSw.cell (p := ⟨r, 0, none⟩) hrV).trans hr0
          clear hSw
          go_simp
          try with_reducible rfl
        simp only [Act.put, List.setIfInBounds_toArray, List.set_cons_zero, List.set_cons_succ]
        refine wpAnyH_take (i := 8) (oi := ?o8c) (v := ?v8c) ?hi8c (by kernel_rfl) (by kernel_rfl) (by kernel_rfl) ?hQ8c ?hy8c (belowD V) ?more8c
        case hi8c => rw [List.getElem?_toArray]; exact rfl
        case hQ8c => exact fun _ _ _ h => h
        case hy8c =>
          refine Or.inl ⟨by rfl, ?_⟩
          intro w' hSw
          have c0' := (hSw.cell (p := ⟨r, 0, none⟩) hrV).trans hr0
          clear hSw
          go_simp
          try with_reducible rfl
        simp only [Act.put, List.setIfInBounds_toArray, List.set_cons_zero, List.set_cons_succ]
        refine wpAnyH_take (i := 9) (oi := ?o9c) (v := ?v9c) ?hi9c (by kernel_rfl) (by kernel_rfl) (by kernel_rfl) ?hQ9c ?hy9c (belowD V) ?more9c
        case hi9c => rw [List.getElem?_toArray]; exact rfl
        case hQ9c => exact fun _ _ _ h => h
        case hy9c =>
          refine Or.inl ⟨by rfl, ?_⟩
          intro w' hSw
          have c0' := (hSw.cell (p := ⟨r, 0, none⟩) hrV).trans hr0
          clear hSw
          go_simp
          try with_reducible rfl
        simp only [Act.put, List.setIfInBounds_toArray, List.set_cons_zero, List.set_cons_succ]
        refine wpAnyH_take (i := 11) (oi := ?o11c) (v := ?v11c) ?hi11c (by kernel_rfl) (by kernel_rfl) (by kernel_rfl) ?hQ11c ?hy11c (belowD V) ?more11c
        case hi11c => rw [List.getElem?_toArray]; exact rfl
        case hQ11c => exact fun _ _ _ h => h
        case hy11c =>
          refine Or.inl ⟨by rfl, ?_⟩
          intro w' hSw
          have c0' := (hSw.cell (p := ⟨r, 0, none⟩) hrV).trans hr0
          clear hSw
          go_simp
          try with_reducible rfl
        simp only [Act.put, List.setIfInBounds_toArray, List.set_cons_zero, List.set_cons_succ]
        refine wpAnyH_take (i := 12) (oi := ?o12c) (v := ?v12c) ?hi12c (by kernel_rfl) (by kernel_rfl) (by kernel_rfl) ?hQ12c ?hy12c (belowD V) ?more12c
        case hi12c => rw [List.getElem?_toArray]; exact rfl
        case hQ12c => exact fun _ _ _ h => h
        case hy12c =>
          refine Or.inl ⟨by rfl, ?_⟩
          intro w' hSw
          have c0' := (hSw.cell (p := ⟨r, 0, none⟩) hrV).trans hr0
          clear hSw
          go_simp
          try with_reducible rfl
        simp only [Act.put, List.setIfInBounds_toArray, List.set_cons_zero, List.set_cons_succ]
        refine wpAnyH_take (i := 13) (oi := ?o13c) (v := ?v13c) ?hi13c (by kernel_rfl) (by kernel_rfl) (by kernel_rfl) ?hQ13c ?hy13c (belowD V) ?more13c
        case hi13c => rw [List.getElem?_toArray]; exact rfl
        case hQ13c => exact fun _ _ _ h => h
        case hy13c =>
          refine Or.inl ⟨by rfl, ?_⟩
          intro w' hSw
          have c0' := (hSw.cell (p := ⟨r, 0, none⟩) hrV).trans hr0
          clear hSw
          go_simp
          try with_reducible rfl
        simp only [Act.put, List.setIfInBounds_toArray, List.set_cons_zero, List.set_cons_succ]
        refine wpAnyH_take (i := 14) (oi := ?o14c) (v := ?v14c) ?hi14c (by kernel_rfl) (by kernel_rfl) (by kernel_rfl) ?hQ14c ?hy14c (belowD V) ?more14c
        case hi14c => rw [List.getElem?_toArray]; exact rfl
        case hQ14c => exact fun _ _ _ h => h
        case hy14c =>
          refine Or.inl ⟨by rfl, ?_⟩
          intro w' hSw
          have c0' := (hSw.cell (p := ⟨r, 0, none⟩) hrV).trans hr0
          clear hSw
          go_simp
          try with_reducible rfl
        simp only [Act.put, List.setIfInBounds_toArray, List.set_cons_zero, List.set_cons_succ]
        refine wpAnyH_take (i := 15) (oi := ?o15c) (v := ?v15c) ?hi15c (by kernel_rfl) (by kernel_rfl) (by kernel_rfl) ?hQ15c ?hy15c (belowD V) ?more15c
        case hi15c => rw [List.getElem?_toArray]; exact rfl
        case hQ15c => exact fun _ _ _ h => h
        case hy15c =>
          refine Or.inl ⟨by rfl, ?_⟩
          intro w' hSw
          have c0' := (hSw.cell (p := ⟨r, 0, none⟩) hrV).trans hr0
          clear hSw
          go_simp
          try with_reducible rfl
        simp only [Act.put, List.setIfInBounds_toArray, List.set_cons_zero, List.set_cons_succ]
        refine wpAnyH_one (i := 10) (o := ?o10c) (by kernel_rfl) ?hi10c ?hw10c ?st10c
        case hi10c => rw [List.getElem?_toArray]; exact rfl
        case hw10c => exact rfl
        intro K hK
        have HK10c : Hid _ := hK
        clear hK
        go_simp
        refine (alen_in g l nn S (x :: L) HN.out _ (H5.out.2.ag.call (belowD V))).mono ?_
        rintro e w6 ⟨rfl, rfl⟩
        go_wp2_with fail
        refine HK10c.out _ _ ⟨(belowD V), ?_⟩
        clear HK10c K
        try simp only [Act.put, List.setIfInBounds_toArray, List.set_cons_zero, List.set_cons_succ]
        refine wpAnyH_take (i := 16) (oi := ?o16c) (v := ?v16c) ?hi16c (by kernel_rfl) (by kernel_rfl) (by kernel_rfl) ?hQ16c ?hy16c (belowD V) ?more16c
        case hi16c => rw [List.getElem?_toArray]; exact rfl
        case hQ16c => exact fun _ _ _ h => h
        case hy16c =>
          refine Or.inl ⟨by rfl, ?_⟩
          intro w' hSw
          have c0' := (hSw.cell (p := ⟨r, 0, none⟩) hrV).trans hr0
          clear hSw
          go_simp
          try with_reducible rfl
        simp only [Act.put, List.setIfInBounds_toArray, List.set_cons_zero, List.set_cons_succ]
        refine wpAnyH_take (i := 17) (oi := ?o17c) (v := ?v17c) ?hi17c (by kernel_rfl) (by kernel_rfl) (by kernel_rfl) ?hQ17c ?hy17c (belowD V) ?more17c
        case hi17c => rw [List.getElem?_toArray]; exact rfl
        case hQ17c => exact fun _ _ _ h => h
        case hy17c =>
          refine Or.inl ⟨by rfl, ?_⟩
          intro w' hSw
          have c0' := (hSw.cell (p := ⟨r, 0, none⟩) hrV).trans hr0
          clear hSw
          go_simp
          try with_reducible rfl
        simp only [Act.put, List.setIfInBounds_toArray, List.set_cons_zero, List.set_cons_succ]
        refine wpAnyH_done (by kernel_rfl) ?_ _
        go_wp2_with fail
        go_quiet (fail)
        go_wp2_with fail
        go_roundw
        case rel => first | exact ⟨k + 1, HX.out.2.2.1, by go_num, H5.out.1.call ⟨rfl, rfl, rfl, Nat.le_refl _, fun _ _ => rfl⟩⟩ | ((repeat apply Exists.intro); exact ⟨⟨k + 1, HX.out.2.2.1, by go_num, H5.out.1.call ⟨rfl, rfl, rfl, Nat.le_refl _, fun _ _ => rfl⟩⟩, rfl⟩)
        case measure => have h1 := HX.out.2.2.1; simp [Go.RowKit.intOf]; omega
    · obtain rfl : k = n := by omega
      have hnl : ¬ ((k : Int) < (k : Int)) := Int.lt_irrefl _
      have HB : Hid (Below g w wr) := hbl
      clear hlt hk hB hbl
      go_wp2_with fail
      refine HKr.out _ _ ?_
      clear HKr
      go_wp2_with fail
      refine (three_any _).mono ?_
      rintro e w6 ⟨rfl, hb6⟩
      have H6 : Hid (Below g w w6) := HB.out.trans (hb6.mono (Nat.le_trans (Nat.le_of_eq HG.out) HB.out.size))
      clear hb6
      go_wp2_with fail
      go_ret
      exact ⟨rfl, by rw [← HG.out]; exact H6.out⟩
theorem agendaSteps_in (a : Option Addr) (n cap : Nat) (w : World) (hS : StepsA w a n) : Calls Try.prog 3 #[.slice a n cap] w fun e w' => e = .returned (.bool true) ∧ Below w.heap.size w w' := by
  by_cases h : 700 < n
  · exact agendaSteps_no a n cap w h
  · exact agendaSteps_ok a n cap (by omega) w hS
end Go.Proofs.Ytkgfeiigdhbddaa
