/- The law's same. -/
import Derived.Test.YtolhkpgpcbebiaaQuR1
namespace Go.Proofs.Ytolhkpgpcbebiaa
open Go Go.RowKit Go.Lib
set_option maxRecDepth 100000 in
set_option maxHeartbeats 4000000 in
theorem same_in (r : Nat) (Z : Nat → Prop) (L : List Qe) (la : Option Addr) (ln lc : Nat) (F : Nat → Prop) (w : World) (hR : RQ w Z r L) (hN : L.length < 10000) (hl : RowX rqE 2 w F la (waitQ L) lc) (hln : ln = (waitQ L).length) : Calls Try.prog 14 #[.slice la ln lc, .pointer (some ⟨r, 0, none⟩)] w fun e w' => e = .returned (.bool true) ∧ Below w.heap.size w w' := by
  have HLn : Hid (RowX rqE 2 w F la (waitQ L) lc ∧ ln = (waitQ L).length) := ⟨hl, hln⟩
  have l4 : (ln : Int) < 10000 := by have := waitQ_len L; omega
  clear hl hln
  obtain ⟨a, cap, c0, hrow⟩ := hR.c0
  obtain ⟨n, hn⟩ : ∃ n, n = L.length := ⟨_, rfl⟩
  rw [← hn] at c0
  have rl := hR.rl
  have n4 : (n : Int) < 10000 := by omega
  have HR : Hid (RQ w Z r L ∧ n = L.length ∧ RowX oneE 16 w (fun k => Z k ∧ k ≠ r) a L cap ∧ n < 10000) := ⟨hR, hn, hrow, by omega⟩
  clear hR hrow hn hN
  go_enter Try.func14, Try.ntmps14
  go_wp2_with fail
  rename_i Kr hKr
  have HKr : Hid _ := hKr
  clear hKr
  go_loopw [5, 13] (fun cv iv wr => ∃ (i c : Nat), i ≤ n ∧ c = (waitQ (L.take i)).length ∧ cv = .int .i64 (c : Nat) ∧ iv = .int .i64 (i : Nat) ∧ Below w.heap.size w wr) (fun _ iv _ => n - (Go.RowKit.intOf iv).toNat)
  case atStart => exact ⟨0, 0, Nat.zero_le _, rfl, rfl, rfl, Below.refl _ _⟩
  case round =>
    obtain ⟨i, c, hi, hc0, rfl, rfl, hb⟩ := hrel
    rename World => wr
    have HI : Hid (i ≤ n ∧ c = (waitQ (L.take i)).length ∧ Below w.heap.size w wr) := ⟨hi, hc0, hb⟩
    have c4 : (c : Int) < 10000 := by have := waitQ_len (L.take i); rw [List.length_take] at this; have := HR.out.2.2.2; omega
    by_cases hlt : i < n
    · skip
      have hlt' : (i : Int) < (n : Nat) := by omega
      obtain ⟨x, hx⟩ : ∃ x, L[i]? = some x := ⟨_, List.getElem?_eq_getElem (by rw [← HR.out.2.1]; exact hlt)⟩
      obtain ⟨p, o, rfl, hc, hp, -, -⟩ := HR.out.2.2.1.get oneE_len hx
      have hcr : ∀ c u, (oneE x)[c]? = some u → wr.cell? ⟨p, o + i * 16 + c, none⟩ = some u := fun c u hu => (hb.cell (p := ⟨p, _, none⟩) hp).trans (hc c u hu)
      have k0 : wr.cell? ⟨p, o + i * 16, none⟩ = some (.int .i64 (x.id : Nat)) := hcr 0 _ rfl
      have k1 : wr.cell? ⟨p, o + i * 16 + 1, none⟩ = some (.string x.m) := hcr 1 _ rfl
      have k2 : wr.cell? ⟨p, o + i * 16 + 2, none⟩ = some (.bool x.d) := hcr 2 _ rfl
      have k3 : wr.cell? ⟨p, o + i * 16 + 3, none⟩ = some (.int .u64 x.S.x0) := hcr 3 _ rfl
      have k4 : wr.cell? ⟨p, o + i * 16 + 4, none⟩ = some (.int .u64 x.S.x1) := hcr 4 _ rfl
      have k5 : wr.cell? ⟨p, o + i * 16 + 5, none⟩ = some (.int .u64 x.S.x2) := hcr 5 _ rfl
      have k6 : wr.cell? ⟨p, o + i * 16 + 6, none⟩ = some (.int .u64 x.S.x3) := hcr 6 _ rfl
      have k7 : wr.cell? ⟨p, o + i * 16 + 7, none⟩ = some (.int .u64 x.S.x4) := hcr 7 _ rfl
      have k8 : wr.cell? ⟨p, o + i * 16 + 8, none⟩ = some (.int .u64 x.S.x5) := hcr 8 _ rfl
      have k9 : wr.cell? ⟨p, o + i * 16 + 9, none⟩ = some (.int .u64 x.S.x6) := hcr 9 _ rfl
      have k10 : wr.cell? ⟨p, o + i * 16 + 10, none⟩ = some (.int .u64 x.S.x7) := hcr 10 _ rfl
      have k11 : wr.cell? ⟨p, o + i * 16 + 11, none⟩ = some (.bool x.S.i) := hcr 11 _ rfl
      have k12 : wr.cell? ⟨p, o + i * 16 + 12, none⟩ = some (.int .u64 x.S.x8) := hcr 12 _ rfl
      have k13 : wr.cell? ⟨p, o + i * 16 + 13, none⟩ = some (.int .u64 x.S.x9) := hcr 13 _ rfl
      have k14 : wr.cell? ⟨p, o + i * 16 + 14, none⟩ = some (.int .u64 x.S.x10) := hcr 14 _ rfl
      have k15 : wr.cell? ⟨p, o + i * 16 + 15, none⟩ = some (.int .u64 x.S.x11) := hcr 15 _ rfl
      have HX : Hid (L[i]? = some x ∧ i < n) := ⟨hx, hlt⟩
      obtain ⟨D, hD⟩ : ∃ D, D = x.d := ⟨_, rfl⟩
      rw [← hD] at k2
      have HD : Hid (D = x.d) := hD
      cases D with
      | true =>
        clear hb hx hc hcr hi hc0 hlt hp hD
        go_wp2_with fail
        go_roundw
        case rel => exact ⟨i + 1, c, by have := HX.out.2; omega, by rw [wait_d HX.out.1 HD.out.symm]; exact HI.out.2.1, rfl, by first | rfl | (congr 1), HI.out.2.2.alloc HI.out.2.2.size _⟩
        case measure => simp [Go.RowKit.intOf]; omega
      | false =>
        have hwg : (waitQ L)[c]? = some x := by rw [hc0]; exact wait_get hx hD.symm
        obtain ⟨lp, lo, rfl, hlc, hlp, -, -⟩ := HLn.out.1.get rqE_len hwg
        have q0 : wr.cell? ⟨lp, lo + c * 2, none⟩ = some (.int .i64 (x.id : Nat)) := (hb.cell (p := ⟨lp, _, none⟩) hlp).trans (hlc 0 _ rfl)
        have q1 : wr.cell? ⟨lp, lo + c * 2 + 1, none⟩ = some (.string x.m) := (hb.cell (p := ⟨lp, _, none⟩) hlp).trans (hlc 1 _ rfl)
        have hpr : p < wr.heap.size := Nat.lt_of_lt_of_le hp hb.size
        have hlr : lp < wr.heap.size := Nat.lt_of_lt_of_le hlp hb.size
        have cl : (c : Int) < (ln : Nat) := by have := (List.getElem?_eq_some_iff.1 hwg).1; rw [← HLn.out.2] at this; omega
        have cl2 : decide ((ln : Int) ≤ (c : Int)) = false := decide_eq_false (by omega)
        have cl3 : decide (ln ≤ c) = false := decide_eq_false (by omega)
        have cl4 : ¬ ln ≤ c := by omega
        have cw : IntKind.i64.wrap (c : Int) = (c : Nat) := IntWalk.i64_in _ (by omega)
        have b0 : ((x.id : Int) != (x.id : Int)) = false := by simp
        have b1 : (x.m.toList != x.m.toList) = false := by simp
        obtain ⟨c1, hc1⟩ : ∃ c1, c1 = c + 1 := ⟨_, rfl⟩
        have c5 : (c : Int) + 1 = (c1 : Nat) := by omega
        have c6 : (c1 : Int) < 10001 := by omega
        have HC1 : Hid (c1 = c + 1) := hc1
        obtain ⟨W, hW⟩ : ∃ W, W = wr.alloc (.cells #[.int .i64 (x.id : Nat), .string x.m, .bool false, .int .u64 x.S.x0, .int .u64 x.S.x1, .int .u64 x.S.x2, .int .u64 x.S.x3, .int .u64 x.S.x4, .int .u64 x.S.x5, .int .u64 x.S.x6, .int .u64 x.S.x7, .bool x.S.i, .int .u64 x.S.x8, .int .u64 x.S.x9, .int .u64 x.S.x10, .int .u64 x.S.x11] 56) := ⟨_, rfl⟩
        obtain ⟨E, hE⟩ : ∃ E, E = wr.heap.size := ⟨_, rfl⟩
        have HW : Hid (W = wr.alloc (.cells #[.int .i64 (x.id : Nat), .string x.m, .bool false, .int .u64 x.S.x0, .int .u64 x.S.x1, .int .u64 x.S.x2, .int .u64 x.S.x3, .int .u64 x.S.x4, .int .u64 x.S.x5, .int .u64 x.S.x6, .int .u64 x.S.x7, .bool x.S.i, .int .u64 x.S.x8, .int .u64 x.S.x9, .int .u64 x.S.x10, .int .u64 x.S.x11] 56) ∧ E = wr.heap.size) := ⟨hW, hE⟩
        have y0 : W.cell? ⟨lp, lo + c * 2, none⟩ = some (.int .i64 (x.id : Nat)) := by rw [hW]; exact ((below_alloc0 (Below.refl wr.heap.size wr) _).cell (p := ⟨lp, lo + c * 2, none⟩) hlr).trans q0
        have y1 : W.cell? ⟨lp, lo + c * 2 + 1, none⟩ = some (.string x.m) := by rw [hW]; exact ((below_alloc0 (Below.refl wr.heap.size wr) _).cell (p := ⟨lp, lo + c * 2 + 1, none⟩) hlr).trans q1
        have y2 : W.cell? ⟨E, 0, none⟩ = some (.int .i64 (x.id : Nat)) := by rw [hW, hE, World.cell?_alloc_new]; rfl
        have y3 : W.cell? ⟨E, 1, none⟩ = some (.string x.m) := by rw [hW, hE, World.cell?_alloc_new]; rfl
        clear hc1 hb hx hc hcr hi hc0 hlt hp hD hwg hlc hlp hW hE
        go_upto_region 6 with fail
        rw [← HW.out.1, ← HW.out.2]
        clear q0 q1 hpr hlr k0 k1 k2 k3 k4 k5 k6 k7 k8 k9 k10 k11 k12 k13 k14 k15
        refine wp_region_H (fun w' => w'.cell? ⟨lp, lo + c * 2, none⟩ = some (.int .i64 (x.id : Nat)) ∧ w'.cell? ⟨lp, lo + c * 2 + 1, none⟩ = some (.string x.m) ∧ w'.cell? ⟨E, 0, none⟩ = some (.int .i64 (x.id : Nat)) ∧ w'.cell? ⟨E, 1, none⟩ = some (.string x.m)) 24 rfl (by kernel_rfl) ?_
        refine wpAnyH_take (i := 0) (oi := ?o0s) (v := ?v0s) ?hi0s (by kernel_rfl) (by kernel_rfl) (by kernel_rfl) ?hQ0s ?hy0s ⟨y0, y1, y2, y3⟩ ?more0s
        case hi0s => rw [List.getElem?_toArray]; exact rfl
        case hQ0s => exact fun _ _ _ h => h
        case hy0s =>
          refine Or.inl ⟨by rfl, ?_⟩
          intro w' hSw
          obtain ⟨v0, v1, v2, v3⟩ := hSw
          go_simp
          try with_reducible rfl
        simp only [Act.put, List.setIfInBounds_toArray, List.set_cons_zero, List.set_cons_succ]
        refine wpAnyH_take (i := 1) (oi := ?o1s) (v := ?v1s) ?hi1s (by kernel_rfl) (by kernel_rfl) (by kernel_rfl) ?hQ1s ?hy1s ⟨y0, y1, y2, y3⟩ ?more1s
        case hi1s => rw [List.getElem?_toArray]; exact rfl
        case hQ1s => exact fun _ _ _ h => h
        case hy1s =>
          refine Or.inl ⟨by rfl, ?_⟩
          intro w' hSw
          obtain ⟨v0, v1, v2, v3⟩ := hSw
          go_simp
          try with_reducible rfl
        simp only [Act.put, List.setIfInBounds_toArray, List.set_cons_zero, List.set_cons_succ]
        refine wpAnyH_take (i := 2) (oi := ?o2s) (v := ?v2s) ?hi2s (by kernel_rfl) (by kernel_rfl) (by kernel_rfl) ?hQ2s ?hy2s ⟨y0, y1, y2, y3⟩ ?more2s
        case hi2s => rw [List.getElem?_toArray]; exact rfl
        case hQ2s => exact fun _ _ _ h => h
        case hy2s =>
          refine Or.inl ⟨by rfl, ?_⟩
          intro w' hSw
          obtain ⟨v0, v1, v2, v3⟩ := hSw
          go_simp
          try with_reducible rfl
        simp only [Act.put, List.setIfInBounds_toArray, List.set_cons_zero, List.set_cons_succ]
        refine wpAnyH_take (i := 3) (oi := ?o3s) (v := ?v3s) ?hi3s (by kernel_rfl) (by kernel_rfl) (by kernel_rfl) ?hQ3s ?hy3s ⟨y0, y1, y2, y3⟩ ?more3s
        case hi3s => rw [List.getElem?_toArray]; exact rfl
        case hQ3s => exact fun _ _ _ h => h
        case hy3s =>
          refine Or.inl ⟨by rfl, ?_⟩
          intro w' hSw
          obtain ⟨v0, v1, v2, v3⟩ := hSw
          go_simp
          try with_reducible rfl
        simp only [Act.put, List.setIfInBounds_toArray, List.set_cons_zero, List.set_cons_succ]
        refine wpAnyH_take (i := 4) (oi := ?o4s) (v := ?v4s) ?hi4s (by kernel_rfl) (by kernel_rfl) (by kernel_rfl) ?hQ4s ?hy4s ⟨y0, y1, y2, y3⟩ ?more4s
        case hi4s => rw [List.getElem?_toArray]; exact rfl
        case hQ4s => exact fun _ _ _ h => h
        case hy4s =>
          refine Or.inl ⟨by rfl, ?_⟩
          intro w' hSw
          obtain ⟨v0, v1, v2, v3⟩ := hSw
          go_simp
          try with_reducible rfl
        simp only [Act.put, List.setIfInBounds_toArray, List.set_cons_zero, List.set_cons_succ]
        refine wpAnyH_take (i := 5) (oi := ?o5s) (v := ?v5s) ?hi5s (by kernel_rfl) (by kernel_rfl) (by kernel_rfl) ?hQ5s ?hy5s ⟨y0, y1, y2, y3⟩ ?more5s
        case hi5s => rw [List.getElem?_toArray]; exact rfl
        case hQ5s => exact fun _ _ _ h => h
        case hy5s =>
          refine Or.inl ⟨by rfl, ?_⟩
          intro w' hSw
          obtain ⟨v0, v1, v2, v3⟩ := hSw
          go_simp
          try with_reducible rfl
        simp only [Act.put, List.setIfInBounds_toArray, List.set_cons_zero, List.set_cons_succ]
        refine wpAnyH_take (i := 6) (oi := ?o6s) (v := ?v6s) ?hi6s (by kernel_rfl) (by kernel_rfl) (by kernel_rfl) ?hQ6s ?hy6s ⟨y0, y1, y2, y3⟩ ?more6s
        case hi6s => rw [List.getElem?_toArray]; exact rfl
        case hQ6s => exact fun _ _ _ h => h
        case hy6s =>
          refine Or.inl ⟨by rfl, ?_⟩
          intro w' hSw
          obtain ⟨v0, v1, v2, v3⟩ := hSw
          go_simp
          try with_reducible rfl
        simp only [Act.put, List.setIfInBounds_toArray, List.set_cons_zero, List.set_cons_succ]
        refine wpAnyH_take (i := 7) (oi := ?o7s) (v := ?v7s) ?hi7s (by kernel_rfl) (by kernel_rfl) (by kernel_rfl) ?hQ7s ?hy7s ⟨y0, y1, y2, y3⟩ ?more7s
        case hi7s => rw [List.getElem?_toArray]; exact rfl
        case hQ7s => exact fun _ _ _ h => h
        case hy7s =>
          refine Or.inl ⟨by rfl, ?_⟩
          intro w' hSw
          obtain ⟨v0, v1, v2, v3⟩ := hSw
          go_simp
          try with_reducible rfl
        simp only [Act.put, List.setIfInBounds_toArray, List.set_cons_zero, List.set_cons_succ]
        refine wpAnyH_take (i := 8) (oi := ?o8s) (v := ?v8s) ?hi8s (by kernel_rfl) (by kernel_rfl) (by kernel_rfl) ?hQ8s ?hy8s ⟨y0, y1, y2, y3⟩ ?more8s
        case hi8s => rw [List.getElem?_toArray]; exact rfl
        case hQ8s => exact fun _ _ _ h => h
        case hy8s =>
          refine Or.inl ⟨by rfl, ?_⟩
          intro w' hSw
          obtain ⟨v0, v1, v2, v3⟩ := hSw
          go_simp
          try with_reducible rfl
        simp only [Act.put, List.setIfInBounds_toArray, List.set_cons_zero, List.set_cons_succ]
        refine wpAnyH_take (i := 9) (oi := ?o9s) (v := ?v9s) ?hi9s (by kernel_rfl) (by kernel_rfl) (by kernel_rfl) ?hQ9s ?hy9s ⟨y0, y1, y2, y3⟩ ?more9s
        case hi9s => rw [List.getElem?_toArray]; exact rfl
        case hQ9s => exact fun _ _ _ h => h
        case hy9s =>
          refine Or.inl ⟨by rfl, ?_⟩
          intro w' hSw
          obtain ⟨v0, v1, v2, v3⟩ := hSw
          go_simp
          try with_reducible rfl
        simp only [Act.put, List.setIfInBounds_toArray, List.set_cons_zero, List.set_cons_succ]
        refine wpAnyH_take (i := 10) (oi := ?o10s) (v := ?v10s) ?hi10s (by kernel_rfl) (by kernel_rfl) (by kernel_rfl) ?hQ10s ?hy10s ⟨y0, y1, y2, y3⟩ ?more10s
        case hi10s => rw [List.getElem?_toArray]; exact rfl
        case hQ10s => exact fun _ _ _ h => h
        case hy10s =>
          refine Or.inl ⟨by rfl, ?_⟩
          intro w' hSw
          obtain ⟨v0, v1, v2, v3⟩ := hSw
          go_simp
          try with_reducible rfl
        simp only [Act.put, List.setIfInBounds_toArray, List.set_cons_zero, List.set_cons_succ]
        refine wpAnyH_take (i := 11) (oi := ?o11s) (v := ?v11s) ?hi11s (by kernel_rfl) (by kernel_rfl) (by kernel_rfl) ?hQ11s ?hy11s ⟨y0, y1, y2, y3⟩ ?more11s
        case hi11s => rw [List.getElem?_toArray]; exact rfl
        case hQ11s => exact fun _ _ _ h => h
        case hy11s =>
          refine Or.inl ⟨by rfl, ?_⟩
          intro w' hSw
          obtain ⟨v0, v1, v2, v3⟩ := hSw
          go_simp
          try with_reducible rfl
        simp only [Act.put, List.setIfInBounds_toArray, List.set_cons_zero, List.set_cons_succ]
        refine wpAnyH_take (i := 12) (oi := ?o12s) (v := ?v12s) ?hi12s (by kernel_rfl) (by kernel_rfl) (by kernel_rfl) ?hQ12s ?hy12s ⟨y0, y1, y2, y3⟩ ?more12s
        case hi12s => rw [List.getElem?_toArray]; exact rfl
        case hQ12s => exact fun _ _ _ h => h
        case hy12s =>
          refine Or.inl ⟨by rfl, ?_⟩
          intro w' hSw
          obtain ⟨v0, v1, v2, v3⟩ := hSw
          go_simp
          try with_reducible rfl
        simp only [Act.put, List.setIfInBounds_toArray, List.set_cons_zero, List.set_cons_succ]
        refine wpAnyH_take (i := 13) (oi := ?o13s) (v := ?v13s) ?hi13s (by kernel_rfl) (by kernel_rfl) (by kernel_rfl) ?hQ13s ?hy13s ⟨y0, y1, y2, y3⟩ ?more13s
        case hi13s => rw [List.getElem?_toArray]; exact rfl
        case hQ13s => exact fun _ _ _ h => h
        case hy13s =>
          refine Or.inl ⟨by rfl, ?_⟩
          intro w' hSw
          obtain ⟨v0, v1, v2, v3⟩ := hSw
          go_simp
          try with_reducible rfl
        simp only [Act.put, List.setIfInBounds_toArray, List.set_cons_zero, List.set_cons_succ]
        refine wpAnyH_take (i := 14) (oi := ?o14s) (v := ?v14s) ?hi14s (by kernel_rfl) (by kernel_rfl) (by kernel_rfl) ?hQ14s ?hy14s ⟨y0, y1, y2, y3⟩ ?more14s
        case hi14s => rw [List.getElem?_toArray]; exact rfl
        case hQ14s => exact fun _ _ _ h => h
        case hy14s =>
          refine Or.inl ⟨by rfl, ?_⟩
          intro w' hSw
          obtain ⟨v0, v1, v2, v3⟩ := hSw
          go_simp
          try with_reducible rfl
        simp only [Act.put, List.setIfInBounds_toArray, List.set_cons_zero, List.set_cons_succ]
        refine wpAnyH_take (i := 15) (oi := ?o15s) (v := ?v15s) ?hi15s (by kernel_rfl) (by kernel_rfl) (by kernel_rfl) ?hQ15s ?hy15s ⟨y0, y1, y2, y3⟩ ?more15s
        case hi15s => rw [List.getElem?_toArray]; exact rfl
        case hQ15s => exact fun _ _ _ h => h
        case hy15s =>
          refine Or.inl ⟨by rfl, ?_⟩
          intro w' hSw
          obtain ⟨v0, v1, v2, v3⟩ := hSw
          go_simp
          try with_reducible rfl
        simp only [Act.put, List.setIfInBounds_toArray, List.set_cons_zero, List.set_cons_succ]
        refine wpAnyH_take (i := 16) (oi := ?o16s) (v := ?v16s) ?hi16s (by kernel_rfl) (by kernel_rfl) (by kernel_rfl) ?hQ16s ?hy16s ⟨y0, y1, y2, y3⟩ ?more16s
        case hi16s => rw [List.getElem?_toArray]; exact rfl
        case hQ16s => exact fun _ _ _ h => h
        case hy16s =>
          refine Or.inl ⟨by rfl, ?_⟩
          intro w' hSw
          obtain ⟨v0, v1, v2, v3⟩ := hSw
          go_simp
          try with_reducible rfl
        simp only [Act.put, List.setIfInBounds_toArray, List.set_cons_zero, List.set_cons_succ]
        refine wpAnyH_take (i := 17) (oi := ?o17s) (v := ?v17s) ?hi17s (by kernel_rfl) (by kernel_rfl) (by kernel_rfl) ?hQ17s ?hy17s ⟨y0, y1, y2, y3⟩ ?more17s
        case hi17s => rw [List.getElem?_toArray]; exact rfl
        case hQ17s => exact fun _ _ _ h => h
        case hy17s =>
          refine Or.inl ⟨by rfl, ?_⟩
          intro w' hSw
          obtain ⟨v0, v1, v2, v3⟩ := hSw
          go_simp
          try with_reducible rfl
        simp only [Act.put, List.setIfInBounds_toArray, List.set_cons_zero, List.set_cons_succ]
        refine wpAnyH_take (i := 18) (oi := ?o18s) (v := ?v18s) ?hi18s (by kernel_rfl) (by kernel_rfl) (by kernel_rfl) ?hQ18s ?hy18s ⟨y0, y1, y2, y3⟩ ?more18s
        case hi18s => rw [List.getElem?_toArray]; exact rfl
        case hQ18s => exact fun _ _ _ h => h
        case hy18s =>
          refine Or.inl ⟨by rfl, ?_⟩
          intro w' hSw
          obtain ⟨v0, v1, v2, v3⟩ := hSw
          go_simp
          try with_reducible rfl
        simp only [Act.put, List.setIfInBounds_toArray, List.set_cons_zero, List.set_cons_succ]
        refine wpAnyH_take (i := 19) (oi := ?o19s) (v := ?v19s) ?hi19s (by kernel_rfl) (by kernel_rfl) (by kernel_rfl) ?hQ19s ?hy19s ⟨y0, y1, y2, y3⟩ ?more19s
        case hi19s => rw [List.getElem?_toArray]; exact rfl
        case hQ19s => exact fun _ _ _ h => h
        case hy19s =>
          refine Or.inl ⟨by rfl, ?_⟩
          intro w' hSw
          obtain ⟨v0, v1, v2, v3⟩ := hSw
          go_simp
          try with_reducible rfl
        simp only [Act.put, List.setIfInBounds_toArray, List.set_cons_zero, List.set_cons_succ]
        refine wpAnyH_take (i := 20) (oi := ?o20s) (v := ?v20s) ?hi20s (by kernel_rfl) (by kernel_rfl) (by kernel_rfl) ?hQ20s ?hy20s ⟨y0, y1, y2, y3⟩ ?more20s
        case hi20s => rw [List.getElem?_toArray]; exact rfl
        case hQ20s => exact fun _ _ _ h => h
        case hy20s =>
          refine Or.inl ⟨by rfl, ?_⟩
          intro w' hSw
          obtain ⟨v0, v1, v2, v3⟩ := hSw
          go_simp
          try with_reducible rfl
        simp only [Act.put, List.setIfInBounds_toArray, List.set_cons_zero, List.set_cons_succ]
        refine wpAnyH_take (i := 21) (oi := ?o21s) (v := ?v21s) ?hi21s (by kernel_rfl) (by kernel_rfl) (by kernel_rfl) ?hQ21s ?hy21s ⟨y0, y1, y2, y3⟩ ?more21s
        case hi21s => rw [List.getElem?_toArray]; exact rfl
        case hQ21s => exact fun _ _ _ h => h
        case hy21s =>
          refine Or.inl ⟨by rfl, ?_⟩
          intro w' hSw
          obtain ⟨v0, v1, v2, v3⟩ := hSw
          go_simp
          try with_reducible rfl
        simp only [Act.put, List.setIfInBounds_toArray, List.set_cons_zero, List.set_cons_succ]
        refine wpAnyH_take (i := 22) (oi := ?o22s) (v := ?v22s) ?hi22s (by kernel_rfl) (by kernel_rfl) (by kernel_rfl) ?hQ22s ?hy22s ⟨y0, y1, y2, y3⟩ ?more22s
        case hi22s => rw [List.getElem?_toArray]; exact rfl
        case hQ22s => exact fun _ _ _ h => h
        case hy22s =>
          refine Or.inl ⟨by rfl, ?_⟩
          intro w' hSw
          obtain ⟨v0, v1, v2, v3⟩ := hSw
          go_simp
          try with_reducible rfl
        simp only [Act.put, List.setIfInBounds_toArray, List.set_cons_zero, List.set_cons_succ]
        refine wpAnyH_take (i := 23) (oi := ?o23s) (v := ?v23s) ?hi23s (by kernel_rfl) (by kernel_rfl) (by kernel_rfl) ?hQ23s ?hy23s ⟨y0, y1, y2, y3⟩ ?more23s
        case hi23s => rw [List.getElem?_toArray]; exact rfl
        case hQ23s => exact fun _ _ _ h => h
        case hy23s =>
          refine Or.inl ⟨by rfl, ?_⟩
          intro w' hSw
          obtain ⟨v0, v1, v2, v3⟩ := hSw
          go_simp
          try with_reducible rfl
        simp only [Act.put, List.setIfInBounds_toArray, List.set_cons_zero, List.set_cons_succ]
        refine wpAnyH_done (by kernel_rfl) ?_ _
        go_wp2_with fail
        go_roundw
        case rel => exact ⟨i + 1, c1, by have := HX.out.2; omega, by rw [wait_n HX.out.1 HD.out.symm, List.length_append, HC1.out, HI.out.2.1]; rfl, by first | rfl | (congr 1), by first | rfl | (congr 1), by rw [HW.out.1]; have h := HI.out.2.2.alloc HI.out.2.2.size (.cells #[.int .i64 (x.id : Nat), .string x.m, .bool false, .int .u64 x.S.x0, .int .u64 x.S.x1, .int .u64 x.S.x2, .int .u64 x.S.x3, .int .u64 x.S.x4, .int .u64 x.S.x5, .int .u64 x.S.x6, .int .u64 x.S.x7, .bool x.S.i, .int .u64 x.S.x8, .int .u64 x.S.x9, .int .u64 x.S.x10, .int .u64 x.S.x11] 56); exact ⟨h.os, h.tape, h.output, h.size, h.block⟩⟩
        case measure => simp [Go.RowKit.intOf]; omega
    · have hge : ¬ ((i : Int) < (n : Nat)) := by omega
      have HE : Hid (c = ln) := by
        have e : L.take i = L := List.take_of_length_le (by rw [← HR.out.2.1]; omega)
        have := HI.out.2.1
        rw [e, ← HLn.out.2] at this
        exact this
      clear hi hc0 hlt hb
      go_wp2_with fail
      refine HKr.out _ _ ?_
      clear HKr
      rw [HE.out]
      go_wp2_with fail
      go_ret
      exact ⟨by simp, HI.out.2.2⟩
end Go.Proofs.Ytolhkpgpcbebiaa
