/- Package king: the second round of a phase. -/
import Derived.Test.YtcahfkfafdoilaaKgC
namespace Go.Proofs.Ytcahfkfafdoilaa
open Go Go.RowKit Go.Lib

/-- What the second round holds behind i words. -/
def snd3 (f c0 c1 c2 v : Nat) : Nat → Nat
  | 0 => v
  | 1 => if f < c2 then 2 else v
  | 2 => if f < c1 then 1 else if f < c2 then 2 else v
  | _ => if f < c0 then 0 else if f < c1 then 1 else if f < c2 then 2 else v
theorem snd3_end (f c0 c1 c2 v : Nat) : snd3 f c0 c1 c2 v 3 = secondV f c0 c1 c2 v := rfl
theorem wrap_small {D : Nat} (h : D ≤ 10) : IntKind.i64.wrap (D : Int) = (D : Int) := by
  have : D = 0 ∨ D = 1 ∨ D = 2 ∨ D = 3 ∨ D = 4 ∨ D = 5 ∨ D = 6 ∨ D = 7 ∨ D = 8 ∨ D = 9 ∨ D = 10 := by omega
  rcases this with rfl | rfl | rfl | rfl | rfl | rfl | rfl | rfl | rfl | rfl | rfl <;> rfl
def cnt3 (c0 c1 c2 : Nat) (k : Nat) : Nat := if k = 0 then c0 else if k = 1 then c1 else c2
set_option maxHeartbeats 8000000 in
theorem ksecond_in (g : Nat) (x : Kn) (c0 c1 c2 : Nat) (b0 : c0 ≤ 10) (b1 : c1 ≤ 10) (b2 : c2 ≤ 10) (w : World) (h : NodeAt w g x) : Calls Try.prog 28 #[.pointer (some ⟨g, 0, none⟩), .agg #[.int .i64 (c0 : Nat), .int .i64 (c1 : Nat), .int .i64 (c2 : Nat)]] w fun e w' => e = .returned (.tuple #[]) ∧ NodeAt w' g { x with v := secondV x.f c0 c1 c2 x.v, m := firmB x.n x.f (secondV x.f c0 c1 c2 x.v) (cnt3 c0 c1 c2 (secondV x.f c0 c1 c2 x.v)) } ∧ But g (From w.heap.size) w w' := by
  have H : Hid (NodeAt w g x ∧ c0 ≤ 10 ∧ c1 ≤ 10 ∧ c2 ≤ 10) := ⟨h, b0, b1, b2⟩
  have gl := h.lt
  clear h b0 b1 b2
  go_enter Try.func28, Try.ntmps28
  go_wp2_with fail
  rename_i Kr hKr
  have HKr : Hid _ := hKr
  clear hKr
  obtain ⟨B, hB⟩ : ∃ B, B = w.heap.size := ⟨_, rfl⟩
  obtain ⟨W, hW⟩ : ∃ W, W = (w.alloc (Obj.cells #[.int .i64 (c0 : Nat), .int .i64 (c1 : Nat), .int .i64 (c2 : Nat)] 55)) := ⟨_, rfl⟩
  have HP : Hid (NodeAt W g { x with v := snd3 x.f c0 c1 c2 x.v 0 } ∧ Three W B c0 c1 c2 ∧ But g (From B) w W ∧ g ≠ B) := by
    rw [hW, hB]
    have ha : Below w.heap.size w (w.alloc (Obj.cells #[.int .i64 (c0 : Nat), .int .i64 (c1 : Nat), .int .i64 (c2 : Nat)] 55)) := below_alloc0 (Below.refl _ _) _
    exact ⟨H.out.1.call ha, Three.new w c0 c1 c2 55, But.of_below ha, by omega⟩
  have HB : Hid (B = w.heap.size) := hB
  rw [← hW, ← hB]
  clear hW hB gl
  go_loopw [4] (fun iv wr => ∃ i : Nat, i ≤ 3 ∧ iv = .int .i64 (2 - (i : Nat) : Int) ∧ NodeAt wr g { x with v := snd3 x.f c0 c1 c2 x.v i } ∧ Three wr B c0 c1 c2 ∧ But g (From B) w wr) (fun iv _ => (Go.RowKit.intOf iv + 1).toNat)
  case atStart => exact ⟨0, Nat.zero_le _, rfl, HP.out.1, HP.out.2.1, HP.out.2.2.1⟩
  case round =>
    obtain ⟨i, hi, rfl, hN, hT, hU⟩ := hrel
    rename World => wr
    have HR : Hid (_ ∧ _ ∧ _) := ⟨hN, hT, hU⟩
    have hc : i = 0 ∨ i = 1 ∨ i = 2 ∨ i = 3 := by omega
    clear hi
    have n0 : wr.cell? ⟨g, 0, none⟩ = some (.int .i64 (x.n : Nat)) := hN.c0
    have n1 : wr.cell? ⟨g, 1, none⟩ = some (.int .i64 (x.f : Nat)) := hN.c1
    have n2 := hN.c2
    have nf := hN.fz 2
    have nf4 := hN.fz 4
    have n4 := hN.c4
    obtain ⟨-, t0, t1, t2, -⟩ := hT
    have e1 : (x.f : Int) ≤ 10 := by have := H.out.1.ok.hf; have := H.out.1.ok.n10; omega
    have e2 : (x.n : Int) ≤ 10 := by have := H.out.1.ok.n10; omega
    have e3 : ((x.n : Int) - (x.f : Int)) = ((x.n - x.f : Nat) : Int) := by have := H.out.1.ok.hf; omega
    obtain ⟨D, hD⟩ : ∃ D, D = x.n - x.f := ⟨_, rfl⟩
    rw [← hD] at e3
    have HD : Hid _ := hD
    have wD : IntKind.i64.wrap (D : Int) = (D : Int) := wrap_small (by omega)
    obtain ⟨F, hF⟩ : ∃ F, F = x.f := ⟨_, rfl⟩
    rw [← hF] at n1 e1 e3
    have HF : Hid (F = x.f) := hF
    clear hD hU hN hF
    rcases hc with rfl | rfl | rfl | rfl
    · by_cases hq : F < c2
      · have HQ : Hid (x.f < c2) := by rw [← HF.out]; exact hq
        have hd : decide (((F : Nat) : Int) < ((c2 : Nat) : Int)) = true := decide_eq_true (by omega)
        have hd2 : decide (F < c2) = true := decide_eq_true hq
        have hq' : ((F : Nat) : Int) < ((c2 : Nat) : Int) := by omega
        clear HKr hq
        go_wp2_with fail
        go_quiet (fail)
        go_wp2_with fail
        go_roundw
        case rel =>
          have ev : snd3 x.f c0 c1 c2 x.v 1 = 2 := if_pos HQ.out
          have t : NodeAt ((wr.drewN nq).setCell ⟨g, 2, none⟩ (.int .i64 ((2 : Nat) : Int))) g { x with v := snd3 x.f c0 c1 c2 x.v 1 } ∧ Three ((wr.drewN nq).setCell ⟨g, 2, none⟩ (.int .i64 ((2 : Nat) : Int))) B c0 c1 c2 ∧ But g (From B) w ((wr.drewN nq).setCell ⟨g, 2, none⟩ (.int .i64 ((2 : Nat) : Int))) :=
            ⟨by rw [ev]; exact HR.out.1.drewN.setv (v := 2) (by decide), HR.out.2.1.drewN.setg (fun c => HP.out.2.2.2 c.symm), (But.drewN HR.out.2.2).set _⟩
          first | exact ⟨1, by decide, by go_num, t⟩ | ((repeat apply Exists.intro); exact ⟨⟨1, by decide, by go_num, t⟩, rfl⟩)
        case measure => simp [Go.RowKit.intOf]
      · have HQ : Hid (¬ x.f < c2) := by rw [← HF.out]; exact hq
        have hd : decide (((F : Nat) : Int) < ((c2 : Nat) : Int)) = false := decide_eq_false (by omega)
        have hd2 : decide (F < c2) = false := decide_eq_false hq
        have hq' : ¬ ((F : Nat) : Int) < ((c2 : Nat) : Int) := by omega
        clear HKr hq
        go_wp2_with fail
        go_quiet (fail)
        go_wp2_with fail
        go_roundw
        case rel =>
          have ev : snd3 x.f c0 c1 c2 x.v 1 = snd3 x.f c0 c1 c2 x.v 0 := if_neg HQ.out
          have t : NodeAt (wr.drewN nq) g { x with v := snd3 x.f c0 c1 c2 x.v 1 } ∧ Three (wr.drewN nq) B c0 c1 c2 ∧ But g (From B) w (wr.drewN nq) := ⟨by rw [ev]; exact HR.out.1.drewN, HR.out.2.1.drewN, But.drewN HR.out.2.2⟩
          first | exact ⟨1, by decide, by go_num, t⟩ | ((repeat apply Exists.intro); exact ⟨⟨1, by decide, by go_num, t⟩, rfl⟩)
        case measure => simp [Go.RowKit.intOf]
    · by_cases hq : F < c1
      · have HQ : Hid (x.f < c1) := by rw [← HF.out]; exact hq
        have hd : decide (((F : Nat) : Int) < ((c1 : Nat) : Int)) = true := decide_eq_true (by omega)
        have hd2 : decide (F < c1) = true := decide_eq_true hq
        have hq' : ((F : Nat) : Int) < ((c1 : Nat) : Int) := by omega
        clear HKr hq
        go_wp2_with fail
        go_quiet (fail)
        go_wp2_with fail
        go_roundw
        case rel =>
          have ev : snd3 x.f c0 c1 c2 x.v 2 = 1 := if_pos HQ.out
          have t : NodeAt ((wr.drewN nq).setCell ⟨g, 2, none⟩ (.int .i64 ((1 : Nat) : Int))) g { x with v := snd3 x.f c0 c1 c2 x.v 2 } ∧ Three ((wr.drewN nq).setCell ⟨g, 2, none⟩ (.int .i64 ((1 : Nat) : Int))) B c0 c1 c2 ∧ But g (From B) w ((wr.drewN nq).setCell ⟨g, 2, none⟩ (.int .i64 ((1 : Nat) : Int))) :=
            ⟨by rw [ev]; exact HR.out.1.drewN.setv (v := 1) (by decide), HR.out.2.1.drewN.setg (fun c => HP.out.2.2.2 c.symm), (But.drewN HR.out.2.2).set _⟩
          first | exact ⟨2, by decide, by go_num, t⟩ | ((repeat apply Exists.intro); exact ⟨⟨2, by decide, by go_num, t⟩, rfl⟩)
        case measure => simp [Go.RowKit.intOf]
      · have HQ : Hid (¬ x.f < c1) := by rw [← HF.out]; exact hq
        have hd : decide (((F : Nat) : Int) < ((c1 : Nat) : Int)) = false := decide_eq_false (by omega)
        have hd2 : decide (F < c1) = false := decide_eq_false hq
        have hq' : ¬ ((F : Nat) : Int) < ((c1 : Nat) : Int) := by omega
        clear HKr hq
        go_wp2_with fail
        go_quiet (fail)
        go_wp2_with fail
        go_roundw
        case rel =>
          have ev : snd3 x.f c0 c1 c2 x.v 2 = snd3 x.f c0 c1 c2 x.v 1 := if_neg HQ.out
          have t : NodeAt (wr.drewN nq) g { x with v := snd3 x.f c0 c1 c2 x.v 2 } ∧ Three (wr.drewN nq) B c0 c1 c2 ∧ But g (From B) w (wr.drewN nq) := ⟨by rw [ev]; exact HR.out.1.drewN, HR.out.2.1.drewN, But.drewN HR.out.2.2⟩
          first | exact ⟨2, by decide, by go_num, t⟩ | ((repeat apply Exists.intro); exact ⟨⟨2, by decide, by go_num, t⟩, rfl⟩)
        case measure => simp [Go.RowKit.intOf]
    · by_cases hq : F < c0
      · have HQ : Hid (x.f < c0) := by rw [← HF.out]; exact hq
        have hd : decide (((F : Nat) : Int) < ((c0 : Nat) : Int)) = true := decide_eq_true (by omega)
        have hd2 : decide (F < c0) = true := decide_eq_true hq
        have hq' : ((F : Nat) : Int) < ((c0 : Nat) : Int) := by omega
        clear HKr hq
        go_wp2_with fail
        go_quiet (fail)
        go_wp2_with fail
        go_roundw
        case rel =>
          have ev : snd3 x.f c0 c1 c2 x.v 3 = 0 := if_pos HQ.out
          have t : NodeAt ((wr.drewN nq).setCell ⟨g, 2, none⟩ (.int .i64 ((0 : Nat) : Int))) g { x with v := snd3 x.f c0 c1 c2 x.v 3 } ∧ Three ((wr.drewN nq).setCell ⟨g, 2, none⟩ (.int .i64 ((0 : Nat) : Int))) B c0 c1 c2 ∧ But g (From B) w ((wr.drewN nq).setCell ⟨g, 2, none⟩ (.int .i64 ((0 : Nat) : Int))) :=
            ⟨by rw [ev]; exact HR.out.1.drewN.setv (v := 0) (by decide), HR.out.2.1.drewN.setg (fun c => HP.out.2.2.2 c.symm), (But.drewN HR.out.2.2).set _⟩
          first | exact ⟨3, by decide, by go_num, t⟩ | ((repeat apply Exists.intro); exact ⟨⟨3, by decide, by go_num, t⟩, rfl⟩)
        case measure => simp [Go.RowKit.intOf]
      · have HQ : Hid (¬ x.f < c0) := by rw [← HF.out]; exact hq
        have hd : decide (((F : Nat) : Int) < ((c0 : Nat) : Int)) = false := decide_eq_false (by omega)
        have hd2 : decide (F < c0) = false := decide_eq_false hq
        have hq' : ¬ ((F : Nat) : Int) < ((c0 : Nat) : Int) := by omega
        clear HKr hq
        go_wp2_with fail
        go_quiet (fail)
        go_wp2_with fail
        go_roundw
        case rel =>
          have ev : snd3 x.f c0 c1 c2 x.v 3 = snd3 x.f c0 c1 c2 x.v 2 := if_neg HQ.out
          have t : NodeAt (wr.drewN nq) g { x with v := snd3 x.f c0 c1 c2 x.v 3 } ∧ Three (wr.drewN nq) B c0 c1 c2 ∧ But g (From B) w (wr.drewN nq) := ⟨by rw [ev]; exact HR.out.1.drewN, HR.out.2.1.drewN, But.drewN HR.out.2.2⟩
          first | exact ⟨3, by decide, by go_num, t⟩ | ((repeat apply Exists.intro); exact ⟨⟨3, by decide, by go_num, t⟩, rfl⟩)
        case measure => simp [Go.RowKit.intOf]
    · have HV : Hid (snd3 x.f c0 c1 c2 x.v 3 = secondV x.f c0 c1 c2 x.v) := rfl
      rw [HV.out] at n2
      have hv2 : secondV x.f c0 c1 c2 x.v ≤ 2 := secondV_le H.out.1.ok.hv
      obtain ⟨V, hV⟩ : ∃ V, V = secondV x.f c0 c1 c2 x.v := ⟨_, rfl⟩
      have HVV : Hid (V = secondV x.f c0 c1 c2 x.v) := hV
      rw [← hV] at n2 hv2
      have HN : Hid (NodeAt wr g { x with v := V }) := by rw [hV]; exact HR.out.1
      have HU : Hid (But g (From B) w wr) := HR.out.2.2
      have HS : Hid (wr.cell? ⟨g, 0, none⟩ = some (.int .i64 (x.n : Nat)) ∧ wr.cell? ⟨g, 1, none⟩ = some (.int .i64 (F : Nat)) ∧ wr.cell? ⟨g, 2, none⟩ = some (.int .i64 (V : Nat)) ∧ wr.cell? ⟨B, 0, none⟩ = some (.int .i64 (c0 : Nat)) ∧ wr.cell? ⟨B, 1, none⟩ = some (.int .i64 (c1 : Nat)) ∧ wr.cell? ⟨B, 2, none⟩ = some (.int .i64 (c2 : Nat))) := ⟨n0, n1, n2, t0, t1, t2⟩
      clear hV HR HP HV
      go_wp2_with fail
      refine HKr.out _ _ ?_
      clear HKr
      go_wp2_with fail
      clear n0 n1 n2 t0 t1 t2
      have hc : V = 0 ∨ V = 1 ∨ V = 2 := by omega
      clear hv2
      rcases hc with rfl | rfl | rfl
      · refine wp_region_N (fun w' => w'.cell? ⟨g, 0, none⟩ = some (.int .i64 (x.n : Nat)) ∧ w'.cell? ⟨g, 1, none⟩ = some (.int .i64 (F : Nat)) ∧ w'.cell? ⟨g, 2, none⟩ = some (.int .i64 ((0 : Nat) : Int)) ∧ w'.cell? ⟨B, 0, none⟩ = some (.int .i64 (c0 : Nat)) ∧ w'.cell? ⟨B, 1, none⟩ = some (.int .i64 (c1 : Nat)) ∧ w'.cell? ⟨B, 2, none⟩ = some (.int .i64 (c2 : Nat))) 26 27 rfl (by kernel_rfl) ?_
        refine wpAnyN_takeF (i := 0) (oi := ?o0_0) (v := ?v0_0) ?hi0_0 (by kernel_rfl) (by kernel_rfl) (by kernel_rfl) (by decide) ?hQ0_0 ?hy0_0 HS.out ?more0_0
        case hi0_0 => rw [List.getElem?_toArray]; exact rfl
        case hQ0_0 => exact fun _ _ _ h => h
        case hy0_0 =>
          refine Or.inl ⟨by rfl, ?_⟩
          intro w' hSw
          clear hSw
          go_simp
          try with_reducible rfl
        simp only [Act.put, List.setIfInBounds_toArray, List.set_cons_zero, List.set_cons_succ]
        refine wpAnyN_takeF (i := 1) (oi := ?o1_0) (v := ?v1_0) ?hi1_0 (by kernel_rfl) (by kernel_rfl) (by kernel_rfl) (by decide) ?hQ1_0 ?hy1_0 HS.out ?more1_0
        case hi1_0 => rw [List.getElem?_toArray]; exact rfl
        case hQ1_0 => exact fun _ _ _ h => h
        case hy1_0 =>
          refine Or.inl ⟨by rfl, ?_⟩
          intro w' hSw
          clear hSw
          go_simp
          try with_reducible rfl
        simp only [Act.put, List.setIfInBounds_toArray, List.set_cons_zero, List.set_cons_succ]
        refine wpAnyN_takeF (i := 2) (oi := ?o2_0) (v := ?v2_0) ?hi2_0 (by kernel_rfl) (by kernel_rfl) (by kernel_rfl) (by decide) ?hQ2_0 ?hy2_0 HS.out ?more2_0
        case hi2_0 => rw [List.getElem?_toArray]; exact rfl
        case hQ2_0 => exact fun _ _ _ h => h
        case hy2_0 =>
          refine Or.inl ⟨by rfl, ?_⟩
          intro w' hSw
          clear hSw
          go_simp
          try with_reducible rfl
        simp only [Act.put, List.setIfInBounds_toArray, List.set_cons_zero, List.set_cons_succ]
        refine wpAnyN_takeF (i := 3) (oi := ?o3_0) (v := ?v3_0) ?hi3_0 (by kernel_rfl) (by kernel_rfl) (by kernel_rfl) (by decide) ?hQ3_0 ?hy3_0 HS.out ?more3_0
        case hi3_0 => rw [List.getElem?_toArray]; exact rfl
        case hQ3_0 => exact fun _ _ _ h => h
        case hy3_0 =>
          refine Or.inl ⟨by rfl, ?_⟩
          intro w' hSw
          clear hSw
          go_simp
          try with_reducible rfl
        simp only [Act.put, List.setIfInBounds_toArray, List.set_cons_zero, List.set_cons_succ]
        refine wpAnyN_takeL (i := 4) (oi := ?o4_0) (v := ?v4_0) [5, 6, 26] ?hi4_0 (by kernel_rfl) (by kernel_rfl) (by kernel_rfl) (by kernel_rfl) (by decide) (by decide) (by kernel_rfl) ?hQ4_0 ?hy4_0 HS.out ?more4_0
        case hi4_0 => rw [List.getElem?_toArray]; exact rfl
        case hQ4_0 => exact fun _ _ _ h => h
        case hy4_0 =>
          refine Or.inl ⟨by rfl, ?_⟩
          intro w' hSw
          obtain ⟨n0, n1, n2, t0, t1, t2⟩ := hSw
          go_simp
          try with_reducible rfl
        simp only [Act.put, List.setIfInBounds_toArray, List.set_cons_zero, List.set_cons_succ]
        refine wpAnyN_takeF (i := 5) (oi := ?o5_0) (v := ?v5_0) ?hi5_0 (by kernel_rfl) (by kernel_rfl) (by kernel_rfl) (by decide) ?hQ5_0 ?hy5_0 HS.out ?more5_0
        case hi5_0 => rw [List.getElem?_toArray]; exact rfl
        case hQ5_0 => exact fun _ _ _ h => h
        case hy5_0 =>
          refine Or.inl ⟨by rfl, ?_⟩
          intro w' hSw
          clear hSw
          go_simp
          try with_reducible rfl
        simp only [Act.put, List.setIfInBounds_toArray, List.set_cons_zero, List.set_cons_succ]
        refine wpAnyN_takeF (i := 6) (oi := ?o6_0) (v := ?v6_0) ?hi6_0 (by kernel_rfl) (by kernel_rfl) (by kernel_rfl) (by decide) ?hQ6_0 ?hy6_0 HS.out ?more6_0
        case hi6_0 => rw [List.getElem?_toArray]; exact rfl
        case hQ6_0 => exact fun _ _ _ h => h
        case hy6_0 =>
          refine Or.inl ⟨by rfl, ?_⟩
          intro w' hSw
          clear hSw
          go_simp
          try with_reducible rfl
        simp only [Act.put, List.setIfInBounds_toArray, List.set_cons_zero, List.set_cons_succ]
        refine wpAnyN_takeF (i := 7) (oi := ?o7_0) (v := ?v7_0) ?hi7_0 (by kernel_rfl) (by kernel_rfl) (by kernel_rfl) (by decide) ?hQ7_0 ?hy7_0 HS.out ?more7_0
        case hi7_0 => rw [List.getElem?_toArray]; exact rfl
        case hQ7_0 => exact fun _ _ _ h => h
        case hy7_0 =>
          refine Or.inl ⟨by rfl, ?_⟩
          intro w' hSw
          clear hSw
          go_simp
          try with_reducible rfl
        simp only [Act.put, List.setIfInBounds_toArray, List.set_cons_zero, List.set_cons_succ]
        refine wpAnyN_takeF (i := 8) (oi := ?o8_0) (v := ?v8_0) ?hi8_0 (by kernel_rfl) (by kernel_rfl) (by kernel_rfl) (by decide) ?hQ8_0 ?hy8_0 HS.out ?more8_0
        case hi8_0 => rw [List.getElem?_toArray]; exact rfl
        case hQ8_0 => exact fun _ _ _ h => h
        case hy8_0 =>
          refine Or.inl ⟨by rfl, ?_⟩
          intro w' hSw
          clear hSw
          go_simp
          try with_reducible rfl
        simp only [Act.put, List.setIfInBounds_toArray, List.set_cons_zero, List.set_cons_succ]
        refine wpAnyN_takeF (i := 9) (oi := ?o9_0) (v := ?v9_0) ?hi9_0 (by kernel_rfl) (by kernel_rfl) (by kernel_rfl) (by decide) ?hQ9_0 ?hy9_0 HS.out ?more9_0
        case hi9_0 => rw [List.getElem?_toArray]; exact rfl
        case hQ9_0 => exact fun _ _ _ h => h
        case hy9_0 =>
          refine Or.inl ⟨by rfl, ?_⟩
          intro w' hSw
          clear hSw
          go_simp
          try with_reducible rfl
        simp only [Act.put, List.setIfInBounds_toArray, List.set_cons_zero, List.set_cons_succ]
        refine wpAnyN_takeL (i := 10) (oi := ?o10_0) (v := ?v10_0) [26] ?hi10_0 (by kernel_rfl) (by kernel_rfl) (by kernel_rfl) (by kernel_rfl) (by decide) (by decide) (by kernel_rfl) ?hQ10_0 ?hy10_0 HS.out ?more10_0
        case hi10_0 => rw [List.getElem?_toArray]; exact rfl
        case hQ10_0 => exact fun _ _ _ h => h
        case hy10_0 =>
          refine Or.inl ⟨by rfl, ?_⟩
          intro w' hSw
          obtain ⟨n0, n1, n2, t0, t1, t2⟩ := hSw
          go_simp
          try with_reducible rfl
        simp only [Act.put, List.setIfInBounds_toArray, List.set_cons_zero, List.set_cons_succ]
        refine wpAnyN_takeF (i := 11) (oi := ?o11_0) (v := ?v11_0) ?hi11_0 (by kernel_rfl) (by kernel_rfl) (by kernel_rfl) (by decide) ?hQ11_0 ?hy11_0 HS.out ?more11_0
        case hi11_0 => rw [List.getElem?_toArray]; exact rfl
        case hQ11_0 => exact fun _ _ _ h => h
        case hy11_0 =>
          refine Or.inl ⟨by rfl, ?_⟩
          intro w' hSw
          clear hSw
          go_simp
          try with_reducible rfl
        simp only [Act.put, List.setIfInBounds_toArray, List.set_cons_zero, List.set_cons_succ]
        refine wpAnyN_takeL (i := 12) (oi := ?o12_0) (v := ?v12_0) [26] ?hi12_0 (by kernel_rfl) (by kernel_rfl) (by kernel_rfl) (by kernel_rfl) (by decide) (by decide) (by kernel_rfl) ?hQ12_0 ?hy12_0 HS.out ?more12_0
        case hi12_0 => rw [List.getElem?_toArray]; exact rfl
        case hQ12_0 => exact fun _ _ _ h => h
        case hy12_0 =>
          refine Or.inl ⟨by rfl, ?_⟩
          intro w' hSw
          obtain ⟨n0, n1, n2, t0, t1, t2⟩ := hSw
          go_simp
          try with_reducible rfl
        simp only [Act.put, List.setIfInBounds_toArray, List.set_cons_zero, List.set_cons_succ]
        refine wpAnyN_takeF (i := 13) (oi := ?o13_0) (v := ?v13_0) ?hi13_0 (by kernel_rfl) (by kernel_rfl) (by kernel_rfl) (by decide) ?hQ13_0 ?hy13_0 HS.out ?more13_0
        case hi13_0 => rw [List.getElem?_toArray]; exact rfl
        case hQ13_0 => exact fun _ _ _ h => h
        case hy13_0 =>
          refine Or.inl ⟨by rfl, ?_⟩
          intro w' hSw
          clear hSw
          go_simp
          try with_reducible rfl
        simp only [Act.put, List.setIfInBounds_toArray, List.set_cons_zero, List.set_cons_succ]
        refine wpAnyN_takeF (i := 14) (oi := ?o14_0) (v := ?v14_0) ?hi14_0 (by kernel_rfl) (by kernel_rfl) (by kernel_rfl) (by decide) ?hQ14_0 ?hy14_0 HS.out ?more14_0
        case hi14_0 => rw [List.getElem?_toArray]; exact rfl
        case hQ14_0 => exact fun _ _ _ h => h
        case hy14_0 =>
          refine Or.inl ⟨by rfl, ?_⟩
          intro w' hSw
          clear hSw
          go_simp
          try with_reducible rfl
        simp only [Act.put, List.setIfInBounds_toArray, List.set_cons_zero, List.set_cons_succ]
        refine wpAnyN_takeF (i := 15) (oi := ?o15_0) (v := ?v15_0) ?hi15_0 (by kernel_rfl) (by kernel_rfl) (by kernel_rfl) (by decide) ?hQ15_0 ?hy15_0 HS.out ?more15_0
        case hi15_0 => rw [List.getElem?_toArray]; exact rfl
        case hQ15_0 => exact fun _ _ _ h => h
        case hy15_0 =>
          refine Or.inl ⟨by rfl, ?_⟩
          intro w' hSw
          clear hSw
          go_simp
          try with_reducible rfl
        simp only [Act.put, List.setIfInBounds_toArray, List.set_cons_zero, List.set_cons_succ]
        refine wpAnyN_takeL (i := 16) (oi := ?o16_0) (v := ?v16_0) [21, 22, 23, 26] ?hi16_0 (by kernel_rfl) (by kernel_rfl) (by kernel_rfl) (by kernel_rfl) (by decide) (by decide) (by kernel_rfl) ?hQ16_0 ?hy16_0 HS.out ?more16_0
        case hi16_0 => rw [List.getElem?_toArray]; exact rfl
        case hQ16_0 => exact fun _ _ _ h => h
        case hy16_0 =>
          refine Or.inl ⟨by rfl, ?_⟩
          intro w' hSw
          obtain ⟨n0, n1, n2, t0, t1, t2⟩ := hSw
          go_simp
          try with_reducible rfl
        simp only [Act.put, List.setIfInBounds_toArray, List.set_cons_zero, List.set_cons_succ]
        refine wpAnyN_takeF (i := 17) (oi := ?o17_0) (v := ?v17_0) ?hi17_0 (by kernel_rfl) (by kernel_rfl) (by kernel_rfl) (by decide) ?hQ17_0 ?hy17_0 HS.out ?more17_0
        case hi17_0 => rw [List.getElem?_toArray]; exact rfl
        case hQ17_0 => exact fun _ _ _ h => h
        case hy17_0 =>
          refine Or.inl ⟨by rfl, ?_⟩
          intro w' hSw
          clear hSw
          go_simp
          try with_reducible rfl
        simp only [Act.put, List.setIfInBounds_toArray, List.set_cons_zero, List.set_cons_succ]
        refine wpAnyN_takeF (i := 18) (oi := ?o18_0) (v := ?v18_0) ?hi18_0 (by kernel_rfl) (by kernel_rfl) (by kernel_rfl) (by decide) ?hQ18_0 ?hy18_0 HS.out ?more18_0
        case hi18_0 => rw [List.getElem?_toArray]; exact rfl
        case hQ18_0 => exact fun _ _ _ h => h
        case hy18_0 =>
          refine Or.inl ⟨by rfl, ?_⟩
          intro w' hSw
          clear hSw
          go_simp
          try with_reducible rfl
        simp only [Act.put, List.setIfInBounds_toArray, List.set_cons_zero, List.set_cons_succ]
        refine wpAnyN_takeF (i := 19) (oi := ?o19_0) (v := ?v19_0) ?hi19_0 (by kernel_rfl) (by kernel_rfl) (by kernel_rfl) (by decide) ?hQ19_0 ?hy19_0 HS.out ?more19_0
        case hi19_0 => rw [List.getElem?_toArray]; exact rfl
        case hQ19_0 => exact fun _ _ _ h => h
        case hy19_0 =>
          refine Or.inl ⟨by rfl, ?_⟩
          intro w' hSw
          clear hSw
          go_simp
          try with_reducible rfl
        simp only [Act.put, List.setIfInBounds_toArray, List.set_cons_zero, List.set_cons_succ]
        refine wpAnyN_takeL (i := 20) (oi := ?o20_0) (v := ?v20_0) [21, 22, 23, 26] ?hi20_0 (by kernel_rfl) (by kernel_rfl) (by kernel_rfl) (by kernel_rfl) (by decide) (by decide) (by kernel_rfl) ?hQ20_0 ?hy20_0 HS.out ?more20_0
        case hi20_0 => rw [List.getElem?_toArray]; exact rfl
        case hQ20_0 => exact fun _ _ _ h => h
        case hy20_0 =>
          refine Or.inl ⟨by rfl, ?_⟩
          intro w' hSw
          obtain ⟨n0, n1, n2, t0, t1, t2⟩ := hSw
          go_simp
          try with_reducible rfl
        simp only [Act.put, List.setIfInBounds_toArray, List.set_cons_zero, List.set_cons_succ]
        refine wpAnyN_takeF (i := 21) (oi := ?o21_0) (v := ?v21_0) ?hi21_0 (by kernel_rfl) (by kernel_rfl) (by kernel_rfl) (by decide) ?hQ21_0 ?hy21_0 HS.out ?more21_0
        case hi21_0 => rw [List.getElem?_toArray]; exact rfl
        case hQ21_0 => exact fun _ _ _ h => h
        case hy21_0 =>
          refine Or.inl ⟨by rfl, ?_⟩
          intro w' hSw
          clear hSw
          go_simp
          try with_reducible rfl
        simp only [Act.put, List.setIfInBounds_toArray, List.set_cons_zero, List.set_cons_succ]
        refine wpAnyN_takeF (i := 22) (oi := ?o22_0) (v := ?v22_0) ?hi22_0 (by kernel_rfl) (by kernel_rfl) (by kernel_rfl) (by decide) ?hQ22_0 ?hy22_0 HS.out ?more22_0
        case hi22_0 => rw [List.getElem?_toArray]; exact rfl
        case hQ22_0 => exact fun _ _ _ h => h
        case hy22_0 =>
          refine Or.inl ⟨by rfl, ?_⟩
          intro w' hSw
          clear hSw
          go_simp
          try with_reducible rfl
        simp only [Act.put, List.setIfInBounds_toArray, List.set_cons_zero, List.set_cons_succ]
        refine wpAnyN_takeF (i := 23) (oi := ?o23_0) (v := ?v23_0) ?hi23_0 (by kernel_rfl) (by kernel_rfl) (by kernel_rfl) (by decide) ?hQ23_0 ?hy23_0 HS.out ?more23_0
        case hi23_0 => rw [List.getElem?_toArray]; exact rfl
        case hQ23_0 => exact fun _ _ _ h => h
        case hy23_0 =>
          refine Or.inl ⟨by rfl, ?_⟩
          intro w' hSw
          clear hSw
          go_simp
          try with_reducible rfl
        simp only [Act.put, List.setIfInBounds_toArray, List.set_cons_zero, List.set_cons_succ]
        refine wpAnyN_takeF (i := 24) (oi := ?o24_0) (v := ?v24_0) ?hi24_0 (by kernel_rfl) (by kernel_rfl) (by kernel_rfl) (by decide) ?hQ24_0 ?hy24_0 HS.out ?more24_0
        case hi24_0 => rw [List.getElem?_toArray]; exact rfl
        case hQ24_0 => exact fun _ _ _ h => h
        case hy24_0 =>
          refine Or.inl ⟨by rfl, ?_⟩
          intro w' hSw
          clear hSw
          go_simp
          try with_reducible rfl
        simp only [Act.put, List.setIfInBounds_toArray, List.set_cons_zero, List.set_cons_succ]
        refine wpAnyN_takeF (i := 25) (oi := ?o25_0) (v := ?v25_0) ?hi25_0 (by kernel_rfl) (by kernel_rfl) (by kernel_rfl) (by decide) ?hQ25_0 ?hy25_0 HS.out ?more25_0
        case hi25_0 => rw [List.getElem?_toArray]; exact rfl
        case hQ25_0 => exact fun _ _ _ h => h
        case hy25_0 =>
          refine Or.inl ⟨by rfl, ?_⟩
          intro w' hSw
          clear hSw
          go_simp
          try with_reducible rfl
        simp only [Act.put, List.setIfInBounds_toArray, List.set_cons_zero, List.set_cons_succ]
        refine wpAnyN_one (i := 26) (o := ?o26_0) (by kernel_rfl) ?hi26_0 ?hw26_0 ?st26_0
        case hi26_0 => rw [List.getElem?_toArray]; exact rfl
        case hw26_0 => exact rfl
        intro K hK
        have HK26 : Hid _ := hK
        clear hK
        go_simp
        refine HK26.out _ _ ⟨fun h => absurd h (by decide +kernel), ?_⟩
        clear HK26 K
        try simp only [Act.put, List.setIfInBounds_toArray, List.set_cons_zero, List.set_cons_succ]
        refine wpAnyN_done (by kernel_rfl) ?_ _
        go_wp2_with fail
        go_end0
        rw [← HB.out, ← HVV.out]
        refine ⟨rfl, ?_, (But.drew HU.out).set _⟩
        have e : firmB x.n x.f 0 (cnt3 c0 c1 c2 0) = decide (D ≤ c0) := by
          unfold firmB
          rw [← HD.out]
          simp [cnt3]
        rw [e]
        exact (NodeAt.drew HN.out).setm
      · refine wp_region_N (fun w' => w'.cell? ⟨g, 0, none⟩ = some (.int .i64 (x.n : Nat)) ∧ w'.cell? ⟨g, 1, none⟩ = some (.int .i64 (F : Nat)) ∧ w'.cell? ⟨g, 2, none⟩ = some (.int .i64 ((1 : Nat) : Int)) ∧ w'.cell? ⟨B, 0, none⟩ = some (.int .i64 (c0 : Nat)) ∧ w'.cell? ⟨B, 1, none⟩ = some (.int .i64 (c1 : Nat)) ∧ w'.cell? ⟨B, 2, none⟩ = some (.int .i64 (c2 : Nat))) 26 27 rfl (by kernel_rfl) ?_
        refine wpAnyN_takeF (i := 0) (oi := ?o0_1) (v := ?v0_1) ?hi0_1 (by kernel_rfl) (by kernel_rfl) (by kernel_rfl) (by decide) ?hQ0_1 ?hy0_1 HS.out ?more0_1
        case hi0_1 => rw [List.getElem?_toArray]; exact rfl
        case hQ0_1 => exact fun _ _ _ h => h
        case hy0_1 =>
          refine Or.inl ⟨by rfl, ?_⟩
          intro w' hSw
          clear hSw
          go_simp
          try with_reducible rfl
        simp only [Act.put, List.setIfInBounds_toArray, List.set_cons_zero, List.set_cons_succ]
        refine wpAnyN_takeF (i := 1) (oi := ?o1_1) (v := ?v1_1) ?hi1_1 (by kernel_rfl) (by kernel_rfl) (by kernel_rfl) (by decide) ?hQ1_1 ?hy1_1 HS.out ?more1_1
        case hi1_1 => rw [List.getElem?_toArray]; exact rfl
        case hQ1_1 => exact fun _ _ _ h => h
        case hy1_1 =>
          refine Or.inl ⟨by rfl, ?_⟩
          intro w' hSw
          clear hSw
          go_simp
          try with_reducible rfl
        simp only [Act.put, List.setIfInBounds_toArray, List.set_cons_zero, List.set_cons_succ]
        refine wpAnyN_takeF (i := 2) (oi := ?o2_1) (v := ?v2_1) ?hi2_1 (by kernel_rfl) (by kernel_rfl) (by kernel_rfl) (by decide) ?hQ2_1 ?hy2_1 HS.out ?more2_1
        case hi2_1 => rw [List.getElem?_toArray]; exact rfl
        case hQ2_1 => exact fun _ _ _ h => h
        case hy2_1 =>
          refine Or.inl ⟨by rfl, ?_⟩
          intro w' hSw
          clear hSw
          go_simp
          try with_reducible rfl
        simp only [Act.put, List.setIfInBounds_toArray, List.set_cons_zero, List.set_cons_succ]
        refine wpAnyN_takeF (i := 3) (oi := ?o3_1) (v := ?v3_1) ?hi3_1 (by kernel_rfl) (by kernel_rfl) (by kernel_rfl) (by decide) ?hQ3_1 ?hy3_1 HS.out ?more3_1
        case hi3_1 => rw [List.getElem?_toArray]; exact rfl
        case hQ3_1 => exact fun _ _ _ h => h
        case hy3_1 =>
          refine Or.inl ⟨by rfl, ?_⟩
          intro w' hSw
          clear hSw
          go_simp
          try with_reducible rfl
        simp only [Act.put, List.setIfInBounds_toArray, List.set_cons_zero, List.set_cons_succ]
        refine wpAnyN_takeL (i := 4) (oi := ?o4_1) (v := ?v4_1) [5, 6, 26] ?hi4_1 (by kernel_rfl) (by kernel_rfl) (by kernel_rfl) (by kernel_rfl) (by decide) (by decide) (by kernel_rfl) ?hQ4_1 ?hy4_1 HS.out ?more4_1
        case hi4_1 => rw [List.getElem?_toArray]; exact rfl
        case hQ4_1 => exact fun _ _ _ h => h
        case hy4_1 =>
          refine Or.inl ⟨by rfl, ?_⟩
          intro w' hSw
          obtain ⟨n0, n1, n2, t0, t1, t2⟩ := hSw
          go_simp
          try with_reducible rfl
        simp only [Act.put, List.setIfInBounds_toArray, List.set_cons_zero, List.set_cons_succ]
        refine wpAnyN_takeF (i := 5) (oi := ?o5_1) (v := ?v5_1) ?hi5_1 (by kernel_rfl) (by kernel_rfl) (by kernel_rfl) (by decide) ?hQ5_1 ?hy5_1 HS.out ?more5_1
        case hi5_1 => rw [List.getElem?_toArray]; exact rfl
        case hQ5_1 => exact fun _ _ _ h => h
        case hy5_1 =>
          refine Or.inl ⟨by rfl, ?_⟩
          intro w' hSw
          clear hSw
          go_simp
          try with_reducible rfl
        simp only [Act.put, List.setIfInBounds_toArray, List.set_cons_zero, List.set_cons_succ]
        refine wpAnyN_takeF (i := 6) (oi := ?o6_1) (v := ?v6_1) ?hi6_1 (by kernel_rfl) (by kernel_rfl) (by kernel_rfl) (by decide) ?hQ6_1 ?hy6_1 HS.out ?more6_1
        case hi6_1 => rw [List.getElem?_toArray]; exact rfl
        case hQ6_1 => exact fun _ _ _ h => h
        case hy6_1 =>
          refine Or.inl ⟨by rfl, ?_⟩
          intro w' hSw
          clear hSw
          go_simp
          try with_reducible rfl
        simp only [Act.put, List.setIfInBounds_toArray, List.set_cons_zero, List.set_cons_succ]
        refine wpAnyN_takeF (i := 7) (oi := ?o7_1) (v := ?v7_1) ?hi7_1 (by kernel_rfl) (by kernel_rfl) (by kernel_rfl) (by decide) ?hQ7_1 ?hy7_1 HS.out ?more7_1
        case hi7_1 => rw [List.getElem?_toArray]; exact rfl
        case hQ7_1 => exact fun _ _ _ h => h
        case hy7_1 =>
          refine Or.inl ⟨by rfl, ?_⟩
          intro w' hSw
          clear hSw
          go_simp
          try with_reducible rfl
        simp only [Act.put, List.setIfInBounds_toArray, List.set_cons_zero, List.set_cons_succ]
        refine wpAnyN_takeF (i := 8) (oi := ?o8_1) (v := ?v8_1) ?hi8_1 (by kernel_rfl) (by kernel_rfl) (by kernel_rfl) (by decide) ?hQ8_1 ?hy8_1 HS.out ?more8_1
        case hi8_1 => rw [List.getElem?_toArray]; exact rfl
        case hQ8_1 => exact fun _ _ _ h => h
        case hy8_1 =>
          refine Or.inl ⟨by rfl, ?_⟩
          intro w' hSw
          clear hSw
          go_simp
          try with_reducible rfl
        simp only [Act.put, List.setIfInBounds_toArray, List.set_cons_zero, List.set_cons_succ]
        refine wpAnyN_takeF (i := 9) (oi := ?o9_1) (v := ?v9_1) ?hi9_1 (by kernel_rfl) (by kernel_rfl) (by kernel_rfl) (by decide) ?hQ9_1 ?hy9_1 HS.out ?more9_1
        case hi9_1 => rw [List.getElem?_toArray]; exact rfl
        case hQ9_1 => exact fun _ _ _ h => h
        case hy9_1 =>
          refine Or.inl ⟨by rfl, ?_⟩
          intro w' hSw
          clear hSw
          go_simp
          try with_reducible rfl
        simp only [Act.put, List.setIfInBounds_toArray, List.set_cons_zero, List.set_cons_succ]
        refine wpAnyN_takeL (i := 10) (oi := ?o10_1) (v := ?v10_1) [26] ?hi10_1 (by kernel_rfl) (by kernel_rfl) (by kernel_rfl) (by kernel_rfl) (by decide) (by decide) (by kernel_rfl) ?hQ10_1 ?hy10_1 HS.out ?more10_1
        case hi10_1 => rw [List.getElem?_toArray]; exact rfl
        case hQ10_1 => exact fun _ _ _ h => h
        case hy10_1 =>
          refine Or.inl ⟨by rfl, ?_⟩
          intro w' hSw
          obtain ⟨n0, n1, n2, t0, t1, t2⟩ := hSw
          go_simp
          try with_reducible rfl
        simp only [Act.put, List.setIfInBounds_toArray, List.set_cons_zero, List.set_cons_succ]
        refine wpAnyN_takeF (i := 11) (oi := ?o11_1) (v := ?v11_1) ?hi11_1 (by kernel_rfl) (by kernel_rfl) (by kernel_rfl) (by decide) ?hQ11_1 ?hy11_1 HS.out ?more11_1
        case hi11_1 => rw [List.getElem?_toArray]; exact rfl
        case hQ11_1 => exact fun _ _ _ h => h
        case hy11_1 =>
          refine Or.inl ⟨by rfl, ?_⟩
          intro w' hSw
          clear hSw
          go_simp
          try with_reducible rfl
        simp only [Act.put, List.setIfInBounds_toArray, List.set_cons_zero, List.set_cons_succ]
        refine wpAnyN_takeL (i := 12) (oi := ?o12_1) (v := ?v12_1) [26] ?hi12_1 (by kernel_rfl) (by kernel_rfl) (by kernel_rfl) (by kernel_rfl) (by decide) (by decide) (by kernel_rfl) ?hQ12_1 ?hy12_1 HS.out ?more12_1
        case hi12_1 => rw [List.getElem?_toArray]; exact rfl
        case hQ12_1 => exact fun _ _ _ h => h
        case hy12_1 =>
          refine Or.inl ⟨by rfl, ?_⟩
          intro w' hSw
          obtain ⟨n0, n1, n2, t0, t1, t2⟩ := hSw
          go_simp
          try with_reducible rfl
        simp only [Act.put, List.setIfInBounds_toArray, List.set_cons_zero, List.set_cons_succ]
        refine wpAnyN_takeF (i := 13) (oi := ?o13_1) (v := ?v13_1) ?hi13_1 (by kernel_rfl) (by kernel_rfl) (by kernel_rfl) (by decide) ?hQ13_1 ?hy13_1 HS.out ?more13_1
        case hi13_1 => rw [List.getElem?_toArray]; exact rfl
        case hQ13_1 => exact fun _ _ _ h => h
        case hy13_1 =>
          refine Or.inl ⟨by rfl, ?_⟩
          intro w' hSw
          clear hSw
          go_simp
          try with_reducible rfl
        simp only [Act.put, List.setIfInBounds_toArray, List.set_cons_zero, List.set_cons_succ]
        refine wpAnyN_takeF (i := 14) (oi := ?o14_1) (v := ?v14_1) ?hi14_1 (by kernel_rfl) (by kernel_rfl) (by kernel_rfl) (by decide) ?hQ14_1 ?hy14_1 HS.out ?more14_1
        case hi14_1 => rw [List.getElem?_toArray]; exact rfl
        case hQ14_1 => exact fun _ _ _ h => h
        case hy14_1 =>
          refine Or.inl ⟨by rfl, ?_⟩
          intro w' hSw
          clear hSw
          go_simp
          try with_reducible rfl
        simp only [Act.put, List.setIfInBounds_toArray, List.set_cons_zero, List.set_cons_succ]
        refine wpAnyN_takeF (i := 15) (oi := ?o15_1) (v := ?v15_1) ?hi15_1 (by kernel_rfl) (by kernel_rfl) (by kernel_rfl) (by decide) ?hQ15_1 ?hy15_1 HS.out ?more15_1
        case hi15_1 => rw [List.getElem?_toArray]; exact rfl
        case hQ15_1 => exact fun _ _ _ h => h
        case hy15_1 =>
          refine Or.inl ⟨by rfl, ?_⟩
          intro w' hSw
          clear hSw
          go_simp
          try with_reducible rfl
        simp only [Act.put, List.setIfInBounds_toArray, List.set_cons_zero, List.set_cons_succ]
        refine wpAnyN_takeL (i := 16) (oi := ?o16_1) (v := ?v16_1) [21, 22, 23, 26] ?hi16_1 (by kernel_rfl) (by kernel_rfl) (by kernel_rfl) (by kernel_rfl) (by decide) (by decide) (by kernel_rfl) ?hQ16_1 ?hy16_1 HS.out ?more16_1
        case hi16_1 => rw [List.getElem?_toArray]; exact rfl
        case hQ16_1 => exact fun _ _ _ h => h
        case hy16_1 =>
          refine Or.inl ⟨by rfl, ?_⟩
          intro w' hSw
          obtain ⟨n0, n1, n2, t0, t1, t2⟩ := hSw
          go_simp
          try with_reducible rfl
        simp only [Act.put, List.setIfInBounds_toArray, List.set_cons_zero, List.set_cons_succ]
        refine wpAnyN_takeF (i := 17) (oi := ?o17_1) (v := ?v17_1) ?hi17_1 (by kernel_rfl) (by kernel_rfl) (by kernel_rfl) (by decide) ?hQ17_1 ?hy17_1 HS.out ?more17_1
        case hi17_1 => rw [List.getElem?_toArray]; exact rfl
        case hQ17_1 => exact fun _ _ _ h => h
        case hy17_1 =>
          refine Or.inl ⟨by rfl, ?_⟩
          intro w' hSw
          clear hSw
          go_simp
          try with_reducible rfl
        simp only [Act.put, List.setIfInBounds_toArray, List.set_cons_zero, List.set_cons_succ]
        refine wpAnyN_takeF (i := 18) (oi := ?o18_1) (v := ?v18_1) ?hi18_1 (by kernel_rfl) (by kernel_rfl) (by kernel_rfl) (by decide) ?hQ18_1 ?hy18_1 HS.out ?more18_1
        case hi18_1 => rw [List.getElem?_toArray]; exact rfl
        case hQ18_1 => exact fun _ _ _ h => h
        case hy18_1 =>
          refine Or.inl ⟨by rfl, ?_⟩
          intro w' hSw
          clear hSw
          go_simp
          try with_reducible rfl
        simp only [Act.put, List.setIfInBounds_toArray, List.set_cons_zero, List.set_cons_succ]
        refine wpAnyN_takeF (i := 19) (oi := ?o19_1) (v := ?v19_1) ?hi19_1 (by kernel_rfl) (by kernel_rfl) (by kernel_rfl) (by decide) ?hQ19_1 ?hy19_1 HS.out ?more19_1
        case hi19_1 => rw [List.getElem?_toArray]; exact rfl
        case hQ19_1 => exact fun _ _ _ h => h
        case hy19_1 =>
          refine Or.inl ⟨by rfl, ?_⟩
          intro w' hSw
          clear hSw
          go_simp
          try with_reducible rfl
        simp only [Act.put, List.setIfInBounds_toArray, List.set_cons_zero, List.set_cons_succ]
        refine wpAnyN_takeL (i := 20) (oi := ?o20_1) (v := ?v20_1) [21, 22, 23, 26] ?hi20_1 (by kernel_rfl) (by kernel_rfl) (by kernel_rfl) (by kernel_rfl) (by decide) (by decide) (by kernel_rfl) ?hQ20_1 ?hy20_1 HS.out ?more20_1
        case hi20_1 => rw [List.getElem?_toArray]; exact rfl
        case hQ20_1 => exact fun _ _ _ h => h
        case hy20_1 =>
          refine Or.inl ⟨by rfl, ?_⟩
          intro w' hSw
          obtain ⟨n0, n1, n2, t0, t1, t2⟩ := hSw
          go_simp
          try with_reducible rfl
        simp only [Act.put, List.setIfInBounds_toArray, List.set_cons_zero, List.set_cons_succ]
        refine wpAnyN_takeF (i := 21) (oi := ?o21_1) (v := ?v21_1) ?hi21_1 (by kernel_rfl) (by kernel_rfl) (by kernel_rfl) (by decide) ?hQ21_1 ?hy21_1 HS.out ?more21_1
        case hi21_1 => rw [List.getElem?_toArray]; exact rfl
        case hQ21_1 => exact fun _ _ _ h => h
        case hy21_1 =>
          refine Or.inl ⟨by rfl, ?_⟩
          intro w' hSw
          clear hSw
          go_simp
          try with_reducible rfl
        simp only [Act.put, List.setIfInBounds_toArray, List.set_cons_zero, List.set_cons_succ]
        refine wpAnyN_takeF (i := 22) (oi := ?o22_1) (v := ?v22_1) ?hi22_1 (by kernel_rfl) (by kernel_rfl) (by kernel_rfl) (by decide) ?hQ22_1 ?hy22_1 HS.out ?more22_1
        case hi22_1 => rw [List.getElem?_toArray]; exact rfl
        case hQ22_1 => exact fun _ _ _ h => h
        case hy22_1 =>
          refine Or.inl ⟨by rfl, ?_⟩
          intro w' hSw
          clear hSw
          go_simp
          try with_reducible rfl
        simp only [Act.put, List.setIfInBounds_toArray, List.set_cons_zero, List.set_cons_succ]
        refine wpAnyN_takeF (i := 23) (oi := ?o23_1) (v := ?v23_1) ?hi23_1 (by kernel_rfl) (by kernel_rfl) (by kernel_rfl) (by decide) ?hQ23_1 ?hy23_1 HS.out ?more23_1
        case hi23_1 => rw [List.getElem?_toArray]; exact rfl
        case hQ23_1 => exact fun _ _ _ h => h
        case hy23_1 =>
          refine Or.inl ⟨by rfl, ?_⟩
          intro w' hSw
          clear hSw
          go_simp
          try with_reducible rfl
        simp only [Act.put, List.setIfInBounds_toArray, List.set_cons_zero, List.set_cons_succ]
        refine wpAnyN_takeF (i := 24) (oi := ?o24_1) (v := ?v24_1) ?hi24_1 (by kernel_rfl) (by kernel_rfl) (by kernel_rfl) (by decide) ?hQ24_1 ?hy24_1 HS.out ?more24_1
        case hi24_1 => rw [List.getElem?_toArray]; exact rfl
        case hQ24_1 => exact fun _ _ _ h => h
        case hy24_1 =>
          refine Or.inl ⟨by rfl, ?_⟩
          intro w' hSw
          clear hSw
          go_simp
          try with_reducible rfl
        simp only [Act.put, List.setIfInBounds_toArray, List.set_cons_zero, List.set_cons_succ]
        refine wpAnyN_takeF (i := 25) (oi := ?o25_1) (v := ?v25_1) ?hi25_1 (by kernel_rfl) (by kernel_rfl) (by kernel_rfl) (by decide) ?hQ25_1 ?hy25_1 HS.out ?more25_1
        case hi25_1 => rw [List.getElem?_toArray]; exact rfl
        case hQ25_1 => exact fun _ _ _ h => h
        case hy25_1 =>
          refine Or.inl ⟨by rfl, ?_⟩
          intro w' hSw
          clear hSw
          go_simp
          try with_reducible rfl
        simp only [Act.put, List.setIfInBounds_toArray, List.set_cons_zero, List.set_cons_succ]
        refine wpAnyN_one (i := 26) (o := ?o26_1) (by kernel_rfl) ?hi26_1 ?hw26_1 ?st26_1
        case hi26_1 => rw [List.getElem?_toArray]; exact rfl
        case hw26_1 => exact rfl
        intro K hK
        have HK26 : Hid _ := hK
        clear hK
        go_simp
        refine HK26.out _ _ ⟨fun h => absurd h (by decide +kernel), ?_⟩
        clear HK26 K
        try simp only [Act.put, List.setIfInBounds_toArray, List.set_cons_zero, List.set_cons_succ]
        refine wpAnyN_done (by kernel_rfl) ?_ _
        go_wp2_with fail
        go_end0
        rw [← HB.out, ← HVV.out]
        refine ⟨rfl, ?_, (But.drew HU.out).set _⟩
        have e : firmB x.n x.f 1 (cnt3 c0 c1 c2 1) = decide (D ≤ c1) := by
          unfold firmB
          rw [← HD.out]
          simp [cnt3]
        rw [e]
        exact (NodeAt.drew HN.out).setm
      · refine wp_region_N (fun w' => w'.cell? ⟨g, 0, none⟩ = some (.int .i64 (x.n : Nat)) ∧ w'.cell? ⟨g, 1, none⟩ = some (.int .i64 (F : Nat)) ∧ w'.cell? ⟨g, 2, none⟩ = some (.int .i64 ((2 : Nat) : Int)) ∧ w'.cell? ⟨B, 0, none⟩ = some (.int .i64 (c0 : Nat)) ∧ w'.cell? ⟨B, 1, none⟩ = some (.int .i64 (c1 : Nat)) ∧ w'.cell? ⟨B, 2, none⟩ = some (.int .i64 (c2 : Nat))) 26 27 rfl (by kernel_rfl) ?_
        refine wpAnyN_takeF (i := 0) (oi := ?o0_2) (v := ?v0_2) ?hi0_2 (by kernel_rfl) (by kernel_rfl) (by kernel_rfl) (by decide) ?hQ0_2 ?hy0_2 HS.out ?more0_2
        case hi0_2 => rw [List.getElem?_toArray]; exact rfl
        case hQ0_2 => exact fun _ _ _ h => h
        case hy0_2 =>
          refine Or.inl ⟨by rfl, ?_⟩
          intro w' hSw
          clear hSw
          go_simp
          try with_reducible rfl
        simp only [Act.put, List.setIfInBounds_toArray, List.set_cons_zero, List.set_cons_succ]
        refine wpAnyN_takeF (i := 1) (oi := ?o1_2) (v := ?v1_2) ?hi1_2 (by kernel_rfl) (by kernel_rfl) (by kernel_rfl) (by decide) ?hQ1_2 ?hy1_2 HS.out ?more1_2
        case hi1_2 => rw [List.getElem?_toArray]; exact rfl
        case hQ1_2 => exact fun _ _ _ h => h
        case hy1_2 =>
          refine Or.inl ⟨by rfl, ?_⟩
          intro w' hSw
          clear hSw
          go_simp
          try with_reducible rfl
        simp only [Act.put, List.setIfInBounds_toArray, List.set_cons_zero, List.set_cons_succ]
        refine wpAnyN_takeF (i := 2) (oi := ?o2_2) (v := ?v2_2) ?hi2_2 (by kernel_rfl) (by kernel_rfl) (by kernel_rfl) (by decide) ?hQ2_2 ?hy2_2 HS.out ?more2_2
        case hi2_2 => rw [List.getElem?_toArray]; exact rfl
        case hQ2_2 => exact fun _ _ _ h => h
        case hy2_2 =>
          refine Or.inl ⟨by rfl, ?_⟩
          intro w' hSw
          clear hSw
          go_simp
          try with_reducible rfl
        simp only [Act.put, List.setIfInBounds_toArray, List.set_cons_zero, List.set_cons_succ]
        refine wpAnyN_takeF (i := 3) (oi := ?o3_2) (v := ?v3_2) ?hi3_2 (by kernel_rfl) (by kernel_rfl) (by kernel_rfl) (by decide) ?hQ3_2 ?hy3_2 HS.out ?more3_2
        case hi3_2 => rw [List.getElem?_toArray]; exact rfl
        case hQ3_2 => exact fun _ _ _ h => h
        case hy3_2 =>
          refine Or.inl ⟨by rfl, ?_⟩
          intro w' hSw
          clear hSw
          go_simp
          try with_reducible rfl
        simp only [Act.put, List.setIfInBounds_toArray, List.set_cons_zero, List.set_cons_succ]
        refine wpAnyN_takeL (i := 4) (oi := ?o4_2) (v := ?v4_2) [5, 6, 26] ?hi4_2 (by kernel_rfl) (by kernel_rfl) (by kernel_rfl) (by kernel_rfl) (by decide) (by decide) (by kernel_rfl) ?hQ4_2 ?hy4_2 HS.out ?more4_2
        case hi4_2 => rw [List.getElem?_toArray]; exact rfl
        case hQ4_2 => exact fun _ _ _ h => h
        case hy4_2 =>
          refine Or.inl ⟨by rfl, ?_⟩
          intro w' hSw
          obtain ⟨n0, n1, n2, t0, t1, t2⟩ := hSw
          go_simp
          try with_reducible rfl
        simp only [Act.put, List.setIfInBounds_toArray, List.set_cons_zero, List.set_cons_succ]
        refine wpAnyN_takeF (i := 5) (oi := ?o5_2) (v := ?v5_2) ?hi5_2 (by kernel_rfl) (by kernel_rfl) (by kernel_rfl) (by decide) ?hQ5_2 ?hy5_2 HS.out ?more5_2
        case hi5_2 => rw [List.getElem?_toArray]; exact rfl
        case hQ5_2 => exact fun _ _ _ h => h
        case hy5_2 =>
          refine Or.inl ⟨by rfl, ?_⟩
          intro w' hSw
          clear hSw
          go_simp
          try with_reducible rfl
        simp only [Act.put, List.setIfInBounds_toArray, List.set_cons_zero, List.set_cons_succ]
        refine wpAnyN_takeF (i := 6) (oi := ?o6_2) (v := ?v6_2) ?hi6_2 (by kernel_rfl) (by kernel_rfl) (by kernel_rfl) (by decide) ?hQ6_2 ?hy6_2 HS.out ?more6_2
        case hi6_2 => rw [List.getElem?_toArray]; exact rfl
        case hQ6_2 => exact fun _ _ _ h => h
        case hy6_2 =>
          refine Or.inl ⟨by rfl, ?_⟩
          intro w' hSw
          clear hSw
          go_simp
          try with_reducible rfl
        simp only [Act.put, List.setIfInBounds_toArray, List.set_cons_zero, List.set_cons_succ]
        refine wpAnyN_takeF (i := 7) (oi := ?o7_2) (v := undef) ?hi7_2 (by kernel_rfl) (by kernel_rfl) (by kernel_rfl) (by decide) ?hQ7_2 ?hy7_2 HS.out ?more7_2
        case hi7_2 => rw [List.getElem?_toArray]; exact rfl
        case hQ7_2 => exact fun _ _ _ h => h
        case hy7_2 => exact Or.inr ⟨by rfl, rfl⟩
        simp only [Act.put, List.setIfInBounds_toArray, List.set_cons_zero, List.set_cons_succ]
        refine wpAnyN_takeF (i := 8) (oi := ?o8_2) (v := undef) ?hi8_2 (by kernel_rfl) (by kernel_rfl) (by kernel_rfl) (by decide) ?hQ8_2 ?hy8_2 HS.out ?more8_2
        case hi8_2 => rw [List.getElem?_toArray]; exact rfl
        case hQ8_2 => exact fun _ _ _ h => h
        case hy8_2 => exact Or.inr ⟨by rfl, rfl⟩
        simp only [Act.put, List.setIfInBounds_toArray, List.set_cons_zero, List.set_cons_succ]
        refine wpAnyN_takeF (i := 9) (oi := ?o9_2) (v := undef) ?hi9_2 (by kernel_rfl) (by kernel_rfl) (by kernel_rfl) (by decide) ?hQ9_2 ?hy9_2 HS.out ?more9_2
        case hi9_2 => rw [List.getElem?_toArray]; exact rfl
        case hQ9_2 => exact fun _ _ _ h => h
        case hy9_2 => exact Or.inr ⟨by rfl, rfl⟩
        simp only [Act.put, List.setIfInBounds_toArray, List.set_cons_zero, List.set_cons_succ]
        refine wpAnyN_takeF (i := 10) (oi := ?o10_2) (v := undef) ?hi10_2 (by kernel_rfl) (by kernel_rfl) (by kernel_rfl) (by decide) ?hQ10_2 ?hy10_2 HS.out ?more10_2
        case hi10_2 => rw [List.getElem?_toArray]; exact rfl
        case hQ10_2 => exact fun _ _ _ h => h
        case hy10_2 => exact Or.inr ⟨by rfl, rfl⟩
        simp only [Act.put, List.setIfInBounds_toArray, List.set_cons_zero, List.set_cons_succ]
        refine wpAnyN_takeF (i := 11) (oi := ?o11_2) (v := undef) ?hi11_2 (by kernel_rfl) (by kernel_rfl) (by kernel_rfl) (by decide) ?hQ11_2 ?hy11_2 HS.out ?more11_2
        case hi11_2 => rw [List.getElem?_toArray]; exact rfl
        case hQ11_2 => exact fun _ _ _ h => h
        case hy11_2 => exact Or.inr ⟨by rfl, rfl⟩
        simp only [Act.put, List.setIfInBounds_toArray, List.set_cons_zero, List.set_cons_succ]
        refine wpAnyN_takeF (i := 12) (oi := ?o12_2) (v := undef) ?hi12_2 (by kernel_rfl) (by kernel_rfl) (by kernel_rfl) (by decide) ?hQ12_2 ?hy12_2 HS.out ?more12_2
        case hi12_2 => rw [List.getElem?_toArray]; exact rfl
        case hQ12_2 => exact fun _ _ _ h => h
        case hy12_2 => exact Or.inr ⟨by rfl, rfl⟩
        simp only [Act.put, List.setIfInBounds_toArray, List.set_cons_zero, List.set_cons_succ]
        refine wpAnyN_takeF (i := 13) (oi := ?o13_2) (v := undef) ?hi13_2 (by kernel_rfl) (by kernel_rfl) (by kernel_rfl) (by decide) ?hQ13_2 ?hy13_2 HS.out ?more13_2
        case hi13_2 => rw [List.getElem?_toArray]; exact rfl
        case hQ13_2 => exact fun _ _ _ h => h
        case hy13_2 => exact Or.inr ⟨by rfl, rfl⟩
        simp only [Act.put, List.setIfInBounds_toArray, List.set_cons_zero, List.set_cons_succ]
        refine wpAnyN_takeF (i := 14) (oi := ?o14_2) (v := undef) ?hi14_2 (by kernel_rfl) (by kernel_rfl) (by kernel_rfl) (by decide) ?hQ14_2 ?hy14_2 HS.out ?more14_2
        case hi14_2 => rw [List.getElem?_toArray]; exact rfl
        case hQ14_2 => exact fun _ _ _ h => h
        case hy14_2 => exact Or.inr ⟨by rfl, rfl⟩
        simp only [Act.put, List.setIfInBounds_toArray, List.set_cons_zero, List.set_cons_succ]
        refine wpAnyN_takeF (i := 15) (oi := ?o15_2) (v := undef) ?hi15_2 (by kernel_rfl) (by kernel_rfl) (by kernel_rfl) (by decide) ?hQ15_2 ?hy15_2 HS.out ?more15_2
        case hi15_2 => rw [List.getElem?_toArray]; exact rfl
        case hQ15_2 => exact fun _ _ _ h => h
        case hy15_2 => exact Or.inr ⟨by rfl, rfl⟩
        simp only [Act.put, List.setIfInBounds_toArray, List.set_cons_zero, List.set_cons_succ]
        refine wpAnyN_takeF (i := 16) (oi := ?o16_2) (v := undef) ?hi16_2 (by kernel_rfl) (by kernel_rfl) (by kernel_rfl) (by decide) ?hQ16_2 ?hy16_2 HS.out ?more16_2
        case hi16_2 => rw [List.getElem?_toArray]; exact rfl
        case hQ16_2 => exact fun _ _ _ h => h
        case hy16_2 => exact Or.inr ⟨by rfl, rfl⟩
        simp only [Act.put, List.setIfInBounds_toArray, List.set_cons_zero, List.set_cons_succ]
        refine wpAnyN_takeF (i := 17) (oi := ?o17_2) (v := undef) ?hi17_2 (by kernel_rfl) (by kernel_rfl) (by kernel_rfl) (by decide) ?hQ17_2 ?hy17_2 HS.out ?more17_2
        case hi17_2 => rw [List.getElem?_toArray]; exact rfl
        case hQ17_2 => exact fun _ _ _ h => h
        case hy17_2 => exact Or.inr ⟨by rfl, rfl⟩
        simp only [Act.put, List.setIfInBounds_toArray, List.set_cons_zero, List.set_cons_succ]
        refine wpAnyN_takeF (i := 18) (oi := ?o18_2) (v := undef) ?hi18_2 (by kernel_rfl) (by kernel_rfl) (by kernel_rfl) (by decide) ?hQ18_2 ?hy18_2 HS.out ?more18_2
        case hi18_2 => rw [List.getElem?_toArray]; exact rfl
        case hQ18_2 => exact fun _ _ _ h => h
        case hy18_2 => exact Or.inr ⟨by rfl, rfl⟩
        simp only [Act.put, List.setIfInBounds_toArray, List.set_cons_zero, List.set_cons_succ]
        refine wpAnyN_takeF (i := 19) (oi := ?o19_2) (v := undef) ?hi19_2 (by kernel_rfl) (by kernel_rfl) (by kernel_rfl) (by decide) ?hQ19_2 ?hy19_2 HS.out ?more19_2
        case hi19_2 => rw [List.getElem?_toArray]; exact rfl
        case hQ19_2 => exact fun _ _ _ h => h
        case hy19_2 => exact Or.inr ⟨by rfl, rfl⟩
        simp only [Act.put, List.setIfInBounds_toArray, List.set_cons_zero, List.set_cons_succ]
        refine wpAnyN_takeF (i := 20) (oi := ?o20_2) (v := undef) ?hi20_2 (by kernel_rfl) (by kernel_rfl) (by kernel_rfl) (by decide) ?hQ20_2 ?hy20_2 HS.out ?more20_2
        case hi20_2 => rw [List.getElem?_toArray]; exact rfl
        case hQ20_2 => exact fun _ _ _ h => h
        case hy20_2 => exact Or.inr ⟨by rfl, rfl⟩
        simp only [Act.put, List.setIfInBounds_toArray, List.set_cons_zero, List.set_cons_succ]
        refine wpAnyN_takeF (i := 21) (oi := ?o21_2) (v := undef) ?hi21_2 (by kernel_rfl) (by kernel_rfl) (by kernel_rfl) (by decide) ?hQ21_2 ?hy21_2 HS.out ?more21_2
        case hi21_2 => rw [List.getElem?_toArray]; exact rfl
        case hQ21_2 => exact fun _ _ _ h => h
        case hy21_2 => exact Or.inr ⟨by rfl, rfl⟩
        simp only [Act.put, List.setIfInBounds_toArray, List.set_cons_zero, List.set_cons_succ]
        refine wpAnyN_takeF (i := 22) (oi := ?o22_2) (v := undef) ?hi22_2 (by kernel_rfl) (by kernel_rfl) (by kernel_rfl) (by decide) ?hQ22_2 ?hy22_2 HS.out ?more22_2
        case hi22_2 => rw [List.getElem?_toArray]; exact rfl
        case hQ22_2 => exact fun _ _ _ h => h
        case hy22_2 => exact Or.inr ⟨by rfl, rfl⟩
        simp only [Act.put, List.setIfInBounds_toArray, List.set_cons_zero, List.set_cons_succ]
        refine wpAnyN_takeF (i := 23) (oi := ?o23_2) (v := ?v23_2) ?hi23_2 (by kernel_rfl) (by kernel_rfl) (by kernel_rfl) (by decide) ?hQ23_2 ?hy23_2 HS.out ?more23_2
        case hi23_2 => rw [List.getElem?_toArray]; exact rfl
        case hQ23_2 => exact fun _ _ _ h => h
        case hy23_2 =>
          refine Or.inl ⟨by rfl, ?_⟩
          intro w' hSw
          clear hSw
          go_simp
          try with_reducible rfl
        simp only [Act.put, List.setIfInBounds_toArray, List.set_cons_zero, List.set_cons_succ]
        refine wpAnyN_takeF (i := 24) (oi := ?o24_2) (v := ?v24_2) ?hi24_2 (by kernel_rfl) (by kernel_rfl) (by kernel_rfl) (by decide) ?hQ24_2 ?hy24_2 HS.out ?more24_2
        case hi24_2 => rw [List.getElem?_toArray]; exact rfl
        case hQ24_2 => exact fun _ _ _ h => h
        case hy24_2 =>
          refine Or.inl ⟨by rfl, ?_⟩
          intro w' hSw
          clear hSw
          go_simp
          try with_reducible rfl
        simp only [Act.put, List.setIfInBounds_toArray, List.set_cons_zero, List.set_cons_succ]
        refine wpAnyN_takeF (i := 25) (oi := ?o25_2) (v := ?v25_2) ?hi25_2 (by kernel_rfl) (by kernel_rfl) (by kernel_rfl) (by decide) ?hQ25_2 ?hy25_2 HS.out ?more25_2
        case hi25_2 => rw [List.getElem?_toArray]; exact rfl
        case hQ25_2 => exact fun _ _ _ h => h
        case hy25_2 =>
          refine Or.inl ⟨by rfl, ?_⟩
          intro w' hSw
          clear hSw
          go_simp
          try with_reducible rfl
        simp only [Act.put, List.setIfInBounds_toArray, List.set_cons_zero, List.set_cons_succ]
        refine wpAnyN_one (i := 26) (o := ?o26_2) (by kernel_rfl) ?hi26_2 ?hw26_2 ?st26_2
        case hi26_2 => rw [List.getElem?_toArray]; exact rfl
        case hw26_2 => exact rfl
        intro K hK
        have HK26 : Hid _ := hK
        clear hK
        go_simp
        refine HK26.out _ _ ⟨fun h => absurd h (by decide +kernel), ?_⟩
        clear HK26 K
        try simp only [Act.put, List.setIfInBounds_toArray, List.set_cons_zero, List.set_cons_succ]
        refine wpAnyN_done (by kernel_rfl) ?_ _
        go_wp2_with fail
        go_end0
        rw [← HB.out, ← HVV.out]
        refine ⟨rfl, ?_, (But.drew HU.out).set _⟩
        have e : firmB x.n x.f 2 (cnt3 c0 c1 c2 2) = false := by
          unfold firmB
          rw [← HD.out]
          simp [cnt3]
        rw [e]
        exact (NodeAt.drew HN.out).setm
end Go.Proofs.Ytcahfkfafdoilaa
