/- Package dkg: a node that is none; a seed's polynomial. -/
import Derived.Test.YtienklnigigepaaGreatDoorStS
import Derived.Test.YtienklnigigepaaGreatDoorTbM
import Derived.Test.YtienklnigigepaaGreatDoorDmM
namespace Go.Proofs.YtienklnigigepaaGreatDoor
open Go Go.RowKit Go.Lib
theorem isNone0 (w : World) : Calls Tryz.prog 10 #[.pointer none] w fun e w' => e = .returned (.bool true) ∧ w' = w := by
  go_enter Tryz.func10, Tryz.ntmps10
  go_wp2_with fail
  go_ret
  exact ⟨rfl, rfl⟩
theorem round0 (w : World) : Calls Tryz.prog 7 #[.pointer none] w fun e w' => e = .returned (.int .i64 0) ∧ w' = w := by
  have KN : Hid _ := isNone0
  go_enter Tryz.func7, Tryz.ntmps7
  go_wp2_with fail
  refine (KN.out _).mono ?_
  rintro e w1 ⟨rfl, rfl⟩
  go_wp2_with fail
  go_ret
  exact ⟨rfl, rfl⟩
theorem rounds0 (w : World) : Calls Tryz.prog 8 #[.pointer none] w fun e w' => e = .returned (.int .i64 0) ∧ w' = w := by
  have KN : Hid _ := isNone0
  go_enter Tryz.func8, Tryz.ntmps8
  go_wp2_with fail
  refine (KN.out _).mono ?_
  rintro e w1 ⟨rfl, rfl⟩
  go_wp2_with fail
  go_ret
  exact ⟨rfl, rfl⟩
theorem goesOn0 (w : World) : Calls Tryz.prog 13 #[.pointer none] w fun e w' => e = .returned (.bool false) ∧ w' = w := by
  have K1 : Hid _ := round0
  have K2 : Hid _ := rounds0
  go_enter Tryz.func13, Tryz.ntmps13
  go_wp2_with fail
  refine (K1.out _).mono ?_
  rintro e w1 ⟨rfl, rfl⟩
  go_wp2_with fail
  refine (K2.out _).mono ?_
  rintro e w2 ⟨rfl, rfl⟩
  go_wp2_with fail
  go_ret
  exact ⟨rfl, rfl⟩
theorem send0 (w : World) : Calls Tryz.prog 5 #[.pointer none] w fun e w' => e = .returned (.slice none 0 0) ∧ w' = w := by
  have K1 : Hid _ := goesOn0
  go_enter Tryz.func5, Tryz.ntmps5
  go_wp2_with fail
  refine (K1.out _).mono ?_
  rintro e w1 ⟨rfl, rfl⟩
  go_wp2_with fail
  go_ret
  exact ⟨rfl, rfl⟩
theorem hear0 (v : Value) (w : World) : Calls Tryz.prog 6 #[.pointer none, v] w fun e w' => e = .returned (.int .i64 7) ∧ w' = w := by
  have K1 : Hid _ := goesOn0
  go_enter Tryz.func6, Tryz.ntmps6
  go_wp2_with fail
  refine (K1.out _).mono ?_
  rintro e w1 ⟨rfl, rfl⟩
  go_wp2_with fail
  go_ret
  exact ⟨rfl, rfl⟩
set_option maxRecDepth 100000 in
set_option maxHeartbeats 4000000 in
theorem key0 (w : World) : Calls Tryz.prog 4 #[.pointer none] w fun e w' => e = .returned (.tuple #[.agg #[.int .i64 0, .int .i64 0, .int .i64 0, .int .u64 0, .int .u64 0, .int .u64 0, .int .u64 0, .int .u64 0, .int .u64 0, .int .u64 0, .int .u64 0, .int .u64 0, .int .u64 0, .int .u64 0, .int .u64 0, .bool false, .slice none 0 0, .slice none 0 0], .bool false]) ∧ Below w.heap.size w w' := by
  have KN : Hid _ := isNone0
  obtain ⟨w0, hw0⟩ : ∃ wq, wq = w.alloc (.cells #[.int .i64 0, .int .i64 0, .int .i64 0, .int .u64 0, .int .u64 0, .int .u64 0, .int .u64 0, .int .u64 0, .int .u64 0, .int .u64 0, .int .u64 0, .int .u64 0, .int .u64 0, .int .u64 0, .int .u64 0, .bool false, .slice none 0 0, .slice none 0 0] 32) := ⟨_, rfl⟩
  have hst : Hid ((storeVar 32 ⟨w.heap.size, 0, none⟩ (.agg #[.int .i64 0, .int .i64 0, .int .i64 0, .int .u64 0, .int .u64 0, .int .u64 0, .int .u64 0, .int .u64 0, .int .u64 0, .int .u64 0, .int .u64 0, .int .u64 0, .int .u64 0, .int .u64 0, .int .u64 0, .bool false, .slice none 0 0, .slice none 0 0])).run Tryz.prog w0 = .ok () w0) := by
    rw [hw0]
    exact run_storeVar_new w 32 #[.int .i64 0, .int .i64 0, .int .i64 0, .int .u64 0, .int .u64 0, .int .u64 0, .int .u64 0, .int .u64 0, .int .u64 0, .int .u64 0, .int .u64 0, .int .u64 0, .int .u64 0, .int .u64 0, .int .u64 0, .bool false, .slice none 0 0, .slice none 0 0] #[.int .i64 0, .int .i64 0, .int .i64 0, .int .u64 0, .int .u64 0, .int .u64 0, .int .u64 0, .int .u64 0, .int .u64 0, .int .u64 0, .int .u64 0, .int .u64 0, .int .u64 0, .int .u64 0, .int .u64 0, .bool false, .slice none 0 0, .slice none 0 0] (by kernel_rfl) rfl (by kernel_rfl)
  have HL : Hid ((loadVar 32 ⟨w.heap.size, 0, none⟩).run Tryz.prog w0 = .ok (.agg #[.int .i64 0, .int .i64 0, .int .i64 0, .int .u64 0, .int .u64 0, .int .u64 0, .int .u64 0, .int .u64 0, .int .u64 0, .int .u64 0, .int .u64 0, .int .u64 0, .int .u64 0, .int .u64 0, .int .u64 0, .bool false, .slice none 0 0, .slice none 0 0]) w0) := by
    rw [hw0]
    exact run_loadVar_row (P := Tryz.prog) _ _ _ _ _ _ _ (heap_alloc_last w _) Tryz.underlying32 rfl (by kernel_rfl)
  have H0 : Hid (Below w.heap.size w w0) := by
    rw [hw0]
    exact below_alloc0 (Below.refl _ _) _
  go_enter Tryz.func4, Tryz.ntmps4
  go_upto_region 1 with fail
  rw [← hw0]
  clear hw0
  go_wp2_with fail
  refine (KN.out _).mono ?_
  rintro e w1 ⟨rfl, rfl⟩
  go_wp2_with ((with_reducible refine store_eq (b := w.heap.size) (x := 2) (y := 14) ?_ ?_ ?_ ?_ hst.out ?_); rfl; rfl; rfl; rfl)
  have hld := HL.out
  refine bodyPost_ret (v := .tuple #[.agg #[.int .i64 0, .int .i64 0, .int .i64 0, .int .u64 0, .int .u64 0, .int .u64 0, .int .u64 0, .int .u64 0, .int .u64 0, .int .u64 0, .int .u64 0, .int .u64 0, .int .u64 0, .int .u64 0, .int .u64 0, .bool false, .slice none 0 0, .slice none 0 0], .bool false]) ?_ rfl ⟨rfl, H0.out⟩
  simp [results, Tryz.results4, asAddr, hld]
set_option maxRecDepth 100000 in
set_option maxHeartbeats 4000000 in
theorem poly_2 (w : World) (hG : GlobD w) (hz : 5 < w.heap.size) (hQ : GlobQ w) : Calls Tryz.prog 37 #[.string ⟨#[115]⟩, .int .i64 2] w fun e w' => e = .returned (.slice (some ⟨w.heap.size, 0, none⟩) 2 2) ∧ Below w.heap.size w w' := by
  have KD : Hid (∀ (n : Nat) (w' : World), n ≤ 2 → Below w.heap.size w w' → ∃ x : Nat, Calls Tryz.prog 65 #[.string ⟨#[115]⟩, .string ⟨#[119, 97, 114, 100, 109, 111, 116, 101, 47, 100, 101, 97, 108]⟩, .int .i64 (n : Nat)] w' fun e w'' => e = .returned (.tuple #[.agg #[.int .u64 (limb (x) 0 : Nat), .int .u64 (limb (x) 1 : Nat), .int .u64 (limb (x) 2 : Nat), .int .u64 (limb (x) 3 : Nat)], .int .i64 0]) ∧ Below w'.heap.size w' w'') := fun n w' hn hb =>
    ⟨_, ddraw_in ⟨#[115]⟩ ⟨#[119, 97, 114, 100, 109, 111, 116, 101, 47, 100, 101, 97, 108]⟩ n (by omega) (by decide) (by kernel_rfl) w' (hG.call hb) (Nat.lt_of_lt_of_le hz hb.size) (hQ.call hb)⟩
  have hmk : (Instr.makeSlice 41 (.int .i64 2) (.int .i64 2)).run Tryz.prog w = .ok (.slice (some ⟨w.heap.size, 0, none⟩) 2 2) (w.alloc (.cells (madeN 2) 26)) := make_run 2 (by decide) w
  obtain ⟨w0, hw0⟩ : ∃ w0, w0 = w.alloc (.cells (madeN 2) 26) := ⟨_, rfl⟩
  obtain ⟨b, hb⟩ : ∃ b, b = w.heap.size := ⟨_, rfl⟩
  have H0 : Hid (TabN w0 b 2 (fun _ => 0) ∧ Below w.heap.size w w0 ∧ b = w.heap.size) := by
    refine ⟨?_, ?_, hb⟩
    · rw [hw0, hb]; exact TabN.made w 2 _
    · rw [hw0]; exact below_alloc0 (Below.refl _ _) _
  rw [← hw0, ← hb] at hmk
  rw [← hb]
  clear hw0 hb hG hz hQ
  go_enter Tryz.func37, Tryz.ntmps37
  go_wp2_with fail
  clear hmk
  rename_i Kr hKr
  have HKr : Hid _ := hKr
  clear hKr
  go_loopw [6, 11] (fun _ iv wr => ∃ (i : Nat) (f : Nat → Nat), i ≤ 2 ∧ iv = .int .i64 (i : Nat) ∧ TabN wr b 2 f ∧ Below w.heap.size w wr) (fun _ iv _ => 2 - (Go.RowKit.intOf iv).toNat)
  case atStart => exact ⟨0, _, by decide, rfl, H0.out.1, H0.out.2.1⟩
  case round =>
    obtain ⟨i, f, hi, rfl, hT, hB⟩ := hrel
    rename World => wr
    have HI : Hid (TabN wr b 2 f ∧ Below w.heap.size w wr) := ⟨hT, hB⟩
    clear hT hB
    by_cases hlt : i < 2
    · have hlt' : (i : Int) < 2 := by omega
      obtain ⟨x, hx⟩ := KD.out i wr hi HI.out.2
      have KX : Hid _ := hx
      have HLT : Hid (i < 2) := hlt
      clear hx HKr hi
      go_wp2_with fail
      refine Calls.mono KX.out ?_
      rintro e w2 ⟨rfl, hb2⟩
      have H2 : Hid (TabN w2 b 2 f ∧ Below w.heap.size w w2) := ⟨HI.out.1.call hb2, HI.out.2.trans (hb2.mono HI.out.2.size)⟩
      obtain ⟨⟨t0, t1, t2, t3⟩, f0, f1, f2, f3⟩ := H2.out.1.at i HLT.out
      have HP : Hid _ := H2.out.1.put i x HLT.out
      have HS : Hid (Below w.heap.size w ((((w2.setCell ⟨b, i * 4, none⟩ (.int .u64 (limb x 0 : Nat))).setCell ⟨b, i * 4 + 1, none⟩ (.int .u64 (limb x 1 : Nat))).setCell ⟨b, i * 4 + 2, none⟩ (.int .u64 (limb x 2 : Nat))).setCell ⟨b, i * 4 + 3, none⟩ (.int .u64 (limb x 3 : Nat)))) :=
        ((((H2.out.2.setCell (p := ⟨b, _, none⟩) (by rw [H0.out.2.2]; exact Nat.le_refl _) _).setCell (p := ⟨b, _, none⟩) (by rw [H0.out.2.2]; exact Nat.le_refl _) _).setCell (p := ⟨b, _, none⟩) (by rw [H0.out.2.2]; exact Nat.le_refl _) _).setCell (p := ⟨b, _, none⟩) (by rw [H0.out.2.2]; exact Nat.le_refl _) _)
      clear hb2 KX
      go_wp2_with fail
      go_roundw
      case rel => exact ⟨i + 1, _, by have := HLT.out; omega, by first | rfl | (congr 1), HP.out, HS.out⟩
      case measure => simp [Go.RowKit.intOf]; omega
    · have hge : ¬ ((i : Int) < 2) := by omega
      clear hi hlt
      go_wp2_with fail
      refine HKr.out _ _ ?_
      clear HKr
      go_wp2_with fail
      go_ret
      exact ⟨rfl, by rw [H0.out.2.2]; exact HI.out.2⟩
end Go.Proofs.YtienklnigigepaaGreatDoor
