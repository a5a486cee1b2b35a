/- Package roast: check of the law's key. -/
import Derived.Test.YtlebhdckgcjacaaGreatDoorRnB
import Derived.Test.YtlebhdckgcjacaaGreatDoorRgA
import Derived.Deep.CutBlock
namespace Go.Proofs.YtlebhdckgcjacaaGreatDoor
open Go Go.RowKit Go.Lib
theorem table_4 (w : World) : Calls Tryz.prog 45 #[.int .i64 4, .int .i64 1] w fun e w' => e = .returned (.bool true) ∧ w' = w := by
  go_enter Tryz.func45, Tryz.ntmps45
  go_wp2_with fail
  go_ret
  exact ⟨rfl, rfl⟩
set_option maxRecDepth 100000 in
set_option maxHeartbeats 4000000 in
theorem check_2 (GP : World → Prop) (Gc : ∀ (w w' : World), GP w → Below w.heap.size w w' → GP w') (K0 : ∀ w, GP w → Calls Tryz.prog 46 #[.agg #[.int .u64 6481385041966929816, .int .u64 188021827762530521, .int .u64 6170039885052185351, .int .u64 8772561819708210092, .int .u64 11261198710074299576, .int .u64 18237243440184513561, .int .u64 6747795201694173352, .int .u64 5204712524664259685, .bool false]] w fun e w' => e = .returned (.int .i64 0) ∧ Below w.heap.size w w')
    (b : Nat) (w : World) (hG : GP w) (hb : OwnC w b [.int .u64 6481385041966929816, .int .u64 188021827762530521, .int .u64 6170039885052185351, .int .u64 8772561819708210092, .int .u64 11261198710074299576, .int .u64 18237243440184513561, .int .u64 6747795201694173352, .int .u64 5204712524664259685, .bool false, .int .u64 6481385041966929816, .int .u64 188021827762530521, .int .u64 6170039885052185351, .int .u64 8772561819708210092, .int .u64 11261198710074299576, .int .u64 18237243440184513561, .int .u64 6747795201694173352, .int .u64 5204712524664259685, .bool false]) : Calls Tryz.prog 29 #[.int .i64 4, .int .i64 1, .slice (some ⟨b, 0, none⟩) 2 2, .string ⟨#[109]⟩] w fun e w' => e = .returned (.int .i64 0) ∧ Below w.heap.size w w' := by
  have KC : Hid _ := K0
  have KT : Hid _ := table_4
  have H0 : Hid (GP w ∧ OwnC w b [.int .u64 6481385041966929816, .int .u64 188021827762530521, .int .u64 6170039885052185351, .int .u64 8772561819708210092, .int .u64 11261198710074299576, .int .u64 18237243440184513561, .int .u64 6747795201694173352, .int .u64 5204712524664259685, .bool false, .int .u64 6481385041966929816, .int .u64 188021827762530521, .int .u64 6170039885052185351, .int .u64 8772561819708210092, .int .u64 11261198710074299576, .int .u64 18237243440184513561, .int .u64 6747795201694173352, .int .u64 5204712524664259685, .bool false]) := ⟨hG, hb⟩
  clear hG hb K0
  go_enter Tryz.func29, Tryz.ntmps29
  go_wp2_with fail
  refine (KT.out _).mono ?_
  rintro e w1 ⟨rfl, h1⟩
  obtain rfl : w = w1 := h1.symm
  clear KT
  go_wp2_with fail
  rename_i Kr hKr
  have HKr : Hid _ := hKr
  clear hKr
  go_loopw [25] (fun iv wr => ∃ i : Nat, i ≤ 2 ∧ iv = .int .i64 (i : Nat) ∧ Below w.heap.size w wr) (fun iv _ => 2 - (Go.RowKit.intOf iv).toNat)
  case atStart => exact ⟨0, by decide, rfl, Below.refl _ _⟩
  case round =>
    obtain ⟨i, hi, rfl, hB⟩ := hrel
    rename World => wr
    have HB : Hid (Below w.heap.size w wr) := hB
    clear hB
    have HO : Hid (OwnC wr b [.int .u64 6481385041966929816, .int .u64 188021827762530521, .int .u64 6170039885052185351, .int .u64 8772561819708210092, .int .u64 11261198710074299576, .int .u64 18237243440184513561, .int .u64 6747795201694173352, .int .u64 5204712524664259685, .bool false, .int .u64 6481385041966929816, .int .u64 188021827762530521, .int .u64 6170039885052185351, .int .u64 8772561819708210092, .int .u64 11261198710074299576, .int .u64 18237243440184513561, .int .u64 6747795201694173352, .int .u64 5204712524664259685, .bool false]) := H0.out.2.call HB.out
    rcases (show i = 0 ∨ i = 1 ∨ i = 2 by omega) with rfl | rfl | rfl
    · clear hi HKr
      have f0 : wr.cell? ⟨b, 0, none⟩ = some (.int .u64 6481385041966929816) := HO.out.2.2 0 _ rfl
      have f1 : wr.cell? ⟨b, 1, none⟩ = some (.int .u64 188021827762530521) := HO.out.2.2 1 _ rfl
      have f2 : wr.cell? ⟨b, 2, none⟩ = some (.int .u64 6170039885052185351) := HO.out.2.2 2 _ rfl
      have f3 : wr.cell? ⟨b, 3, none⟩ = some (.int .u64 8772561819708210092) := HO.out.2.2 3 _ rfl
      have f4 : wr.cell? ⟨b, 4, none⟩ = some (.int .u64 11261198710074299576) := HO.out.2.2 4 _ rfl
      have f5 : wr.cell? ⟨b, 5, none⟩ = some (.int .u64 18237243440184513561) := HO.out.2.2 5 _ rfl
      have f6 : wr.cell? ⟨b, 6, none⟩ = some (.int .u64 6747795201694173352) := HO.out.2.2 6 _ rfl
      have f7 : wr.cell? ⟨b, 7, none⟩ = some (.int .u64 5204712524664259685) := HO.out.2.2 7 _ rfl
      have f8 : wr.cell? ⟨b, 8, none⟩ = some (.bool false) := HO.out.2.2 8 _ rfl
      obtain ⟨W3, hW3⟩ : ∃ W3, W3 = wr.alloc (.cells #[.int .u64 6481385041966929816, .int .u64 188021827762530521, .int .u64 6170039885052185351, .int .u64 8772561819708210092, .int .u64 11261198710074299576, .int .u64 18237243440184513561, .int .u64 6747795201694173352, .int .u64 5204712524664259685, .bool false] 26) := ⟨_, rfl⟩
      obtain ⟨K, hK⟩ : ∃ K, K = wr.heap.size := ⟨_, rfl⟩
      have HW3 : Hid (W3 = wr.alloc (.cells #[.int .u64 6481385041966929816, .int .u64 188021827762530521, .int .u64 6170039885052185351, .int .u64 8772561819708210092, .int .u64 11261198710074299576, .int .u64 18237243440184513561, .int .u64 6747795201694173352, .int .u64 5204712524664259685, .bool false] 26) ∧ K = wr.heap.size) := ⟨hW3, hK⟩
      have H3 : Hid (OwnC W3 K [.int .u64 6481385041966929816, .int .u64 188021827762530521, .int .u64 6170039885052185351, .int .u64 8772561819708210092, .int .u64 11261198710074299576, .int .u64 18237243440184513561, .int .u64 6747795201694173352, .int .u64 5204712524664259685, .bool false] ∧ Below w.heap.size w W3) := by
        rw [hW3, hK]
        exact ⟨OwnC.new' rfl, below_alloc0 HB.out _⟩
      clear hW3 hK
      go_upto_region 6 with fail
      rw [← HW3.out.1, ← HW3.out.2]
      clear HW3 f0 f1 f2 f3 f4 f5 f6 f7 f8
      have r0 : W3.cell? ⟨K, 0, none⟩ = some (.int .u64 6481385041966929816) := H3.out.1.2.2 0 _ rfl
      have r1 : W3.cell? ⟨K, 1, none⟩ = some (.int .u64 188021827762530521) := H3.out.1.2.2 1 _ rfl
      have r2 : W3.cell? ⟨K, 2, none⟩ = some (.int .u64 6170039885052185351) := H3.out.1.2.2 2 _ rfl
      have r3 : W3.cell? ⟨K, 3, none⟩ = some (.int .u64 8772561819708210092) := H3.out.1.2.2 3 _ rfl
      have r4 : W3.cell? ⟨K, 4, none⟩ = some (.int .u64 11261198710074299576) := H3.out.1.2.2 4 _ rfl
      have r5 : W3.cell? ⟨K, 5, none⟩ = some (.int .u64 18237243440184513561) := H3.out.1.2.2 5 _ rfl
      have r6 : W3.cell? ⟨K, 6, none⟩ = some (.int .u64 6747795201694173352) := H3.out.1.2.2 6 _ rfl
      have r7 : W3.cell? ⟨K, 7, none⟩ = some (.int .u64 5204712524664259685) := H3.out.1.2.2 7 _ rfl
      have r8 : W3.cell? ⟨K, 8, none⟩ = some (.bool false) := H3.out.1.2.2 8 _ rfl
      go_wp2_with fail
      refine (KC.out _ (Gc _ _ H0.out.1 H3.out.2)).mono ?_
      rintro e w4 ⟨rfl, hb4⟩
      have H4 : Hid (Below w.heap.size w w4) := H3.out.2.trans (hb4.mono H3.out.2.size)
      clear hb4
      go_wp2_with fail
      go_roundw
      case rel => exact ⟨1, by decide, rfl, H4.out⟩
      case measure => simp [Go.RowKit.intOf]
    · clear hi HKr
      have f0 : wr.cell? ⟨b, 9, none⟩ = some (.int .u64 6481385041966929816) := HO.out.2.2 9 _ rfl
      have f1 : wr.cell? ⟨b, 10, none⟩ = some (.int .u64 188021827762530521) := HO.out.2.2 10 _ rfl
      have f2 : wr.cell? ⟨b, 11, none⟩ = some (.int .u64 6170039885052185351) := HO.out.2.2 11 _ rfl
      have f3 : wr.cell? ⟨b, 12, none⟩ = some (.int .u64 8772561819708210092) := HO.out.2.2 12 _ rfl
      have f4 : wr.cell? ⟨b, 13, none⟩ = some (.int .u64 11261198710074299576) := HO.out.2.2 13 _ rfl
      have f5 : wr.cell? ⟨b, 14, none⟩ = some (.int .u64 18237243440184513561) := HO.out.2.2 14 _ rfl
      have f6 : wr.cell? ⟨b, 15, none⟩ = some (.int .u64 6747795201694173352) := HO.out.2.2 15 _ rfl
      have f7 : wr.cell? ⟨b, 16, none⟩ = some (.int .u64 5204712524664259685) := HO.out.2.2 16 _ rfl
      have f8 : wr.cell? ⟨b, 17, none⟩ = some (.bool false) := HO.out.2.2 17 _ rfl
      obtain ⟨W3, hW3⟩ : ∃ W3, W3 = wr.alloc (.cells #[.int .u64 6481385041966929816, .int .u64 188021827762530521, .int .u64 6170039885052185351, .int .u64 8772561819708210092, .int .u64 11261198710074299576, .int .u64 18237243440184513561, .int .u64 6747795201694173352, .int .u64 5204712524664259685, .bool false] 26) := ⟨_, rfl⟩
      obtain ⟨K, hK⟩ : ∃ K, K = wr.heap.size := ⟨_, rfl⟩
      have HW3 : Hid (W3 = wr.alloc (.cells #[.int .u64 6481385041966929816, .int .u64 188021827762530521, .int .u64 6170039885052185351, .int .u64 8772561819708210092, .int .u64 11261198710074299576, .int .u64 18237243440184513561, .int .u64 6747795201694173352, .int .u64 5204712524664259685, .bool false] 26) ∧ K = wr.heap.size) := ⟨hW3, hK⟩
      have H3 : Hid (OwnC W3 K [.int .u64 6481385041966929816, .int .u64 188021827762530521, .int .u64 6170039885052185351, .int .u64 8772561819708210092, .int .u64 11261198710074299576, .int .u64 18237243440184513561, .int .u64 6747795201694173352, .int .u64 5204712524664259685, .bool false] ∧ Below w.heap.size w W3) := by
        rw [hW3, hK]
        exact ⟨OwnC.new' rfl, below_alloc0 HB.out _⟩
      clear hW3 hK
      go_upto_region 6 with fail
      rw [← HW3.out.1, ← HW3.out.2]
      clear HW3 f0 f1 f2 f3 f4 f5 f6 f7 f8
      have r0 : W3.cell? ⟨K, 0, none⟩ = some (.int .u64 6481385041966929816) := H3.out.1.2.2 0 _ rfl
      have r1 : W3.cell? ⟨K, 1, none⟩ = some (.int .u64 188021827762530521) := H3.out.1.2.2 1 _ rfl
      have r2 : W3.cell? ⟨K, 2, none⟩ = some (.int .u64 6170039885052185351) := H3.out.1.2.2 2 _ rfl
      have r3 : W3.cell? ⟨K, 3, none⟩ = some (.int .u64 8772561819708210092) := H3.out.1.2.2 3 _ rfl
      have r4 : W3.cell? ⟨K, 4, none⟩ = some (.int .u64 11261198710074299576) := H3.out.1.2.2 4 _ rfl
      have r5 : W3.cell? ⟨K, 5, none⟩ = some (.int .u64 18237243440184513561) := H3.out.1.2.2 5 _ rfl
      have r6 : W3.cell? ⟨K, 6, none⟩ = some (.int .u64 6747795201694173352) := H3.out.1.2.2 6 _ rfl
      have r7 : W3.cell? ⟨K, 7, none⟩ = some (.int .u64 5204712524664259685) := H3.out.1.2.2 7 _ rfl
      have r8 : W3.cell? ⟨K, 8, none⟩ = some (.bool false) := H3.out.1.2.2 8 _ rfl
      go_wp2_with fail
      refine (KC.out _ (Gc _ _ H0.out.1 H3.out.2)).mono ?_
      rintro e w4 ⟨rfl, hb4⟩
      have H4 : Hid (Below w.heap.size w w4) := H3.out.2.trans (hb4.mono H3.out.2.size)
      clear hb4
      go_wp2_with fail
      go_roundw
      case rel => exact ⟨2, by decide, rfl, H4.out⟩
      case measure => simp [Go.RowKit.intOf]
    · clear hi
      go_wp2_with fail
      refine HKr.out _ _ ?_
      clear HKr
      have f8 : wr.cell? ⟨b, 8, none⟩ = some (.bool false) := HO.out.2.2 8 _ rfl
      go_wp2_with fail
      go_ret
      exact ⟨rfl, HB.out⟩
end Go.Proofs.YtlebhdckgcjacaaGreatDoor
