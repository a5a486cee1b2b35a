/- Package roast: small functions of a coordinator that New made; bind's of one pair. -/
import Derived.Test.YtlebhdckgcjacaaGreatDoorRnC
namespace Go.Proofs.YtlebhdckgcjacaaGreatDoor
open Go Go.RowKit Go.Lib
theorem isOver_f (r : Nat) (w : World) (c0 : w.cell? ⟨r, 0, none⟩ = some (.int .i64 4)) (c5 : w.cell? ⟨r, 235, none⟩ = some (.pointer none)) : Calls Tryz.prog 12 #[.pointer (some ⟨r, 0, none⟩)] w fun e w' => e = .returned (.bool false) ∧ w' = w := by
  go_enter Tryz.func12, Tryz.ntmps12
  go_wp2_with fail
  go_ret
  exact ⟨rfl, rfl⟩
theorem has_1 (r : Nat) (w : World) (c0 : w.cell? ⟨r, 0, none⟩ = some (.int .i64 4)) : Calls Tryz.prog 13 #[.pointer (some ⟨r, 0, none⟩), .int .i64 1] w fun e w' => e = .returned (.bool true) ∧ w' = w := by
  go_enter Tryz.func13, Tryz.ntmps13
  go_wp2_with fail
  go_ret
  exact ⟨rfl, rfl⟩
theorem Sessions_0 (r : Nat) (w : World) (c4 : w.cell? ⟨r, 234, none⟩ = some (.slice none 0 0)) : Calls Tryz.prog 10 #[.pointer (some ⟨r, 0, none⟩)] w fun e w' => e = .returned (.int .i64 0) ∧ w' = w := by
  go_enter Tryz.func10, Tryz.ntmps10
  go_wp2_with fail
  go_ret
  exact ⟨rfl, rfl⟩
set_option maxRecDepth 100000 in
set_option maxHeartbeats 4000000 in
theorem finite_G (GP : World → Prop) (Gc : ∀ (w w' : World), GP w → Below w.heap.size w w' → GP w') (K0 : ∀ w, GP w → Calls Tryz.prog 46 #[.agg #[.int .u64 6481385041966929816, .int .u64 188021827762530521, .int .u64 6170039885052185351, .int .u64 8772561819708210092, .int .u64 11261198710074299576, .int .u64 18237243440184513561, .int .u64 6747795201694173352, .int .u64 5204712524664259685, .bool false]] w fun e w' => e = .returned (.int .i64 0) ∧ Below w.heap.size w w')
    (w : World) (hG : GP w) : Calls Tryz.prog 36 #[.agg #[.int .u64 6481385041966929816, .int .u64 188021827762530521, .int .u64 6170039885052185351, .int .u64 8772561819708210092, .int .u64 11261198710074299576, .int .u64 18237243440184513561, .int .u64 6747795201694173352, .int .u64 5204712524664259685, .bool false]] w fun e w' => e = .returned (.int .i64 0) ∧ Below w.heap.size w w' := by
  have KC : Hid _ := K0
  obtain ⟨W3, hW3⟩ : ∃ W3, W3 = w.alloc (.cells #[.int .u64 6481385041966929816, .int .u64 188021827762530521, .int .u64 6170039885052185351, .int .u64 8772561819708210092, .int .u64 11261198710074299576, .int .u64 18237243440184513561, .int .u64 6747795201694173352, .int .u64 5204712524664259685, .bool false] 26) := ⟨_, rfl⟩
  obtain ⟨K, hK⟩ : ∃ K, K = w.heap.size := ⟨_, rfl⟩
  have HW3 : Hid (W3 = w.alloc (.cells #[.int .u64 6481385041966929816, .int .u64 188021827762530521, .int .u64 6170039885052185351, .int .u64 8772561819708210092, .int .u64 11261198710074299576, .int .u64 18237243440184513561, .int .u64 6747795201694173352, .int .u64 5204712524664259685, .bool false] 26) ∧ K = w.heap.size) := ⟨hW3, hK⟩
  have H3 : Hid (OwnC W3 K [.int .u64 6481385041966929816, .int .u64 188021827762530521, .int .u64 6170039885052185351, .int .u64 8772561819708210092, .int .u64 11261198710074299576, .int .u64 18237243440184513561, .int .u64 6747795201694173352, .int .u64 5204712524664259685, .bool false] ∧ Below w.heap.size w W3 ∧ GP W3) := by
    have hb : Below w.heap.size w W3 := by
      rw [hW3]
      exact below_alloc0 (Below.refl _ _) _
    refine ⟨?_, hb, Gc _ _ hG hb⟩
    rw [hW3, hK]
    exact OwnC.new' rfl
  clear hW3 hK hG K0
  go_enter Tryz.func36, Tryz.ntmps36
  go_upto_region 1 with fail
  rw [← HW3.out.1, ← HW3.out.2]
  clear HW3
  have r0 : W3.cell? ⟨K, 0, none⟩ = some (.int .u64 6481385041966929816) := H3.out.1.2.2 0 _ rfl
  have r1 : W3.cell? ⟨K, 1, none⟩ = some (.int .u64 188021827762530521) := H3.out.1.2.2 1 _ rfl
  have r2 : W3.cell? ⟨K, 2, none⟩ = some (.int .u64 6170039885052185351) := H3.out.1.2.2 2 _ rfl
  have r3 : W3.cell? ⟨K, 3, none⟩ = some (.int .u64 8772561819708210092) := H3.out.1.2.2 3 _ rfl
  have r4 : W3.cell? ⟨K, 4, none⟩ = some (.int .u64 11261198710074299576) := H3.out.1.2.2 4 _ rfl
  have r5 : W3.cell? ⟨K, 5, none⟩ = some (.int .u64 18237243440184513561) := H3.out.1.2.2 5 _ rfl
  have r6 : W3.cell? ⟨K, 6, none⟩ = some (.int .u64 6747795201694173352) := H3.out.1.2.2 6 _ rfl
  have r7 : W3.cell? ⟨K, 7, none⟩ = some (.int .u64 5204712524664259685) := H3.out.1.2.2 7 _ rfl
  have r8 : W3.cell? ⟨K, 8, none⟩ = some (.bool false) := H3.out.1.2.2 8 _ rfl
  go_wp2_with fail
  refine (KC.out _ H3.out.2.2).mono ?_
  rintro e w4 ⟨rfl, hb4⟩
  have H4 : Hid (Below w.heap.size w w4) := H3.out.2.1.trans (hb4.mono H3.out.2.1.size)
  clear hb4
  go_wp2_with fail
  go_ret
  exact ⟨rfl, H4.out⟩
end Go.Proofs.YtlebhdckgcjacaaGreatDoor
