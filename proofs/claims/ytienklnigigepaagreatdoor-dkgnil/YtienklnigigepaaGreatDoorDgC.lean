/- The law DkgNil. -/
import Derived.Test.YtienklnigigepaaGreatDoorDgB
namespace Go.Proofs.YtienklnigigepaaGreatDoor
open Go Go.RowKit Go.Lib
set_option maxRecDepth 100000 in
set_option maxHeartbeats 4000000 in
theorem dkgNil_any (v : Value) (w : World) (hG : GlobD w) (hz : 5 < w.heap.size) (hQ : GlobQ w) : Calls Tryz.prog 3 #[v] w fun e w' => e = .returned (.bool true) ∧ Below w.heap.size w w' := by
  have KK : Hid _ := key0
  have KS : Hid _ := send0
  have KH : Hid _ := hear0 v
  have K1 : Hid _ := round0
  have K2 : Hid _ := rounds0
  have KA : Hid (∀ w', Below w.heap.size w w' → Calls Tryz.prog 9 #[] w' fun e w'' => e = .returned (.bool true) ∧ Below w'.heap.size w' w'') := fun w' hb => starts_any w' (hG.call hb) (Nat.lt_of_lt_of_le hz hb.size) (hQ.call hb)
  clear hG hz hQ
  go_enter Tryz.func3, Tryz.ntmps3
  go_wp2_with fail
  refine (KK.out _).mono ?_
  rintro e w1 ⟨rfl, hb1⟩
  obtain ⟨w2, hw2⟩ : ∃ w2, w2 = w1.alloc (.cells #[.int .i64 0, .int .i64 0, .int .i64 0, .int .u64 0, .int .u64 0, .int .u64 0, .int .u64 0, .int .u64 0, .int .u64 0, .int .u64 0, .int .u64 0, .int .u64 0, .int .u64 0, .int .u64 0, .int .u64 0, .bool false, .slice none 0 0, .slice none 0 0] 32) := ⟨_, rfl⟩
  obtain ⟨E, hE⟩ : ∃ E, E = w1.heap.size := ⟨_, rfl⟩
  have HW : Hid (w2 = w1.alloc (.cells #[.int .i64 0, .int .i64 0, .int .i64 0, .int .u64 0, .int .u64 0, .int .u64 0, .int .u64 0, .int .u64 0, .int .u64 0, .int .u64 0, .int .u64 0, .int .u64 0, .int .u64 0, .int .u64 0, .int .u64 0, .bool false, .slice none 0 0, .slice none 0 0] 32) ∧ E = w1.heap.size) := ⟨hw2, hE⟩
  have H2 : Hid (Below w.heap.size w w2 ∧ w2.cell? ⟨E, 16, none⟩ = some (.slice none 0 0)) := by
    rw [hw2, hE]
    exact ⟨below_alloc0 hb1 _, by rw [World.cell?_alloc_new]; rfl⟩
  clear hb1 hw2 hE
  go_upto_region 3 with fail
  rw [← HW.out.1, ← HW.out.2]
  clear HW
  have g16 := H2.out.2
  go_wp2_with fail
  refine (KS.out _).mono ?_
  rintro e w3 ⟨rfl, rfl⟩
  go_wp2_with fail
  refine (KH.out _).mono ?_
  rintro e w4 ⟨rfl, rfl⟩
  go_wp2_with fail
  refine (K1.out _).mono ?_
  rintro e w5 ⟨rfl, rfl⟩
  go_wp2_with fail
  refine (K2.out _).mono ?_
  rintro e w6 ⟨rfl, rfl⟩
  go_wp2_with fail
  refine (KA.out _ H2.out.1).mono ?_
  rintro e w7 ⟨rfl, hb7⟩
  have H7 : Hid (Below w.heap.size w w7) := H2.out.1.trans (hb7.mono H2.out.1.size)
  clear hb7
  go_wp2_with fail
  go_ret
  exact ⟨rfl, H7.out⟩
end Go.Proofs.YtienklnigigepaaGreatDoor
