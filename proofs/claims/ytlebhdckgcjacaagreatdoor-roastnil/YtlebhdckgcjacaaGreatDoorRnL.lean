/- Package roast: New of the law's key. -/
import Derived.Test.YtlebhdckgcjacaaGreatDoorRnK
import Derived.OwnWalk
import Derived.Test.YtlebhdckgcjacaaGreatDoorAgP
namespace Go.Proofs.YtlebhdckgcjacaaGreatDoor
open Go Go.RowKit Go.Lib
def GGL : List Value := [.int .u64 6481385041966929816, .int .u64 188021827762530521, .int .u64 6170039885052185351, .int .u64 8772561819708210092, .int .u64 11261198710074299576, .int .u64 18237243440184513561, .int .u64 6747795201694173352, .int .u64 5204712524664259685, .bool false, .int .u64 6481385041966929816, .int .u64 188021827762530521, .int .u64 6170039885052185351, .int .u64 8772561819708210092, .int .u64 11261198710074299576, .int .u64 18237243440184513561, .int .u64 6747795201694173352, .int .u64 5204712524664259685, .bool false]
theorem infPt : ∃ i z, Tryz.prog.info? 26 = some i ∧ i.zero = some z ∧ i.size = 9 ∧ i.bytes = 72 ∧ z.cells.size = 9 := by
  have h : (Tryz.prog.info? 26).map (fun i => (i.zero, i.size, i.bytes)) = some (some (.agg #[.int .u64 0, .int .u64 0, .int .u64 0, .int .u64 0, .int .u64 0, .int .u64 0, .int .u64 0, .int .u64 0, .bool false]), 9, 72) := by kernel_rfl
  cases e : Tryz.prog.info? 26 with
  | none => rw [e] at h; cases h
  | some i =>
    rw [e] at h
    simp only [Option.map_some, Option.some.injEq, Prod.mk.injEq] at h
    exact ⟨i, _, rfl, h.1, h.2.1, h.2.2, rfl⟩
set_option maxRecDepth 100000 in
set_option maxHeartbeats 4000000 in
theorem clone_2 (b : Nat) (w : World) (hb : OwnC w b [.int .u64 6481385041966929816, .int .u64 188021827762530521, .int .u64 6170039885052185351, .int .u64 8772561819708210092, .int .u64 11261198710074299576, .int .u64 18237243440184513561, .int .u64 6747795201694173352, .int .u64 5204712524664259685, .bool false, .int .u64 6481385041966929816, .int .u64 188021827762530521, .int .u64 6170039885052185351, .int .u64 8772561819708210092, .int .u64 11261198710074299576, .int .u64 18237243440184513561, .int .u64 6747795201694173352, .int .u64 5204712524664259685, .bool false]) : Calls Tryz.prog 30 #[.slice (some ⟨b, 0, none⟩) 2 2] w fun e w' => (∃ g c, e = .returned (.slice (some ⟨g, 0, none⟩) 2 c)) ∧ Below w.heap.size w w' := by
  obtain ⟨i, z, hi, hz, hs, hy, hzs⟩ := infPt
  have H0 : Hid (OwnC w b [.int .u64 6481385041966929816, .int .u64 188021827762530521, .int .u64 6170039885052185351, .int .u64 8772561819708210092, .int .u64 11261198710074299576, .int .u64 18237243440184513561, .int .u64 6747795201694173352, .int .u64 5204712524664259685, .bool false, .int .u64 6481385041966929816, .int .u64 188021827762530521, .int .u64 6170039885052185351, .int .u64 8772561819708210092, .int .u64 11261198710074299576, .int .u64 18237243440184513561, .int .u64 6747795201694173352, .int .u64 5204712524664259685, .bool false]) := hb
  clear hb
  have he : ∀ w : World, (binOp .eql 66 (.slice (some ⟨b, 0, none⟩) 2 2) (.slice none 0 0)).run Tryz.prog w = .ok (.bool false) w := fun w => by kernel_rfl
  have HE : Hid _ := he
  have HI : Hid ((w.alloc (.cells #[] 26)).ownsRow w.heap.size 26 9 (.slice (some ⟨w.heap.size, 0, none⟩) 0 0) 0 [] ∧ (∀ (j : Nat) u, GGL[j]? = some u → (w.alloc (.cells #[] 26)).cell? ((⟨b, 0, none⟩ : Addr).add j) = some u) ∧ (∀ u ∈ GGL, u.oneCell' = true) ∧ w.heap.size ≤ (w.alloc (.cells #[] 26)).heap.size) := by
    refine ⟨⟨rfl, .inr ⟨w.heap.size, 0, #[], rfl, Nat.le_refl _, heap_alloc_last w _, Nat.le_refl _, Nat.zero_le _, rfl, rfl⟩⟩, fun j u hj => ?_, fun u hu => ?_, by simp⟩
    · rw [Addr.add_mid, Nat.zero_add]
      exact (H0.out.call (below_alloc0 (Below.refl _ _) _)).2.2 j u hj
    · have : (GGL.all fun u => u.oneCell') = true := by kernel_rfl
      exact List.all_eq_true.1 this u hu
  have HZ : Hid (Tryz.prog.info? 26 = some i ∧ i.zero = some z ∧ i.size = 9 ∧ i.bytes = 72 ∧ z.cells.size = 9) := ⟨hi, hz, hs, hy, hzs⟩
  clear hi hz hs hy hzs he
  go_enter Tryz.func30, Tryz.ntmps30
  have he := HE.out
  go_upto_region 3 with fail
  clear he HE
  go_wp2_with (at_builtin; refine wpList_append_own _ rfl (.tmp 5) (.tmp 6) 66 rfl w.heap.size 26 i z 9 72 Tryz.underlying66 HZ.out.1 HZ.out.2.1 HZ.out.2.2.1 HZ.out.2.2.2.1 HZ.out.2.2.2.2 (by decide) (.slice (some ⟨w.heap.size, 0, none⟩) 0 0) 0 [] rfl HI.out.1 ⟨b, 0, none⟩ 2 2 GGL rfl rfl HI.out.2.1 HI.out.2.2.1 (by decide) (by decide) HI.out.2.2.2 ?_; intro v5 w5 ho5 hg5 _; have H5 : Hid (w5.ownsRow w.heap.size 26 9 v5 (0 + 2) ([] ++ GGL) ∧ Below w.heap.size w w5) := ⟨ho5, (below_alloc0 (Below.refl _ _) _).grown hg5 HI.out.2.2.2 (fun k e => by cases e; exact Nat.le_refl _)⟩; clear ho5 hg5)
  go_ret
  refine ⟨?_, H5.out.2⟩
  rcases H5.out.1.2 with ⟨_, h0⟩ | ⟨g, cap, _, rfl, _⟩
  · omega
  · exact ⟨g, cap, rfl⟩
end Go.Proofs.YtlebhdckgcjacaaGreatDoor
