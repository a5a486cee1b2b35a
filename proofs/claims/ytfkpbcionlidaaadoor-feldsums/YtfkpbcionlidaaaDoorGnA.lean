/- Curve: the generator. -/
import Derived.Test.YtfkpbcionlidaaaDoorPnL
import Derived.Test.YtfkpbcionlidaaaDoorCvZ
namespace Go.Proofs.YtfkpbcionlidaaaDoor
open Go Go.RowKit Go.Lib
/-- The generator's variables. -/
def GG (w : World) : Prop := Num4 w 0 GX ∧ Num4 w 1 GY ∧ 0 < w.heap.size ∧ 1 < w.heap.size
theorem GG.call {w w' : World} (h : GG w) (hb : Below w.heap.size w w') : GG w' :=
 ⟨fun j hj => (hb.cell (p := ⟨0, j, none⟩) h.2.2.1).trans (h.1 j hj), fun j hj => (hb.cell (p := ⟨1, j, none⟩) h.2.2.2).trans (h.2.1 j hj), Nat.lt_of_lt_of_le h.2.2.1 hb.size, Nat.lt_of_lt_of_le h.2.2.2 hb.size⟩
theorem GX_lt : GX < PP := of_decide_eq_true (by kernel_rfl)
theorem GY_lt : GY < PP := of_decide_eq_true (by kernel_rfl)
theorem gG_x : pX gG = GX := pX_of (x := GX) (y := GY) rfl GX_lt
theorem gG_y : pY gG = GY := pY_of (x := GX) (y := GY) rfl GY_lt
theorem gG_i : pI gG = false := pI_some (q := pt GX GY) rfl
def GN (w : World) (x y : Nat) : Prop := Num4 w 0 x ∧ Num4 w 1 y ∧ 0 < w.heap.size ∧ 1 < w.heap.size
theorem GN.call {w w' : World} {x y : Nat} (h : GN w x y) (hb : Below w.heap.size w w') : GN w' x y :=
 ⟨fun j hj => (hb.cell (p := ⟨0, j, none⟩) h.2.2.1).trans (h.1 j hj), fun j hj => (hb.cell (p := ⟨1, j, none⟩) h.2.2.2).trans (h.2.1 j hj), Nat.lt_of_lt_of_le h.2.2.1 hb.size, Nat.lt_of_lt_of_le h.2.2.2 hb.size⟩
set_option maxRecDepth 100000 in
set_option maxHeartbeats 4000000 in
theorem G_num (x y : Nat) (w : World) (h : GN w x y) : Calls Tryd.prog 29 #[] w fun e w' => e = .returned (.agg #[.int .u64 (limb (x) 0 : Nat), .int .u64 (limb (x) 1 : Nat), .int .u64 (limb (x) 2 : Nat), .int .u64 (limb (x) 3 : Nat), .int .u64 (limb (y) 0 : Nat), .int .u64 (limb (y) 1 : Nat), .int .u64 (limb (y) 2 : Nat), .int .u64 (limb (y) 3 : Nat), .bool false]) ∧ Below w.heap.size w w' := by
 obtain ⟨w0, hw0⟩ : ∃ wq, wq = (w.alloc (.cells #[.int .u64 0, .int .u64 0, .int .u64 0, .int .u64 0, .int .u64 0, .int .u64 0, .int .u64 0, .int .u64 0, .bool false] 45)) := ⟨_, rfl⟩
 have H0 : Hid (OwnC w0 (w.heap.size) zpL) ∧ Hid (Below w.heap.size w w0) ∧ Hid (GN w0 x y) := by
  rw [hw0]
  exact ⟨(OwnC.new' rfl), below_alloc0 (Below.refl _ _) _, (h).call (below_alloc0 (Below.refl _ _) _)⟩
 obtain ⟨P0_0, W_0, N_0⟩ := H0
 clear h
 go_enter Tryd.func29, Tryd.ntmps29
 go_upto_region 1 with fail
 rw [← hw0]
 clear hw0
 obtain ⟨fg10, fg11, fg12, fg13⟩ := Num4.facts N_0.out.1
 obtain ⟨fg20, fg21, fg22, fg23⟩ := Num4.facts N_0.out.2.1
 obtain ⟨fP0z, fP00, fP01, fP02, fP03, fP04, fP05, fP06, fP07, fP08, fP0f⟩ := (P0_0.out).zp
 go_wp2_with fail
 clear fg10 fg11 fg12 fg13 fg20 fg21 fg22 fg23 fP0z fP00 fP01 fP02 fP03 fP04 fP05 fP06 fP07 fP08 fP0f
 obtain ⟨wz, hwz⟩ : ∃ wq, wq = (((((((((w0.setCell ⟨w.heap.size, 0, none⟩ (.int .u64 (limb (x) 0 : Nat))).setCell ⟨w.heap.size, 1, none⟩ (.int .u64 (limb (x) 1 : Nat))).setCell ⟨w.heap.size, 2, none⟩ (.int .u64 (limb (x) 2 : Nat))).setCell ⟨w.heap.size, 3, none⟩ (.int .u64 (limb (x) 3 : Nat))).setCell ⟨w.heap.size, 4, none⟩ (.int .u64 (limb (y) 0 : Nat))).setCell ⟨w.heap.size, 5, none⟩ (.int .u64 (limb (y) 1 : Nat))).setCell ⟨w.heap.size, 6, none⟩ (.int .u64 (limb (y) 2 : Nat))).setCell ⟨w.heap.size, 7, none⟩ (.int .u64 (limb (y) 3 : Nat))).setCell ⟨w.heap.size, 8, none⟩ (.bool false)) := ⟨_, rfl⟩
 rw [← hwz]
 have hwy : wz = putL w.heap.size 0 (ptL x y false) w0 := hwz
 have HZ : OwnC wz w.heap.size (ptL x y false) ∧ Below w.heap.size w wz := by
  rw [hwy]
  exact ⟨OwnC.put (ptL x y false) P0_0.out rfl, below_putL (Nat.le_refl _) (ptL x y false) 0 _ W_0.out⟩
 clear hwz hwy
 obtain ⟨hO, HB⟩ := HZ
 obtain ⟨rz, r0, r1, r2, r3, r4, r5, r6, r7, r8, rf⟩ := hO.pt
 refine bodyPost_ret (v := .agg #[.int .u64 (limb (x) 0 : Nat), .int .u64 (limb (x) 1 : Nat), .int .u64 (limb (x) 2 : Nat), .int .u64 (limb (x) 3 : Nat), .int .u64 (limb (y) 0 : Nat), .int .u64 (limb (y) 1 : Nat), .int .u64 (limb (y) 2 : Nat), .int .u64 (limb (y) 3 : Nat), .bool false]) ?_ rfl ⟨rfl, HB⟩
 simp [results, Tryd.results29, go_sem, r0, r1, r2, r3, r4, r5, r6, r7, r8]
theorem G_A (w : World) (h : GG w) : Calls Tryd.prog 29 #[] w fun e w' => e = .returned (.agg #[.int .u64 (limb (pX (gG)) 0 : Nat), .int .u64 (limb (pX (gG)) 1 : Nat), .int .u64 (limb (pX (gG)) 2 : Nat), .int .u64 (limb (pX (gG)) 3 : Nat), .int .u64 (limb (pY (gG)) 0 : Nat), .int .u64 (limb (pY (gG)) 1 : Nat), .int .u64 (limb (pY (gG)) 2 : Nat), .int .u64 (limb (pY (gG)) 3 : Nat), .bool (pI (gG))]) ∧ Below w.heap.size w w' := by
 rw [gG_x, gG_y, gG_i]
 exact G_num GX GY w h
end Go.Proofs.YtfkpbcionlidaaaDoor
