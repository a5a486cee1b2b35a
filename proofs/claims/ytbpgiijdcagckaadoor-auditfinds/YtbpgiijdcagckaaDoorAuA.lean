/- Package audit: a share that was told; its nonce, how many times the secret is in it. -/
import Derived.Test.YtbpgiijdcagckaaDoorWkA
import Derived.Test.YtbpgiijdcagckaaDoorFdB
import Derived.Test.YtbpgiijdcagckaaDoorFieldP
namespace Go.Proofs.YtbpgiijdcagckaaDoor
open Go Go.RowKit Go.Lib
structure Td where
  n : Int
  dx : Nat
  dy : Nat
  di : Bool
  ex : Nat
  ey : Nat
  ei : Bool
  f : Nat
  w : Nat
  c : Nat
  z : Nat
def prV (t : Td) : List Value := [.int .i64 t.n, .int .u64 (limb t.dx 0 : Nat), .int .u64 (limb t.dx 1 : Nat), .int .u64 (limb t.dx 2 : Nat), .int .u64 (limb t.dx 3 : Nat), .int .u64 (limb t.dy 0 : Nat), .int .u64 (limb t.dy 1 : Nat), .int .u64 (limb t.dy 2 : Nat), .int .u64 (limb t.dy 3 : Nat), .bool t.di, .int .u64 (limb t.ex 0 : Nat), .int .u64 (limb t.ex 1 : Nat), .int .u64 (limb t.ex 2 : Nat), .int .u64 (limb t.ex 3 : Nat), .int .u64 (limb t.ey 0 : Nat), .int .u64 (limb t.ey 1 : Nat), .int .u64 (limb t.ey 2 : Nat), .int .u64 (limb t.ey 3 : Nat), .bool t.ei]
def noV (t : Td) : List Value := [.int .i64 t.n, .int .u64 (limb t.dx 0 : Nat), .int .u64 (limb t.dx 1 : Nat), .int .u64 (limb t.dx 2 : Nat), .int .u64 (limb t.dx 3 : Nat), .int .u64 (limb t.dy 0 : Nat), .int .u64 (limb t.dy 1 : Nat), .int .u64 (limb t.dy 2 : Nat), .int .u64 (limb t.dy 3 : Nat), .bool t.di, .int .u64 (limb t.ex 0 : Nat), .int .u64 (limb t.ex 1 : Nat), .int .u64 (limb t.ex 2 : Nat), .int .u64 (limb t.ex 3 : Nat), .int .u64 (limb t.ey 0 : Nat), .int .u64 (limb t.ey 1 : Nat), .int .u64 (limb t.ey 2 : Nat), .int .u64 (limb t.ey 3 : Nat), .bool t.ei, .int .u64 (limb t.f 0 : Nat), .int .u64 (limb t.f 1 : Nat), .int .u64 (limb t.f 2 : Nat), .int .u64 (limb t.f 3 : Nat)]
def tdV (t : Td) : List Value := [.int .i64 t.n, .int .u64 (limb t.dx 0 : Nat), .int .u64 (limb t.dx 1 : Nat), .int .u64 (limb t.dx 2 : Nat), .int .u64 (limb t.dx 3 : Nat), .int .u64 (limb t.dy 0 : Nat), .int .u64 (limb t.dy 1 : Nat), .int .u64 (limb t.dy 2 : Nat), .int .u64 (limb t.dy 3 : Nat), .bool t.di, .int .u64 (limb t.ex 0 : Nat), .int .u64 (limb t.ex 1 : Nat), .int .u64 (limb t.ex 2 : Nat), .int .u64 (limb t.ex 3 : Nat), .int .u64 (limb t.ey 0 : Nat), .int .u64 (limb t.ey 1 : Nat), .int .u64 (limb t.ey 2 : Nat), .int .u64 (limb t.ey 3 : Nat), .bool t.ei, .int .u64 (limb t.f 0 : Nat), .int .u64 (limb t.f 1 : Nat), .int .u64 (limb t.f 2 : Nat), .int .u64 (limb t.f 3 : Nat), .int .u64 (limb t.w 0 : Nat), .int .u64 (limb t.w 1 : Nat), .int .u64 (limb t.w 2 : Nat), .int .u64 (limb t.w 3 : Nat), .int .u64 (limb t.c 0 : Nat), .int .u64 (limb t.c 1 : Nat), .int .u64 (limb t.c 2 : Nat), .int .u64 (limb t.c 3 : Nat), .int .u64 (limb t.z 0 : Nat), .int .u64 (limb t.z 1 : Nat), .int .u64 (limb t.z 2 : Nat), .int .u64 (limb t.z 3 : Nat)]
/-- All its numbers are scalars. -/
def Td.ok (t : Td) : Bool := decide (t.f < QQ) && decide (t.w < QQ) && decide (t.c < QQ) && decide (t.z < QQ)
def Td.R (t : Td) : Prop := t.f < R256 ∧ t.w < R256 ∧ t.c < R256 ∧ t.z < R256
set_option maxRecDepth 100000 in
set_option maxHeartbeats 400000 in
theorem nonce_any (t : Td) (w : World) : Calls Tryd.prog 16 #[.agg (tdV t).toArray] w fun e w' => e = .returned (.agg (noV t).toArray) ∧ Below w.heap.size w w' := by
  obtain ⟨N, hN⟩ : ∃ N, N = w.heap.size := ⟨_, rfl⟩
  obtain ⟨W0, hW0⟩ : ∃ W, W = (w.alloc (.cells (tdV t).toArray 54)).alloc (.cells #[.int .i64 0, .int .u64 0, .int .u64 0, .int .u64 0, .int .u64 0, .int .u64 0, .int .u64 0, .int .u64 0, .int .u64 0, .bool false, .int .u64 0, .int .u64 0, .int .u64 0, .int .u64 0, .int .u64 0, .int .u64 0, .int .u64 0, .int .u64 0, .bool false, .int .u64 0, .int .u64 0, .int .u64 0, .int .u64 0] 65) := ⟨_, rfl⟩
  have H0 : Hid (Below w.heap.size w W0 ∧ Bk w.heap.size W0 N (tdV t) 54 ∧ Bk w.heap.size W0 (N + 1) [.int .i64 0, .int .u64 0, .int .u64 0, .int .u64 0, .int .u64 0, .int .u64 0, .int .u64 0, .int .u64 0, .int .u64 0, .bool false, .int .u64 0, .int .u64 0, .int .u64 0, .int .u64 0, .int .u64 0, .int .u64 0, .int .u64 0, .int .u64 0, .bool false, .int .u64 0, .int .u64 0, .int .u64 0, .int .u64 0] 65) := by
    have hb : Below w.heap.size w W0 := by
      rw [hW0]
      exact below_alloc0 (below_alloc0 (Below.refl _ _) _) _
    have e0 := Bk.mk0 (w) (tdV t) 54
    have a0 : Below (w).heap.size (w) (w.alloc (.cells (tdV t).toArray 54)) := below_alloc0 (Below.refl _ _) _
    have e1 := Bk.mk0 (w.alloc (.cells (tdV t).toArray 54)) [.int .i64 0, .int .u64 0, .int .u64 0, .int .u64 0, .int .u64 0, .int .u64 0, .int .u64 0, .int .u64 0, .int .u64 0, .bool false, .int .u64 0, .int .u64 0, .int .u64 0, .int .u64 0, .int .u64 0, .int .u64 0, .int .u64 0, .int .u64 0, .bool false, .int .u64 0, .int .u64 0, .int .u64 0, .int .u64 0] 65
    have a1 : Below (w.alloc (.cells (tdV t).toArray 54)).heap.size (w.alloc (.cells (tdV t).toArray 54)) ((w.alloc (.cells (tdV t).toArray 54)).alloc (.cells #[.int .i64 0, .int .u64 0, .int .u64 0, .int .u64 0, .int .u64 0, .int .u64 0, .int .u64 0, .int .u64 0, .int .u64 0, .bool false, .int .u64 0, .int .u64 0, .int .u64 0, .int .u64 0, .int .u64 0, .int .u64 0, .int .u64 0, .int .u64 0, .bool false, .int .u64 0, .int .u64 0, .int .u64 0, .int .u64 0] 65)) := below_alloc0 (Below.refl _ _) _
    simp only [World.size_alloc] at e1
    refine ⟨hb, ⟨?_, ?_⟩, ⟨?_, ?_⟩⟩
    · exact Nat.le_of_eq hN.symm
    · rw [hW0, hN]
      exact (e0.call a1).2
    · rw [hN]
      omega
    · rw [hW0, hN]
      exact e1.2
  have HW : Hid (W0 = (w.alloc (.cells (tdV t).toArray 54)).alloc (.cells #[.int .i64 0, .int .u64 0, .int .u64 0, .int .u64 0, .int .u64 0, .int .u64 0, .int .u64 0, .int .u64 0, .int .u64 0, .bool false, .int .u64 0, .int .u64 0, .int .u64 0, .int .u64 0, .int .u64 0, .int .u64 0, .int .u64 0, .int .u64 0, .bool false, .int .u64 0, .int .u64 0, .int .u64 0, .int .u64 0] 65) ∧ N = w.heap.size) := ⟨hW0, hN⟩
  clear hW0 hN 
  go_enter Tryd.func16, Tryd.ntmps16
  go_upto_region 1 with fail
  rw [← HW.out.1, ← HW.out.2]
  clear HW
  have L1 : Hid ((loadVar 31 ⟨N, 0, none⟩).run Tryd.prog W0 = .ok (.agg (prV t).toArray) W0) := H0.out.2.1.load 0 (prV t) (by rfl) Tryd.underlying31 rfl (by kernel_rfl)
  have L2 : Hid ((loadVar 27 ⟨N, 19, none⟩).run Tryd.prog W0 = .ok (.agg (nuV t.f).toArray) W0) := H0.out.2.1.load 19 (nuV t.f) (by rfl) Tryd.underlying27 rfl (by kernel_rfl)
  have Q3 : Hid (∀ w, (Instr.build 65 #[(0, .agg (prV t).toArray), (1, .agg (nuV t.f).toArray)]).run Tryd.prog w = .ok (.agg (noV t).toArray) w) := fun _ => by kernel_rfl
  obtain ⟨W1, hS, hb, hB⟩ := H0.out.2.2.put H0.out.1 (noV t) (by kernel_rfl) rfl (by kernel_rfl)
  have HS : Hid _ := hS
  have HB : Hid (Below w.heap.size w W1 ∧ Bk w.heap.size W1 (N + 1) (noV t) 65) := ⟨hb, hB⟩
  clear hS hb hB
  go_wp2_with (first | ((with_reducible refine load_tk (b := N) (k := 0) (x := 3) ?_ ?_ ?_ L1.out ?_); rfl; rfl; rfl) | ((with_reducible refine load_tk (b := N) (k := 19) (x := 5) ?_ ?_ ?_ L2.out ?_); rfl; rfl; rfl) | ((with_reducible refine build_tk (ty := 65) (parts := #[(0, .tmp 4), (1, .tmp 6)]) (ps := #[(0, .agg (prV t).toArray), (1, .agg (nuV t.f).toArray)]) (vs := (noV t).toArray) ?_ ?_ ?_ (Q3.out _) ?_); rfl; rfl; (simp only [List.map_toArray, List.map_cons, List.map_nil]; rfl)) | ((with_reducible refine store_tk (b := (N + 1)) (k := 0) (x := 2) (y := 7) ?_ ?_ ?_ ?_ HS.out ?_); rfl; rfl; rfl; rfl))
  have H1 : Hid (Below w.heap.size w W1 ∧ Bk w.heap.size W1 (N + 1) (noV t) 65) := ⟨HB.out.1, HB.out.2⟩
  clear HS HB L1 L2 Q3 H0
  have hld0 : (loadVar 65 ⟨(N + 1), 0, none⟩).run Tryd.prog W1 = .ok (.agg (noV t).toArray) W1 := H1.out.2.load 0 (noV t) (by rfl) Tryd.underlying65 rfl (by kernel_rfl)
  refine bodyPost_ret (v := .agg (noV t).toArray) ?_ rfl ⟨rfl, H1.out.1⟩
  simp [results, Tryd.results16, Act.put, asAddr, hld0]
set_option maxRecDepth 100000 in
set_option maxHeartbeats 400000 in
theorem times_ok (t : Td) (r : Nat) (hw : t.w < QQ) (hc : t.c < QQ) (ht : r = t.w * t.c % QQ) (w : World) (hG : GlobQ w) : Calls Tryd.prog 23 #[.agg (tdV t).toArray] w fun e w' => e = .returned (.agg (nuV r).toArray) ∧ Below w.heap.size w w' := by
  have KS : Hid _ := scalars_any
  have KM : Hid (∀ (g : Nat) (w : World), FieldB w g QQ → Calls Tryd.prog 34 #[.pointer (some ⟨g, 0, none⟩), .agg (nuV t.w).toArray, .agg (nuV t.c).toArray] w fun e w' => e = .returned (.tuple #[.agg (nuV r).toArray, .int .i64 0]) ∧ Below w.heap.size w w') := fun g w h => by
    rw [ht]
    exact fmul_in g QQ t.w t.c FM_Q hw hc w h
  obtain ⟨N, hN⟩ : ∃ N, N = w.heap.size := ⟨_, rfl⟩
  obtain ⟨W0, hW0⟩ : ∃ W, W = (w.alloc (.cells (tdV t).toArray 54)).alloc (.cells #[.int .u64 0, .int .u64 0, .int .u64 0, .int .u64 0] 27) := ⟨_, rfl⟩
  have H0 : Hid (Below w.heap.size w W0 ∧ Bk w.heap.size W0 N (tdV t) 54 ∧ Bk w.heap.size W0 (N + 1) [.int .u64 0, .int .u64 0, .int .u64 0, .int .u64 0] 27 ∧ GlobQ W0) := by
    have hb : Below w.heap.size w W0 := by
      rw [hW0]
      exact below_alloc0 (below_alloc0 (Below.refl _ _) _) _
    have e0 := Bk.mk0 (w) (tdV t) 54
    have a0 : Below (w).heap.size (w) (w.alloc (.cells (tdV t).toArray 54)) := below_alloc0 (Below.refl _ _) _
    have e1 := Bk.mk0 (w.alloc (.cells (tdV t).toArray 54)) [.int .u64 0, .int .u64 0, .int .u64 0, .int .u64 0] 27
    have a1 : Below (w.alloc (.cells (tdV t).toArray 54)).heap.size (w.alloc (.cells (tdV t).toArray 54)) ((w.alloc (.cells (tdV t).toArray 54)).alloc (.cells #[.int .u64 0, .int .u64 0, .int .u64 0, .int .u64 0] 27)) := below_alloc0 (Below.refl _ _) _
    simp only [World.size_alloc] at e1
    refine ⟨hb, ⟨?_, ?_⟩, ⟨?_, ?_⟩, hG.call hb⟩
    · exact Nat.le_of_eq hN.symm
    · rw [hW0, hN]
      exact (e0.call a1).2
    · rw [hN]
      omega
    · rw [hW0, hN]
      exact e1.2
  have HW : Hid (W0 = (w.alloc (.cells (tdV t).toArray 54)).alloc (.cells #[.int .u64 0, .int .u64 0, .int .u64 0, .int .u64 0] 27) ∧ N = w.heap.size) := ⟨hW0, hN⟩
  clear hW0 hN hG hc hw ht
  go_enter Tryd.func23, Tryd.ntmps23
  go_upto_region 1 with fail
  rw [← HW.out.1, ← HW.out.2]
  clear HW
  refine wp_region_S 11 0 10 (OwL [isX (fun y w => ∃ g, y = .pointer (some ⟨g, 0, none⟩) ∧ FieldB w g QQ), isV (.pointer (some ⟨N, 23, none⟩)), isV (.agg (nuV t.w).toArray), isV (.pointer (some ⟨N, 27, none⟩)), isV (.agg (nuV t.c).toArray), isV (.tuple #[.agg (nuV r).toArray, .int .i64 0]), isV (.tuple #[.agg (nuV r).toArray, .int .i64 0]), isV (.agg (nuV r).toArray), isV (.int .i64 0), isB (W0.heap.size) [.int .u64 0, .int .u64 0, .int .u64 0, .int .u64 0] (nuV r) 27, isT]) [some 6, some 7, some 8, some 9, some 10, some 11, some 5, some 12, some 13, some 3, none] [0, 1, 2, 3, 4, 5, 6, 7, 8, 9, 10] ?Ag1_1 ?osg1_1 (by kernel_rfl) (by kernel_rfl) (by kernel_rfl) (by kernel_rfl) ?hosg1_1 (by decide) ?hAg1_1 (OwL.call (pers_cons (pers_X (fun y w w' ⟨g, e, h⟩ hb => ⟨g, e, FieldB.call h hb⟩)) (pers_cons (pers_V _) (pers_cons (pers_V _) (pers_cons (pers_V _) (pers_cons (pers_V _) (pers_cons (pers_V _) (pers_cons (pers_V _) (pers_cons (pers_V _) (pers_cons (pers_V _) (pers_cons (pers_B _ _ _ _) (pers_cons (pers_T) (pers_nil))))))))))))) ?hopg1_1 ?hstg1_1 ?hfing1_1
  case hosg1_1 =>
    rw [List.getElem?_toArray]
    exact rfl
  case hAg1_1 =>
    intro v
    simp only [List.map_cons, List.map_nil, List.zip_cons_cons, List.zip_nil_right, fillD, Act.put, List.setIfInBounds_toArray, List.set_cons_zero, List.set_cons_succ]
    exact rfl
  case hopg1_1 =>
    refine ⟨?_, ?_, ?_, ?_, ?_, ?_, ?_, ?_, ?_, ?_, fun _ h => absurd rfl h, fun h => absurd h (by decide), trivial⟩
    focus (intro _ _ s v wx hs hS hd; obtain rfl := hs (by kernel_rfl); refine OpTo.asks rfl (fun _ => rfl) (fun K hK => ?_); go_simp; refine (KS.out _ ((H0.out.2.2.2.call hS))).mono ?_; rintro e w' ⟨g, rfl, hF, hq⟩; exact hK _ w' (fun _ => ⟨g, rfl, hF⟩) hq)
    focus (intro _ _ s v wx hs hS hd; refine OpTo.does rfl ?_ rfl (Below.refl _ _); clear hd hs hS; go_simp; try with_reducible rfl)
    focus (intro _ _ s v wx hs hS hd; exact OpTo.does rfl (exec_loadK (b := N) (k := 23) (x := 7) rfl (hd 1 (by kernel_rfl)) ((H0.out.2.1.call hS).load 23 (nuV t.w) (by rfl) Tryd.underlying27 rfl (by kernel_rfl))) rfl (Below.refl _ _))
    focus (intro _ _ s v wx hs hS hd; refine OpTo.does rfl ?_ rfl (Below.refl _ _); clear hd hs hS; go_simp; try with_reducible rfl)
    focus (intro _ _ s v wx hs hS hd; exact OpTo.does rfl (exec_loadK (b := N) (k := 27) (x := 9) rfl (hd 3 (by kernel_rfl)) ((H0.out.2.1.call hS).load 27 (nuV t.c) (by rfl) Tryd.underlying27 rfl (by kernel_rfl))) rfl (Below.refl _ _))
    focus (intro _ _ s v wx hs hS hd; obtain rfl := hs (by kernel_rfl); refine OpTo.asks rfl (fun _ => rfl) (fun K hK => ?_); obtain ⟨g, e0, hF⟩ := (hd 0 (by kernel_rfl)) rfl; have d2 : v 2 = .agg (nuV t.w).toArray := hd 2 (by kernel_rfl); have d4 : v 4 = .agg (nuV t.c).toArray := hd 4 (by kernel_rfl); simp only [d2, d4, e0] at hK ⊢; go_simp; refine (KM.out g _ hF).mono ?_; rintro e w' ⟨rfl, hq⟩; exact hK _ w' (rfl) hq)
    focus (intro _ _ s v wx hs hS hd; refine OpTo.does rfl ?_ rfl (Below.refl _ _); have d5 : v 5 = .tuple #[.agg (nuV r).toArray, .int .i64 0] := hd 5 (by kernel_rfl); simp only [d5]; clear hd hs hS; go_simp; try with_reducible rfl)
    focus (intro _ _ s v wx hs hS hd; refine OpTo.does rfl ?_ rfl (Below.refl _ _); have d6 : v 6 = .tuple #[.agg (nuV r).toArray, .int .i64 0] := hd 6 (by kernel_rfl); simp only [d6]; clear hd hs hS; go_simp; try with_reducible rfl)
    focus (intro _ _ s v wx hs hS hd; refine OpTo.does rfl ?_ rfl (Below.refl _ _); have d6 : v 6 = .tuple #[.agg (nuV r).toArray, .int .i64 0] := hd 6 (by kernel_rfl); simp only [d6]; clear hd hs hS; go_simp; try with_reducible rfl)
    focus (intro _ _ s v wx hs hS hd; refine OpTo.does (y := .pointer (some ⟨wx.heap.size, 0, none⟩)) (w1 := wx.alloc (.cells ([.int .u64 0, .int .u64 0, .int .u64 0, .int .u64 0] : List Value).toArray 27)) rfl ?_ ⟨_, rfl, hS.size, ?_⟩ (below_alloc0 (Below.refl _ _) _); (focus (go_simp; try rfl)); (rw [hs (by kernel_rfl)]; exact heap_alloc_last wx _))
  case hstg1_1 =>
    intro v wx hS hd
    have dy : v 7 = .agg (nuV r).toArray := hd 7 (by kernel_rfl)
    obtain ⟨b, e0, hz, hB⟩ := hd 9 (by kernel_rfl)
    refine OpTo.imp (OpTo.stores (w1 := wx.setRow b (nuV r).toArray) (v := undef) (R := fun w' => w' = wx.setRow b (nuV r).toArray) rfl (exec_storeK (b := b) (x := 3) (y := 12) rfl (by exact e0) (by exact dy) (run_storeVar_row wx b 27 27 _ (nuV r).toArray hB (by kernel_rfl) rfl (by kernel_rfl))) rfl rfl) ?_
    rintro x w' ⟨hx, rfl⟩
    refine ⟨undef, hx, trivial, below_setRowK hz _ hS, fun j hj => ?_⟩
    match j, hj with
    | 0, _ => exact fun h => Bool.noConfusion h
    | 1, h => exact h
    | 2, h => exact h
    | 3, h => exact h
    | 4, h => exact h
    | 5, h => exact h
    | 6, h => exact h
    | 7, h => exact h
    | 8, h => exact h
    | 9, _ => exact ⟨b, e0, hz, setRow_heap wx b _ _ _ _ hB⟩
    | 10, h => exact h
    | _ + 11, _ => exact trivial
  intro v w1 hS hd
  have d8 : v 8 = .int .i64 0 := hd 8 (by decide)
  obtain ⟨A1, e0, hz, hB⟩ := hd 9 (by decide)
  simp only [d8, e0]
  refine tail_at (o := ?otg1_111) ?hitg1_111 ?hwtg1_111 ?_
  case hitg1_111 => rw [List.getElem?_toArray]; exact rfl
  case hwtg1_111 => exact rfl
  go_simp
  refine tail_end ?_
  have H1 : Hid (Below w.heap.size w w1 ∧ Bk w.heap.size w1 N (tdV t) 54 ∧ Bk w.heap.size w1 (N + 1) [.int .u64 0, .int .u64 0, .int .u64 0, .int .u64 0] 27 ∧ GlobQ w1 ∧ Bk w.heap.size w1 A1 (nuV r) 27) := ⟨below_call0 H0.out.1 hS, H0.out.2.1.call hS, H0.out.2.2.1.call hS, H0.out.2.2.2.call hS, ⟨Nat.le_trans H0.out.1.size hz, hB⟩⟩
  clear hS hd hB hz d8 e0 H0
  go_upto_region 2 with fail
  have L1 : Hid ((loadVar 27 ⟨A1, 0, none⟩).run Tryd.prog w1 = .ok (.agg (nuV r).toArray) w1) := H1.out.2.2.2.2.load 0 (nuV r) (by rfl) Tryd.underlying27 rfl (by kernel_rfl)
  obtain ⟨W2, hS, hb, hB⟩ := H1.out.2.2.1.put H1.out.1 (nuV r) (by kernel_rfl) rfl (by kernel_rfl)
  have HS : Hid _ := hS
  have HB : Hid (Below w.heap.size w W2 ∧ Bk w.heap.size W2 (N + 1) (nuV r) 27) := ⟨hb, hB⟩
  clear hS hb hB
  go_wp2_with (first | ((with_reducible refine load_tk (b := A1) (k := 0) (x := 3) ?_ ?_ ?_ L1.out ?_); rfl; rfl; rfl) | ((with_reducible refine store_tk (b := (N + 1)) (k := 0) (x := 2) (y := 14) ?_ ?_ ?_ ?_ HS.out ?_); rfl; rfl; rfl; rfl))
  have H2 : Hid (Below w.heap.size w W2 ∧ Bk w.heap.size W2 (N + 1) (nuV r) 27) := ⟨HB.out.1, HB.out.2⟩
  clear HS HB L1 H1
  have hld0 : (loadVar 27 ⟨(N + 1), 0, none⟩).run Tryd.prog W2 = .ok (.agg (nuV r).toArray) W2 := H2.out.2.load 0 (nuV r) (by rfl) Tryd.underlying27 rfl (by kernel_rfl)
  refine bodyPost_ret (v := .agg (nuV r).toArray) ?_ rfl ⟨rfl, H2.out.1⟩
  simp [results, Tryd.results23, Act.put, asAddr, hld0]
theorem subM_ltK (q a b : Nat) (h : 0 < q) : subM q a b < q := Nat.mod_lt _ h
theorem QQ_posK : 0 < QQ := of_decide_eq_true (by kernel_rfl)
theorem QQ_RK {x : Nat} (h : x < QQ) : x < R256 := Nat.lt_trans h FM_Q.2.1
set_option maxRecDepth 100000 in
set_option maxHeartbeats 400000 in
theorem secret_ok (a b : Td) (ta tb m d i r : Nat) (ha1 : a.w < QQ) (ha2 : a.c < QQ) (ha3 : a.z < QQ) (hb1 : b.w < QQ) (hb2 : b.c < QQ) (hb3 : b.z < QQ) (hta : ta = a.w * a.c % QQ) (htb : tb = b.w * b.c % QQ) (hm : m = subM QQ a.z b.z) (hd : d = subM QQ ta tb) (h0 : d ≠ 0) (hi : i = d ^ (QQ - 2) % QQ) (hr : r = m * i % QQ) (w : World) (hG : GlobQ w) : Calls Tryd.prog 24 #[.agg (tdV a).toArray, .agg (tdV b).toArray] w fun e w' => e = .returned (.agg (nuV r).toArray) ∧ Below w.heap.size w w' := by
  have KS : Hid _ := scalars_any
  have hm' : m < QQ := by rw [hm]; exact subM_ltK _ _ _ QQ_posK
  have hd' : d < QQ := by rw [hd]; exact subM_ltK _ _ _ QQ_posK
  have hi' : i < QQ := by rw [hi]; exact Nat.mod_lt _ QQ_posK
  have hta' : ta < QQ := by rw [hta]; exact Nat.mod_lt _ QQ_posK
  have htb' : tb < QQ := by rw [htb]; exact Nat.mod_lt _ QQ_posK
  have K1 : Hid (∀ (g : Nat) (w : World), FieldB w g QQ → Calls Tryd.prog 35 #[.pointer (some ⟨g, 0, none⟩), .agg (nuV a.z).toArray, .agg (nuV b.z).toArray] w fun e w' => e = .returned (.tuple #[.agg (nuV m).toArray, .int .i64 0]) ∧ Below w.heap.size w w') := fun g w h => by
    rw [hm]
    exact fsub_in g QQ a.z b.z FM_Q ha3 hb3 w h
  have K2 : Hid (∀ (g : Nat) (w : World), FieldB w g QQ → Calls Tryd.prog 35 #[.pointer (some ⟨g, 0, none⟩), .agg (nuV ta).toArray, .agg (nuV tb).toArray] w fun e w' => e = .returned (.tuple #[.agg (nuV d).toArray, .int .i64 0]) ∧ Below w.heap.size w w') := fun g w h => by
    rw [hd]
    exact fsub_in g QQ ta tb FM_Q hta' htb' w h
  have K3 : Hid (∀ (g : Nat) (w : World), FieldB w g QQ → Calls Tryd.prog 36 #[.pointer (some ⟨g, 0, none⟩), .agg (nuV d).toArray] w fun e w' => e = .returned (.tuple #[.agg (nuV i).toArray, .int .i64 0]) ∧ Below w.heap.size w w') := fun g w h => by
    exact finv_in g QQ d i FM_Q hd' h0 hi w h
  have K4 : Hid (∀ (g : Nat) (w : World), FieldB w g QQ → Calls Tryd.prog 34 #[.pointer (some ⟨g, 0, none⟩), .agg (nuV m).toArray, .agg (nuV i).toArray] w fun e w' => e = .returned (.tuple #[.agg (nuV r).toArray, .int .i64 0]) ∧ Below w.heap.size w w') := fun g w h => by
    rw [hr]
    exact fmul_in g QQ m i FM_Q hm' hi' w h
  have KA : Hid (∀ w, GlobQ w → Calls Tryd.prog 23 #[.agg (tdV a).toArray] w fun e w' => e = .returned (.agg (nuV ta).toArray) ∧ Below w.heap.size w w') := fun w h => times_ok a ta ha1 ha2 hta w h
  have KB : Hid (∀ w, GlobQ w → Calls Tryd.prog 23 #[.agg (tdV b).toArray] w fun e w' => e = .returned (.agg (nuV tb).toArray) ∧ Below w.heap.size w w') := fun w h => times_ok b tb hb1 hb2 htb w h
  clear hm' hd' hi' hta' htb'
  obtain ⟨N, hN⟩ : ∃ N, N = w.heap.size := ⟨_, rfl⟩
  obtain ⟨W0, hW0⟩ : ∃ W, W = ((w.alloc (.cells (tdV a).toArray 54)).alloc (.cells (tdV b).toArray 54)).alloc (.cells #[.int .u64 0, .int .u64 0, .int .u64 0, .int .u64 0] 27) := ⟨_, rfl⟩
  have H0 : Hid (Below w.heap.size w W0 ∧ Bk w.heap.size W0 N (tdV a) 54 ∧ Bk w.heap.size W0 (N + 1) (tdV b) 54 ∧ Bk w.heap.size W0 (N + 1 + 1) [.int .u64 0, .int .u64 0, .int .u64 0, .int .u64 0] 27 ∧ GlobQ W0) := by
    have hb : Below w.heap.size w W0 := by
      rw [hW0]
      exact below_alloc0 (below_alloc0 (below_alloc0 (Below.refl _ _) _) _) _
    have e0 := Bk.mk0 (w) (tdV a) 54
    have a0 : Below (w).heap.size (w) (w.alloc (.cells (tdV a).toArray 54)) := below_alloc0 (Below.refl _ _) _
    have e1 := Bk.mk0 (w.alloc (.cells (tdV a).toArray 54)) (tdV b) 54
    have a1 : Below (w.alloc (.cells (tdV a).toArray 54)).heap.size (w.alloc (.cells (tdV a).toArray 54)) ((w.alloc (.cells (tdV a).toArray 54)).alloc (.cells (tdV b).toArray 54)) := below_alloc0 (Below.refl _ _) _
    simp only [World.size_alloc] at e1
    have e2 := Bk.mk0 ((w.alloc (.cells (tdV a).toArray 54)).alloc (.cells (tdV b).toArray 54)) [.int .u64 0, .int .u64 0, .int .u64 0, .int .u64 0] 27
    have a2 : Below ((w.alloc (.cells (tdV a).toArray 54)).alloc (.cells (tdV b).toArray 54)).heap.size ((w.alloc (.cells (tdV a).toArray 54)).alloc (.cells (tdV b).toArray 54)) (((w.alloc (.cells (tdV a).toArray 54)).alloc (.cells (tdV b).toArray 54)).alloc (.cells #[.int .u64 0, .int .u64 0, .int .u64 0, .int .u64 0] 27)) := below_alloc0 (Below.refl _ _) _
    simp only [World.size_alloc] at e2
    refine ⟨hb, ⟨?_, ?_⟩, ⟨?_, ?_⟩, ⟨?_, ?_⟩, hG.call hb⟩
    · exact Nat.le_of_eq hN.symm
    · rw [hW0, hN]
      exact ((e0.call a1).call a2).2
    · rw [hN]
      omega
    · rw [hW0, hN]
      exact (e1.call a2).2
    · rw [hN]
      omega
    · rw [hW0, hN]
      exact e2.2
  have HW : Hid (W0 = ((w.alloc (.cells (tdV a).toArray 54)).alloc (.cells (tdV b).toArray 54)).alloc (.cells #[.int .u64 0, .int .u64 0, .int .u64 0, .int .u64 0] 27) ∧ N = w.heap.size) := ⟨hW0, hN⟩
  clear hW0 hN hG ha1 ha2 hb1 hb2 ha3 hb3 hta htb hm hd h0 hi hr
  go_enter Tryd.func24, Tryd.ntmps24
  go_upto_region 1 with fail
  rw [← HW.out.1, ← HW.out.2]
  clear HW
  go_wp2_with fail
  refine (KS.out _ H0.out.2.2.2.2).mono ?_
  rintro e w1 ⟨g, rfl, hF, hb1⟩
  have H1 : Hid (Below w.heap.size w w1 ∧ Bk w.heap.size w1 N (tdV a) 54 ∧ Bk w.heap.size w1 (N + 1) (tdV b) 54 ∧ Bk w.heap.size w1 (N + 1 + 1) [.int .u64 0, .int .u64 0, .int .u64 0, .int .u64 0] 27 ∧ GlobQ w1 ∧ FieldB w1 g QQ) := ⟨below_call0 H0.out.1 hb1, H0.out.2.1.call hb1, H0.out.2.2.1.call hb1, H0.out.2.2.2.1.call hb1, H0.out.2.2.2.2.call hb1, hF⟩
  clear hb1 H0 hF
  go_upto_region 2 with fail
  have L1 : Hid ((loadVar 27 ⟨N, 31, none⟩).run Tryd.prog w1 = .ok (.agg (nuV a.z).toArray) w1) := H1.out.2.1.load 31 (nuV a.z) (by rfl) Tryd.underlying27 rfl (by kernel_rfl)
  have L2 : Hid ((loadVar 27 ⟨(N + 1), 31, none⟩).run Tryd.prog w1 = .ok (.agg (nuV b.z).toArray) w1) := H1.out.2.2.1.load 31 (nuV b.z) (by rfl) Tryd.underlying27 rfl (by kernel_rfl)
  go_wp2_with (first | ((with_reducible refine load_tk (b := N) (k := 31) (x := 17) ?_ ?_ ?_ L1.out ?_); rfl; rfl; rfl) | ((with_reducible refine load_tk (b := (N + 1)) (k := 31) (x := 19) ?_ ?_ ?_ L2.out ?_); rfl; rfl; rfl))
  refine (K1.out g _ H1.out.2.2.2.2.2).mono ?_
  rintro e w2 ⟨rfl, hb2⟩
  have H2 : Hid (Below w.heap.size w w2 ∧ Bk w.heap.size w2 N (tdV a) 54 ∧ Bk w.heap.size w2 (N + 1) (tdV b) 54 ∧ Bk w.heap.size w2 (N + 1 + 1) [.int .u64 0, .int .u64 0, .int .u64 0, .int .u64 0] 27 ∧ GlobQ w2 ∧ FieldB w2 g QQ) := ⟨below_call0 H1.out.1 hb2, H1.out.2.1.call hb2, H1.out.2.2.1.call hb2, H1.out.2.2.2.1.call hb2, H1.out.2.2.2.2.1.call hb2, FieldB.call H1.out.2.2.2.2.2 hb2⟩
  clear hb2 L1 L2 H1
  obtain ⟨W3, A3, hA, hS, hb, hB⟩ := Bk.fresh H2.out.1 (Nat.le_refl _) #[.int .u64 0, .int .u64 0, .int .u64 0, .int .u64 0] (nuV m) 27 (by kernel_rfl) rfl (by kernel_rfl)
  have HA : Hid (A3 = w2.heap.size) := hA
  have HS : Hid _ := hS
  have HB : Hid (Below w2.heap.size w2 W3 ∧ Bk w.heap.size W3 A3 (nuV m) 27) := ⟨hb, hB⟩
  clear hA hS hb hB
  go_upto_region 3 with (first | ((rw [← HA.out]); ((with_reducible refine store_tk (b := A3) (k := 0) (x := 6) (y := 22) ?_ ?_ ?_ ?_ HS.out ?_); rfl; rfl; rfl; rfl)) | ((with_reducible refine store_tk (b := A3) (k := 0) (x := 6) (y := 22) ?_ ?_ ?_ ?_ HS.out ?_); rfl; rfl; rfl; rfl))
  have H3 : Hid (Below w.heap.size w W3 ∧ Bk w.heap.size W3 N (tdV a) 54 ∧ Bk w.heap.size W3 (N + 1) (tdV b) 54 ∧ Bk w.heap.size W3 (N + 1 + 1) [.int .u64 0, .int .u64 0, .int .u64 0, .int .u64 0] 27 ∧ GlobQ W3 ∧ FieldB W3 g QQ ∧ Bk w.heap.size W3 A3 (nuV m) 27) := ⟨below_call0 H2.out.1 HB.out.1, H2.out.2.1.call HB.out.1, H2.out.2.2.1.call HB.out.1, H2.out.2.2.2.1.call HB.out.1, H2.out.2.2.2.2.1.call HB.out.1, FieldB.call H2.out.2.2.2.2.2 HB.out.1, HB.out.2⟩
  clear HA HS HB H2
  refine wp_region_S 11 0 10 (OwL [isV (.pointer (some ⟨g, 0, none⟩)), isV (.agg (tdV a).toArray), isV (.agg (nuV ta).toArray), isV (.agg (tdV b).toArray), isV (.agg (nuV tb).toArray), isV (.tuple #[.agg (nuV d).toArray, .int .i64 0]), isV (.tuple #[.agg (nuV d).toArray, .int .i64 0]), isV (.agg (nuV d).toArray), isV (.int .i64 0), isB (W3.heap.size) [.int .u64 0, .int .u64 0, .int .u64 0, .int .u64 0] (nuV d) 27, isT]) [some 25, some 26, some 27, some 28, some 29, some 30, some 24, some 31, some 32, some 8, none] [0, 1, 2, 3, 4, 5, 6, 7, 8, 9, 10] ?Ag3_2 ?osg3_2 (by kernel_rfl) (by kernel_rfl) (by kernel_rfl) (by kernel_rfl) ?hosg3_2 (by decide) ?hAg3_2 (OwL.call (pers_cons (pers_V _) (pers_cons (pers_V _) (pers_cons (pers_V _) (pers_cons (pers_V _) (pers_cons (pers_V _) (pers_cons (pers_V _) (pers_cons (pers_V _) (pers_cons (pers_V _) (pers_cons (pers_V _) (pers_cons (pers_B _ _ _ _) (pers_cons (pers_T) (pers_nil))))))))))))) ?hopg3_2 ?hstg3_2 ?hfing3_2
  case hosg3_2 =>
    rw [List.getElem?_toArray]
    exact rfl
  case hAg3_2 =>
    intro v
    simp only [List.map_cons, List.map_nil, List.zip_cons_cons, List.zip_nil_right, fillD, Act.put, List.setIfInBounds_toArray, List.set_cons_zero, List.set_cons_succ]
    exact rfl
  case hopg3_2 =>
    refine ⟨?_, ?_, ?_, ?_, ?_, ?_, ?_, ?_, ?_, ?_, fun _ h => absurd rfl h, fun h => absurd h (by decide), trivial⟩
    focus (intro _ _ s v wx hs hS hd; refine OpTo.does rfl ?_ rfl (Below.refl _ _); clear hd hs hS; go_simp; try with_reducible rfl)
    focus (intro _ _ s v wx hs hS hd; exact OpTo.does rfl (exec_loadK (b := N) (k := 0) (x := 2) rfl (rfl) ((H3.out.2.1.call hS).load 0 (tdV a) (by rfl) Tryd.underlying54 rfl (by kernel_rfl))) rfl (Below.refl _ _))
    focus (intro _ _ s v wx hs hS hd; obtain rfl := hs (by kernel_rfl); refine OpTo.asks rfl (fun _ => rfl) (fun K hK => ?_); have d1 : v 1 = .agg (tdV a).toArray := hd 1 (by kernel_rfl); simp only [d1] at hK ⊢; go_simp; refine (KA.out _ ((H3.out.2.2.2.2.1.call hS))).mono ?_; rintro e w' ⟨rfl, hq⟩; exact hK _ w' (rfl) hq)
    focus (intro _ _ s v wx hs hS hd; exact OpTo.does rfl (exec_loadK (b := (N + 1)) (k := 0) (x := 3) rfl (rfl) ((H3.out.2.2.1.call hS).load 0 (tdV b) (by rfl) Tryd.underlying54 rfl (by kernel_rfl))) rfl (Below.refl _ _))
    focus (intro _ _ s v wx hs hS hd; obtain rfl := hs (by kernel_rfl); refine OpTo.asks rfl (fun _ => rfl) (fun K hK => ?_); have d3 : v 3 = .agg (tdV b).toArray := hd 3 (by kernel_rfl); simp only [d3] at hK ⊢; go_simp; refine (KB.out _ ((H3.out.2.2.2.2.1.call hS))).mono ?_; rintro e w' ⟨rfl, hq⟩; exact hK _ w' (rfl) hq)
    focus (intro _ _ s v wx hs hS hd; obtain rfl := hs (by kernel_rfl); refine OpTo.asks rfl (fun _ => rfl) (fun K hK => ?_); have d0 : v 0 = .pointer (some ⟨g, 0, none⟩) := hd 0 (by kernel_rfl); have d2 : v 2 = .agg (nuV ta).toArray := hd 2 (by kernel_rfl); have d4 : v 4 = .agg (nuV tb).toArray := hd 4 (by kernel_rfl); simp only [d0, d2, d4] at hK ⊢; go_simp; refine (K2.out g _ ((FieldB.call H3.out.2.2.2.2.2.1 hS))).mono ?_; rintro e w' ⟨rfl, hq⟩; exact hK _ w' (rfl) hq)
    focus (intro _ _ s v wx hs hS hd; refine OpTo.does rfl ?_ rfl (Below.refl _ _); have d5 : v 5 = .tuple #[.agg (nuV d).toArray, .int .i64 0] := hd 5 (by kernel_rfl); simp only [d5]; clear hd hs hS; go_simp; try with_reducible rfl)
    focus (intro _ _ s v wx hs hS hd; refine OpTo.does rfl ?_ rfl (Below.refl _ _); have d6 : v 6 = .tuple #[.agg (nuV d).toArray, .int .i64 0] := hd 6 (by kernel_rfl); simp only [d6]; clear hd hs hS; go_simp; try with_reducible rfl)
    focus (intro _ _ s v wx hs hS hd; refine OpTo.does rfl ?_ rfl (Below.refl _ _); have d6 : v 6 = .tuple #[.agg (nuV d).toArray, .int .i64 0] := hd 6 (by kernel_rfl); simp only [d6]; clear hd hs hS; go_simp; try with_reducible rfl)
    focus (intro _ _ s v wx hs hS hd; refine OpTo.does (y := .pointer (some ⟨wx.heap.size, 0, none⟩)) (w1 := wx.alloc (.cells ([.int .u64 0, .int .u64 0, .int .u64 0, .int .u64 0] : List Value).toArray 27)) rfl ?_ ⟨_, rfl, hS.size, ?_⟩ (below_alloc0 (Below.refl _ _) _); (focus (go_simp; try rfl)); (rw [hs (by kernel_rfl)]; exact heap_alloc_last wx _))
  case hstg3_2 =>
    intro v wx hS hd
    have dy : v 7 = .agg (nuV d).toArray := hd 7 (by kernel_rfl)
    obtain ⟨b, e0, hz, hB⟩ := hd 9 (by kernel_rfl)
    refine OpTo.imp (OpTo.stores (w1 := wx.setRow b (nuV d).toArray) (v := undef) (R := fun w' => w' = wx.setRow b (nuV d).toArray) rfl (exec_storeK (b := b) (x := 8) (y := 31) rfl (by exact e0) (by exact dy) (run_storeVar_row wx b 27 27 _ (nuV d).toArray hB (by kernel_rfl) rfl (by kernel_rfl))) rfl rfl) ?_
    rintro x w' ⟨hx, rfl⟩
    refine ⟨undef, hx, trivial, below_setRowK hz _ hS, fun j hj => ?_⟩
    match j, hj with
    | 0, h => exact h
    | 1, h => exact h
    | 2, h => exact h
    | 3, h => exact h
    | 4, h => exact h
    | 5, h => exact h
    | 6, h => exact h
    | 7, h => exact h
    | 8, h => exact h
    | 9, _ => exact ⟨b, e0, hz, setRow_heap wx b _ _ _ _ hB⟩
    | 10, h => exact h
    | _ + 11, _ => exact trivial
  intro v w4 hS hd
  have d8 : v 8 = .int .i64 0 := hd 8 (by decide)
  obtain ⟨A4, e0, hz, hB⟩ := hd 9 (by decide)
  simp only [d8, e0]
  refine tail_at (o := ?otg3_211) ?hitg3_211 ?hwtg3_211 ?_
  case hitg3_211 => rw [List.getElem?_toArray]; exact rfl
  case hwtg3_211 => exact rfl
  go_simp
  refine tail_end ?_
  have H4 : Hid (Below w.heap.size w w4 ∧ Bk w.heap.size w4 N (tdV a) 54 ∧ Bk w.heap.size w4 (N + 1) (tdV b) 54 ∧ Bk w.heap.size w4 (N + 1 + 1) [.int .u64 0, .int .u64 0, .int .u64 0, .int .u64 0] 27 ∧ GlobQ w4 ∧ FieldB w4 g QQ ∧ Bk w.heap.size w4 A3 (nuV m) 27 ∧ Bk w.heap.size w4 A4 (nuV d) 27) := ⟨below_call0 H3.out.1 hS, H3.out.2.1.call hS, H3.out.2.2.1.call hS, H3.out.2.2.2.1.call hS, H3.out.2.2.2.2.1.call hS, FieldB.call H3.out.2.2.2.2.2.1 hS, H3.out.2.2.2.2.2.2.call hS, ⟨Nat.le_trans H3.out.1.size hz, hB⟩⟩
  clear hS hd hB hz d8 e0 H3
  go_upto_region 4 with fail
  have L3 : Hid ((loadVar 27 ⟨A4, 0, none⟩).run Tryd.prog w4 = .ok (.agg (nuV d).toArray) w4) := H4.out.2.2.2.2.2.2.2.load 0 (nuV d) (by rfl) Tryd.underlying27 rfl (by kernel_rfl)
  go_wp2_with ((with_reducible refine load_tk (b := A4) (k := 0) (x := 8) ?_ ?_ ?_ L3.out ?_); rfl; rfl; rfl)
  refine (K3.out g _ H4.out.2.2.2.2.2.1).mono ?_
  rintro e w5 ⟨rfl, hb5⟩
  have H5 : Hid (Below w.heap.size w w5 ∧ Bk w.heap.size w5 N (tdV a) 54 ∧ Bk w.heap.size w5 (N + 1) (tdV b) 54 ∧ Bk w.heap.size w5 (N + 1 + 1) [.int .u64 0, .int .u64 0, .int .u64 0, .int .u64 0] 27 ∧ GlobQ w5 ∧ FieldB w5 g QQ ∧ Bk w.heap.size w5 A3 (nuV m) 27 ∧ Bk w.heap.size w5 A4 (nuV d) 27) := ⟨below_call0 H4.out.1 hb5, H4.out.2.1.call hb5, H4.out.2.2.1.call hb5, H4.out.2.2.2.1.call hb5, H4.out.2.2.2.2.1.call hb5, FieldB.call H4.out.2.2.2.2.2.1 hb5, H4.out.2.2.2.2.2.2.1.call hb5, H4.out.2.2.2.2.2.2.2.call hb5⟩
  clear hb5 L3 H4
  obtain ⟨W6, A6, hA, hS, hb, hB⟩ := Bk.fresh H5.out.1 (Nat.le_refl _) #[.int .u64 0, .int .u64 0, .int .u64 0, .int .u64 0] (nuV i) 27 (by kernel_rfl) rfl (by kernel_rfl)
  have HA : Hid (A6 = w5.heap.size) := hA
  have HS : Hid _ := hS
  have HB : Hid (Below w5.heap.size w5 W6 ∧ Bk w.heap.size W6 A6 (nuV i) 27) := ⟨hb, hB⟩
  clear hA hS hb hB
  go_upto_region 5 with (first | ((rw [← HA.out]); ((with_reducible refine store_tk (b := A6) (k := 0) (x := 10) (y := 37) ?_ ?_ ?_ ?_ HS.out ?_); rfl; rfl; rfl; rfl)) | ((with_reducible refine store_tk (b := A6) (k := 0) (x := 10) (y := 37) ?_ ?_ ?_ ?_ HS.out ?_); rfl; rfl; rfl; rfl))
  have H6 : Hid (Below w.heap.size w W6 ∧ Bk w.heap.size W6 N (tdV a) 54 ∧ Bk w.heap.size W6 (N + 1) (tdV b) 54 ∧ Bk w.heap.size W6 (N + 1 + 1) [.int .u64 0, .int .u64 0, .int .u64 0, .int .u64 0] 27 ∧ GlobQ W6 ∧ FieldB W6 g QQ ∧ Bk w.heap.size W6 A3 (nuV m) 27 ∧ Bk w.heap.size W6 A4 (nuV d) 27 ∧ Bk w.heap.size W6 A6 (nuV i) 27) := ⟨below_call0 H5.out.1 HB.out.1, H5.out.2.1.call HB.out.1, H5.out.2.2.1.call HB.out.1, H5.out.2.2.2.1.call HB.out.1, H5.out.2.2.2.2.1.call HB.out.1, FieldB.call H5.out.2.2.2.2.2.1 HB.out.1, H5.out.2.2.2.2.2.2.1.call HB.out.1, H5.out.2.2.2.2.2.2.2.call HB.out.1, HB.out.2⟩
  clear HA HS HB H5
  have L4 : Hid ((loadVar 27 ⟨A3, 0, none⟩).run Tryd.prog W6 = .ok (.agg (nuV m).toArray) W6) := H6.out.2.2.2.2.2.2.1.load 0 (nuV m) (by rfl) Tryd.underlying27 rfl (by kernel_rfl)
  have L5 : Hid ((loadVar 27 ⟨A6, 0, none⟩).run Tryd.prog W6 = .ok (.agg (nuV i).toArray) W6) := H6.out.2.2.2.2.2.2.2.2.load 0 (nuV i) (by rfl) Tryd.underlying27 rfl (by kernel_rfl)
  go_wp2_with (first | ((with_reducible refine load_tk (b := A3) (k := 0) (x := 6) ?_ ?_ ?_ L4.out ?_); rfl; rfl; rfl) | ((with_reducible refine load_tk (b := A6) (k := 0) (x := 10) ?_ ?_ ?_ L5.out ?_); rfl; rfl; rfl))
  refine (K4.out g _ H6.out.2.2.2.2.2.1).mono ?_
  rintro e w7 ⟨rfl, hb7⟩
  have H7 : Hid (Below w.heap.size w w7 ∧ Bk w.heap.size w7 N (tdV a) 54 ∧ Bk w.heap.size w7 (N + 1) (tdV b) 54 ∧ Bk w.heap.size w7 (N + 1 + 1) [.int .u64 0, .int .u64 0, .int .u64 0, .int .u64 0] 27 ∧ GlobQ w7 ∧ FieldB w7 g QQ ∧ Bk w.heap.size w7 A3 (nuV m) 27 ∧ Bk w.heap.size w7 A4 (nuV d) 27 ∧ Bk w.heap.size w7 A6 (nuV i) 27) := ⟨below_call0 H6.out.1 hb7, H6.out.2.1.call hb7, H6.out.2.2.1.call hb7, H6.out.2.2.2.1.call hb7, H6.out.2.2.2.2.1.call hb7, FieldB.call H6.out.2.2.2.2.2.1 hb7, H6.out.2.2.2.2.2.2.1.call hb7, H6.out.2.2.2.2.2.2.2.1.call hb7, H6.out.2.2.2.2.2.2.2.2.call hb7⟩
  clear hb7 L4 L5 H6
  obtain ⟨W8, A8, hA, hS, hb, hB⟩ := Bk.fresh H7.out.1 (Nat.le_refl _) #[.int .u64 0, .int .u64 0, .int .u64 0, .int .u64 0] (nuV r) 27 (by kernel_rfl) rfl (by kernel_rfl)
  have HA : Hid (A8 = w7.heap.size) := hA
  have HS : Hid _ := hS
  have HB : Hid (Below w7.heap.size w7 W8 ∧ Bk w.heap.size W8 A8 (nuV r) 27) := ⟨hb, hB⟩
  clear hA hS hb hB
  go_upto_region 6 with (first | ((rw [← HA.out]); ((with_reducible refine store_tk (b := A8) (k := 0) (x := 12) (y := 44) ?_ ?_ ?_ ?_ HS.out ?_); rfl; rfl; rfl; rfl)) | ((with_reducible refine store_tk (b := A8) (k := 0) (x := 12) (y := 44) ?_ ?_ ?_ ?_ HS.out ?_); rfl; rfl; rfl; rfl))
  have H8 : Hid (Below w.heap.size w W8 ∧ Bk w.heap.size W8 N (tdV a) 54 ∧ Bk w.heap.size W8 (N + 1) (tdV b) 54 ∧ Bk w.heap.size W8 (N + 1 + 1) [.int .u64 0, .int .u64 0, .int .u64 0, .int .u64 0] 27 ∧ GlobQ W8 ∧ FieldB W8 g QQ ∧ Bk w.heap.size W8 A3 (nuV m) 27 ∧ Bk w.heap.size W8 A4 (nuV d) 27 ∧ Bk w.heap.size W8 A6 (nuV i) 27 ∧ Bk w.heap.size W8 A8 (nuV r) 27) := ⟨below_call0 H7.out.1 HB.out.1, H7.out.2.1.call HB.out.1, H7.out.2.2.1.call HB.out.1, H7.out.2.2.2.1.call HB.out.1, H7.out.2.2.2.2.1.call HB.out.1, FieldB.call H7.out.2.2.2.2.2.1 HB.out.1, H7.out.2.2.2.2.2.2.1.call HB.out.1, H7.out.2.2.2.2.2.2.2.1.call HB.out.1, H7.out.2.2.2.2.2.2.2.2.call HB.out.1, HB.out.2⟩
  clear HA HS HB H7
  have L6 : Hid ((loadVar 27 ⟨A8, 0, none⟩).run Tryd.prog W8 = .ok (.agg (nuV r).toArray) W8) := H8.out.2.2.2.2.2.2.2.2.2.load 0 (nuV r) (by rfl) Tryd.underlying27 rfl (by kernel_rfl)
  obtain ⟨W9, hS, hb, hB⟩ := H8.out.2.2.2.1.put H8.out.1 (nuV r) (by kernel_rfl) rfl (by kernel_rfl)
  have HS : Hid _ := hS
  have HB : Hid (Below w.heap.size w W9 ∧ Bk w.heap.size W9 (N + 1 + 1) (nuV r) 27) := ⟨hb, hB⟩
  clear hS hb hB
  go_wp2_with (first | ((with_reducible refine load_tk (b := A8) (k := 0) (x := 12) ?_ ?_ ?_ L6.out ?_); rfl; rfl; rfl) | ((with_reducible refine store_tk (b := (N + 1 + 1)) (k := 0) (x := 4) (y := 46) ?_ ?_ ?_ ?_ HS.out ?_); rfl; rfl; rfl; rfl))
  have H9 : Hid (Below w.heap.size w W9 ∧ Bk w.heap.size W9 (N + 1 + 1) (nuV r) 27) := ⟨HB.out.1, HB.out.2⟩
  clear HS HB L6 H8
  have hld0 : (loadVar 27 ⟨(N + 1 + 1), 0, none⟩).run Tryd.prog W9 = .ok (.agg (nuV r).toArray) W9 := H9.out.2.load 0 (nuV r) (by rfl) Tryd.underlying27 rfl (by kernel_rfl)
  refine bodyPost_ret (v := .agg (nuV r).toArray) ?_ rfl ⟨rfl, H9.out.1⟩
  simp [results, Tryd.results24, Act.put, asAddr, hld0]
end Go.Proofs.YtbpgiijdcagckaaDoor
