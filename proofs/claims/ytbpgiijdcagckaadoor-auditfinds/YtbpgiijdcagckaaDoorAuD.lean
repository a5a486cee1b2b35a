/- Package audit's reference: a share; are its numbers scalars; Leak. -/
import Derived.Test.YtbpgiijdcagckaaDoorAuC
import Derived.Test.YtbpgiijdcagckaaDoorRef2G
import Derived.Test.YtbpgiijdcagckaaDoorRef2P
import Derived.Test.YtbpgiijdcagckaaDoorRef2I
namespace Go.Proofs.YtbpgiijdcagckaaDoor
open Go Go.RowKit Go.Lib
set_option maxRecDepth 100000 in
set_option maxHeartbeats 400000 in
theorem pair_any (t : Td) (w : World) : Calls Tryd.prog 6 #[.agg (prV t).toArray] w fun e w' => e = .returned (.agg (prV t).toArray) ∧ Below w.heap.size w w' := by
  obtain ⟨N, hN⟩ : ∃ N, N = w.heap.size := ⟨_, rfl⟩
  obtain ⟨W0, hW0⟩ : ∃ W, W = (w.alloc (.cells (prV t).toArray 31)).alloc (.cells #[.int .i64 0, .int .u64 0, .int .u64 0, .int .u64 0, .int .u64 0, .int .u64 0, .int .u64 0, .int .u64 0, .int .u64 0, .bool false, .int .u64 0, .int .u64 0, .int .u64 0, .int .u64 0, .int .u64 0, .int .u64 0, .int .u64 0, .int .u64 0, .bool false] 34) := ⟨_, rfl⟩
  have H0 : Hid (Below w.heap.size w W0 ∧ Bk w.heap.size W0 N (prV t) 31 ∧ Bk w.heap.size W0 (N + 1) [.int .i64 0, .int .u64 0, .int .u64 0, .int .u64 0, .int .u64 0, .int .u64 0, .int .u64 0, .int .u64 0, .int .u64 0, .bool false, .int .u64 0, .int .u64 0, .int .u64 0, .int .u64 0, .int .u64 0, .int .u64 0, .int .u64 0, .int .u64 0, .bool false] 34) := by
    have hb : Below w.heap.size w W0 := by
      rw [hW0]
      exact below_alloc0 (below_alloc0 (Below.refl _ _) _) _
    have e0 := Bk.mk0 (w) (prV t) 31
    have a0 : Below (w).heap.size (w) (w.alloc (.cells (prV t).toArray 31)) := below_alloc0 (Below.refl _ _) _
    have e1 := Bk.mk0 (w.alloc (.cells (prV t).toArray 31)) [.int .i64 0, .int .u64 0, .int .u64 0, .int .u64 0, .int .u64 0, .int .u64 0, .int .u64 0, .int .u64 0, .int .u64 0, .bool false, .int .u64 0, .int .u64 0, .int .u64 0, .int .u64 0, .int .u64 0, .int .u64 0, .int .u64 0, .int .u64 0, .bool false] 34
    have a1 : Below (w.alloc (.cells (prV t).toArray 31)).heap.size (w.alloc (.cells (prV t).toArray 31)) ((w.alloc (.cells (prV t).toArray 31)).alloc (.cells #[.int .i64 0, .int .u64 0, .int .u64 0, .int .u64 0, .int .u64 0, .int .u64 0, .int .u64 0, .int .u64 0, .int .u64 0, .bool false, .int .u64 0, .int .u64 0, .int .u64 0, .int .u64 0, .int .u64 0, .int .u64 0, .int .u64 0, .int .u64 0, .bool false] 34)) := below_alloc0 (Below.refl _ _) _
    simp only [World.size_alloc] at e1
    refine ⟨hb, ⟨?_, ?_⟩, ⟨?_, ?_⟩⟩
    · exact Nat.le_of_eq hN.symm
    · rw [hW0, hN]
      exact (e0.call a1).2
    · rw [hN]
      omega
    · rw [hW0, hN]
      exact e1.2
  have HW : Hid (W0 = (w.alloc (.cells (prV t).toArray 31)).alloc (.cells #[.int .i64 0, .int .u64 0, .int .u64 0, .int .u64 0, .int .u64 0, .int .u64 0, .int .u64 0, .int .u64 0, .int .u64 0, .bool false, .int .u64 0, .int .u64 0, .int .u64 0, .int .u64 0, .int .u64 0, .int .u64 0, .int .u64 0, .int .u64 0, .bool false] 34) ∧ N = w.heap.size) := ⟨hW0, hN⟩
  clear hW0 hN 
  go_enter Tryd.func6, Tryd.ntmps6
  go_upto_region 1 with fail
  rw [← HW.out.1, ← HW.out.2]
  clear HW
  have q1 : W0.cell? ⟨N, 0, none⟩ = some (.int .i64 t.n) := H0.out.2.1.cell 0 _ rfl
  have L2 : Hid ((loadVar 29 ⟨N, 1, none⟩).run Tryd.prog W0 = .ok (.agg (dV t).toArray) W0) := H0.out.2.1.load 1 (dV t) (by rfl) Tryd.underlying29 rfl (by kernel_rfl)
  have L3 : Hid ((loadVar 29 ⟨N, 10, none⟩).run Tryd.prog W0 = .ok (.agg (eV t).toArray) W0) := H0.out.2.1.load 10 (eV t) (by rfl) Tryd.underlying29 rfl (by kernel_rfl)
  have Q4 : Hid (∀ w, (Instr.build 34 #[(0, .int .i64 t.n), (1, .agg (dV t).toArray), (2, .agg (eV t).toArray)]).run Tryd.prog w = .ok (.agg (prV t).toArray) w) := fun _ => by kernel_rfl
  obtain ⟨W1, hS, hb, hB⟩ := H0.out.2.2.put H0.out.1 (prV t) (by kernel_rfl) rfl (by kernel_rfl)
  have HS : Hid _ := hS
  have HB : Hid (Below w.heap.size w W1 ∧ Bk w.heap.size W1 (N + 1) (prV t) 34) := ⟨hb, hB⟩
  clear hS hb hB
  go_wp2_with (first | ((with_reducible refine load_tk (b := N) (k := 1) (x := 5) ?_ ?_ ?_ L2.out ?_); rfl; rfl; rfl) | ((with_reducible refine load_tk (b := N) (k := 10) (x := 7) ?_ ?_ ?_ L3.out ?_); rfl; rfl; rfl) | ((with_reducible refine build_tk (ty := 34) (parts := #[(0, .tmp 4), (1, .tmp 6), (2, .tmp 8)]) (ps := #[(0, .int .i64 t.n), (1, .agg (dV t).toArray), (2, .agg (eV t).toArray)]) (vs := (prV t).toArray) ?_ ?_ ?_ (Q4.out _) ?_); rfl; rfl; (simp only [List.map_toArray, List.map_cons, List.map_nil]; rfl)) | ((with_reducible refine store_tk (b := (N + 1)) (k := 0) (x := 2) (y := 9) ?_ ?_ ?_ ?_ HS.out ?_); rfl; rfl; rfl; rfl))
  have H1 : Hid (Below w.heap.size w W1 ∧ Bk w.heap.size W1 (N + 1) (prV t) 34) := ⟨HB.out.1, HB.out.2⟩
  clear HS HB q1 L2 L3 Q4 H0
  have hld0 : (loadVar 34 ⟨(N + 1), 0, none⟩).run Tryd.prog W1 = .ok (.agg (prV t).toArray) W1 := H1.out.2.load 0 (prV t) (by rfl) Tryd.underlying34 rfl (by kernel_rfl)
  refine bodyPost_ret (v := .agg (prV t).toArray) ?_ rfl ⟨rfl, H1.out.1⟩
  simp [results, Tryd.results6, Act.put, asAddr, hld0]
set_option maxRecDepth 100000 in
set_option maxHeartbeats 400000 in
theorem told_any (t : Td) (w : World) : Calls Tryd.prog 13 #[.agg (tdV t).toArray] w fun e w' => e = .returned (.agg (tdV t).toArray) ∧ Below w.heap.size w w' := by
  have KP : Hid (∀ w, Calls Tryd.prog 6 #[.agg (prV t).toArray] w fun e w' => e = .returned (.agg (prV t).toArray) ∧ Below w.heap.size w w') := fun w => pair_any t w
  obtain ⟨N, hN⟩ : ∃ N, N = w.heap.size := ⟨_, rfl⟩
  obtain ⟨W0, hW0⟩ : ∃ W, W = (w.alloc (.cells (tdV t).toArray 54)).alloc (.cells #[.int .i64 0, .int .u64 0, .int .u64 0, .int .u64 0, .int .u64 0, .int .u64 0, .int .u64 0, .int .u64 0, .int .u64 0, .bool false, .int .u64 0, .int .u64 0, .int .u64 0, .int .u64 0, .int .u64 0, .int .u64 0, .int .u64 0, .int .u64 0, .bool false, .int .u64 0, .int .u64 0, .int .u64 0, .int .u64 0, .int .u64 0, .int .u64 0, .int .u64 0, .int .u64 0, .int .u64 0, .int .u64 0, .int .u64 0, .int .u64 0, .int .u64 0, .int .u64 0, .int .u64 0, .int .u64 0] 51) := ⟨_, rfl⟩
  have H0 : Hid (Below w.heap.size w W0 ∧ Bk w.heap.size W0 N (tdV t) 54 ∧ Bk w.heap.size W0 (N + 1) [.int .i64 0, .int .u64 0, .int .u64 0, .int .u64 0, .int .u64 0, .int .u64 0, .int .u64 0, .int .u64 0, .int .u64 0, .bool false, .int .u64 0, .int .u64 0, .int .u64 0, .int .u64 0, .int .u64 0, .int .u64 0, .int .u64 0, .int .u64 0, .bool false, .int .u64 0, .int .u64 0, .int .u64 0, .int .u64 0, .int .u64 0, .int .u64 0, .int .u64 0, .int .u64 0, .int .u64 0, .int .u64 0, .int .u64 0, .int .u64 0, .int .u64 0, .int .u64 0, .int .u64 0, .int .u64 0] 51) := by
    have hb : Below w.heap.size w W0 := by
      rw [hW0]
      exact below_alloc0 (below_alloc0 (Below.refl _ _) _) _
    have e0 := Bk.mk0 (w) (tdV t) 54
    have a0 : Below (w).heap.size (w) (w.alloc (.cells (tdV t).toArray 54)) := below_alloc0 (Below.refl _ _) _
    have e1 := Bk.mk0 (w.alloc (.cells (tdV t).toArray 54)) [.int .i64 0, .int .u64 0, .int .u64 0, .int .u64 0, .int .u64 0, .int .u64 0, .int .u64 0, .int .u64 0, .int .u64 0, .bool false, .int .u64 0, .int .u64 0, .int .u64 0, .int .u64 0, .int .u64 0, .int .u64 0, .int .u64 0, .int .u64 0, .bool false, .int .u64 0, .int .u64 0, .int .u64 0, .int .u64 0, .int .u64 0, .int .u64 0, .int .u64 0, .int .u64 0, .int .u64 0, .int .u64 0, .int .u64 0, .int .u64 0, .int .u64 0, .int .u64 0, .int .u64 0, .int .u64 0] 51
    have a1 : Below (w.alloc (.cells (tdV t).toArray 54)).heap.size (w.alloc (.cells (tdV t).toArray 54)) ((w.alloc (.cells (tdV t).toArray 54)).alloc (.cells #[.int .i64 0, .int .u64 0, .int .u64 0, .int .u64 0, .int .u64 0, .int .u64 0, .int .u64 0, .int .u64 0, .int .u64 0, .bool false, .int .u64 0, .int .u64 0, .int .u64 0, .int .u64 0, .int .u64 0, .int .u64 0, .int .u64 0, .int .u64 0, .bool false, .int .u64 0, .int .u64 0, .int .u64 0, .int .u64 0, .int .u64 0, .int .u64 0, .int .u64 0, .int .u64 0, .int .u64 0, .int .u64 0, .int .u64 0, .int .u64 0, .int .u64 0, .int .u64 0, .int .u64 0, .int .u64 0] 51)) := below_alloc0 (Below.refl _ _) _
    simp only [World.size_alloc] at e1
    refine ⟨hb, ⟨?_, ?_⟩, ⟨?_, ?_⟩⟩
    · exact Nat.le_of_eq hN.symm
    · rw [hW0, hN]
      exact (e0.call a1).2
    · rw [hN]
      omega
    · rw [hW0, hN]
      exact e1.2
  have HW : Hid (W0 = (w.alloc (.cells (tdV t).toArray 54)).alloc (.cells #[.int .i64 0, .int .u64 0, .int .u64 0, .int .u64 0, .int .u64 0, .int .u64 0, .int .u64 0, .int .u64 0, .int .u64 0, .bool false, .int .u64 0, .int .u64 0, .int .u64 0, .int .u64 0, .int .u64 0, .int .u64 0, .int .u64 0, .int .u64 0, .bool false, .int .u64 0, .int .u64 0, .int .u64 0, .int .u64 0, .int .u64 0, .int .u64 0, .int .u64 0, .int .u64 0, .int .u64 0, .int .u64 0, .int .u64 0, .int .u64 0, .int .u64 0, .int .u64 0, .int .u64 0, .int .u64 0] 51) ∧ N = w.heap.size) := ⟨hW0, hN⟩
  clear hW0 hN 
  go_enter Tryd.func13, Tryd.ntmps13
  go_upto_region 1 with fail
  rw [← HW.out.1, ← HW.out.2]
  clear HW
  refine wp_region_P 12 0 (OwL [isV (.pointer (some ⟨N, 0, none⟩)), isV (.agg (prV t).toArray), isV (.agg (prV t).toArray), isV (.pointer (some ⟨N, 19, none⟩)), isV (.agg (nuV t.f).toArray), isV (.pointer (some ⟨N, 23, none⟩)), isV (.agg (nuV t.w).toArray), isV (.pointer (some ⟨N, 27, none⟩)), isV (.agg (nuV t.c).toArray), isV (.pointer (some ⟨N, 31, none⟩)), isV (.agg (nuV t.z).toArray), isV (.agg (tdV t).toArray)] false) [some 3, some 4, some 5, some 6, some 7, some 8, some 9, some 10, some 11, some 12, some 13, some 14] [0, 1, 2, 3, 4, 5, 6, 7, 8, 9, 10, 11] ?Ag1_7 (by kernel_rfl) (by kernel_rfl) (by kernel_rfl) (by decide) ?hAg1_7 (OwL.call (pers_cons (pers_V _) (pers_cons (pers_V _) (pers_cons (pers_V _) (pers_cons (pers_V _) (pers_cons (pers_V _) (pers_cons (pers_V _) (pers_cons (pers_V _) (pers_cons (pers_V _) (pers_cons (pers_V _) (pers_cons (pers_V _) (pers_cons (pers_V _) (pers_cons (pers_V _) (pers_nil))))))))))))) false) ?hopg1_7 ?hfing1_7
  case hAg1_7 =>
    intro v
    simp only [List.map_cons, List.map_nil, List.zip_cons_cons, List.zip_nil_right, fillD, Act.put, List.setIfInBounds_toArray, List.set_cons_zero, List.set_cons_succ]
    exact rfl
  case hopg1_7 =>
    refine ⟨?_, ?_, ?_, ?_, ?_, ?_, ?_, ?_, ?_, ?_, ?_, ?_, fun h => absurd h (by decide), trivial⟩
    focus (intro _ v wx hS hd; refine OpTo.does rfl ?_ rfl (Below.refl _ _); clear hd hS; go_simp; try with_reducible rfl)
    focus (intro _ v wx hS hd; exact OpTo.does rfl (exec_loadK (b := N) (k := 0) (x := 3) rfl (hd 0 (by kernel_rfl)) ((H0.out.2.1.call hS).load 0 (prV t) (by rfl) Tryd.underlying31 rfl (by kernel_rfl))) rfl (Below.refl _ _))
    focus (intro _ v wx hS hd; refine OpTo.asks rfl (fun _ => rfl) (fun K hK => ?_); have d1 : v 1 = .agg (prV t).toArray := hd 1 (by kernel_rfl); simp only [d1] at hK ⊢; go_simp; refine (KP.out _).mono ?_; rintro e w' ⟨rfl, hq⟩; exact hK _ w' (rfl) hq)
    focus (intro _ v wx hS hd; refine OpTo.does rfl ?_ rfl (Below.refl _ _); clear hd hS; go_simp; try with_reducible rfl)
    focus (intro _ v wx hS hd; exact OpTo.does rfl (exec_loadK (b := N) (k := 19) (x := 6) rfl (hd 3 (by kernel_rfl)) ((H0.out.2.1.call hS).load 19 (nuV t.f) (by rfl) Tryd.underlying27 rfl (by kernel_rfl))) rfl (Below.refl _ _))
    focus (intro _ v wx hS hd; refine OpTo.does rfl ?_ rfl (Below.refl _ _); clear hd hS; go_simp; try with_reducible rfl)
    focus (intro _ v wx hS hd; exact OpTo.does rfl (exec_loadK (b := N) (k := 23) (x := 8) rfl (hd 5 (by kernel_rfl)) ((H0.out.2.1.call hS).load 23 (nuV t.w) (by rfl) Tryd.underlying27 rfl (by kernel_rfl))) rfl (Below.refl _ _))
    focus (intro _ v wx hS hd; refine OpTo.does rfl ?_ rfl (Below.refl _ _); clear hd hS; go_simp; try with_reducible rfl)
    focus (intro _ v wx hS hd; exact OpTo.does rfl (exec_loadK (b := N) (k := 27) (x := 10) rfl (hd 7 (by kernel_rfl)) ((H0.out.2.1.call hS).load 27 (nuV t.c) (by rfl) Tryd.underlying27 rfl (by kernel_rfl))) rfl (Below.refl _ _))
    focus (intro _ v wx hS hd; refine OpTo.does rfl ?_ rfl (Below.refl _ _); clear hd hS; go_simp; try with_reducible rfl)
    focus (intro _ v wx hS hd; exact OpTo.does rfl (exec_loadK (b := N) (k := 31) (x := 12) rfl (hd 9 (by kernel_rfl)) ((H0.out.2.1.call hS).load 31 (nuV t.z) (by rfl) Tryd.underlying27 rfl (by kernel_rfl))) rfl (Below.refl _ _))
    focus (intro _ v wx hS hd; have d2 : v 2 = .agg (prV t).toArray := hd 2 (by kernel_rfl); have d4 : v 4 = .agg (nuV t.f).toArray := hd 4 (by kernel_rfl); have d6 : v 6 = .agg (nuV t.w).toArray := hd 6 (by kernel_rfl); have d8 : v 8 = .agg (nuV t.c).toArray := hd 8 (by kernel_rfl); have d10 : v 10 = .agg (nuV t.z).toArray := hd 10 (by kernel_rfl); refine OpTo.does rfl (exec_buildK (ty := 51) (parts := #[(0, .tmp 5), (1, .tmp 7), (2, .tmp 9), (3, .tmp 11), (4, .tmp 13)]) (ps := #[(0, .agg (prV t).toArray), (1, .agg (nuV t.f).toArray), (2, .agg (nuV t.w).toArray), (3, .agg (nuV t.c).toArray), (4, .agg (nuV t.z).toArray)]) rfl ?_ ?_) rfl (Below.refl _ _); (focus (simp only [List.map_toArray, List.map_cons, List.map_nil]; exact congrArg List.toArray (by simp only [d2, d4, d6, d8, d10]; rfl))); (focus (kernel_rfl)))
  intro v w1 hS hd
  have d11 : v 11 = .agg (tdV t).toArray := hd 11 (by decide)
  simp only [d11]
  obtain ⟨W2, hT, hb2, hB2⟩ := Bk.put (H0.out.2.2.call hS) (below_call0 H0.out.1 hS) (tdV t) (by kernel_rfl) rfl (by kernel_rfl)
  refine tail_at (o := ?ozg1_7) ?hizg1_7 ?hwzg1_7 ?_
  case hizg1_7 => rw [List.getElem?_toArray]; exact rfl
  case hwzg1_7 => exact rfl
  refine act_storeK (b := (N + 1)) (k := 0) (x := 2) (y := 14) rfl rfl rfl hT ?_
  try simp only [Act.put]
  refine tail_end ?_
  have H1 : Hid (Below w.heap.size w W2 ∧ Bk w.heap.size W2 (N + 1) (tdV t) 51) := ⟨hb2, hB2⟩
  clear hS hd hT hb2 hB2 d11 H0
  go_wp2_with fail
  have hld0 : (loadVar 51 ⟨(N + 1), 0, none⟩).run Tryd.prog W2 = .ok (.agg (tdV t).toArray) W2 := H1.out.2.load 0 (tdV t) (by rfl) Tryd.underlying51 rfl (by kernel_rfl)
  refine bodyPost_ret (v := .agg (tdV t).toArray) ?_ rfl ⟨rfl, H1.out.1⟩
  simp [results, Tryd.results13, asAddr, hld0]
end Go.Proofs.YtbpgiijdcagckaaDoor
