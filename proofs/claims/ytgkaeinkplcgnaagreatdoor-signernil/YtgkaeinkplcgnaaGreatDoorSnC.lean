/- Package signer: New of the law's one key; the law's small case; SignerNil's walk. -/
import Derived.Test.YtgkaeinkplcgnaaGreatDoorSnB
namespace Go.Proofs.YtgkaeinkplcgnaaGreatDoor
open Go Go.RowKit Go.Lib
theorem wpAnyH_two {P : Program} {ops : Array Oper} {Q : Exit → Act → World → Prop} {md : Region.Mode} {S : World → Prop} {i j : Nat} {o p : Oper} {fuel : Nat} {listed : Array Bool} {a : Act} {w : World} (hr : Region.ready md ops listed = [i, j]) (ho : ops[i]? = some o) (hp : ops[j]? = some p)
    (hw : Region.wanted o (yielded ops a.tmps) = true) (hv : Region.wanted p (yielded ops a.tmps) = true)
    (h : ∀ K : Act → World → Prop, (∀ a' w', S w' ∧ wpAnyH P md ops Q S fuel (listed.setIfInBounds i true) a' w' → K a' w') → Oper.wp P o a w K Q)
    (g : ∀ K : Act → World → Prop, (∀ a' w', S w' ∧ wpAnyH P md ops Q S fuel (listed.setIfInBounds j true) a' w' → K a' w') → Oper.wp P p a w K Q) : wpAnyH P md ops Q S (fuel + 1) listed a w := by
  refine wpAnyH_all hr (by simp) fun k hk => ?_
  have : k = i ∨ k = j := by simpa using hk
  rcases this with rfl | rfl
  · unfold wpOp
    simp only [ho, hw, if_true]
    exact .inl (h _ (fun _ _ x => x))
  · unfold wpOp
    simp only [hp, hv, if_true]
    exact .inl (g _ (fun _ _ x => x))
theorem cellA (W : World) (b j : Nat) (cs : Array Value) (t : TypeId) (h : b = W.heap.size) : (W.alloc (.cells cs t)).cell? ⟨b, j, none⟩ = cs[j]? := by subst h; exact World.cell?_alloc_new ..
/-- A signer of the law's one key that has issued nothing. -/
def SG (w : World) (s : Nat) : Prop := w.cell? ⟨s, 0, none⟩ = some (.int .i64 1) ∧ w.cell? ⟨s, 17, none⟩ = some (.int .i64 0) ∧ s < w.heap.size
theorem SG.call {w w' : World} {s : Nat} (h : SG w s) (hb : Below w.heap.size w w') : SG w' s := ⟨(hb.cell (p := ⟨s, 0, none⟩) h.2.2).trans h.1, (hb.cell (p := ⟨s, 17, none⟩) h.2.2).trans h.2.1, Nat.lt_of_lt_of_le h.2.2 hb.size⟩
theorem issued_0 (s : Nat) (w : World) (h : SG w s) : Calls Tryz.prog 7 #[.pointer (some ⟨s, 0, none⟩)] w fun e w' => e = .returned (.int .i64 0) ∧ w' = w := by
  obtain ⟨c0, c17, -⟩ := h
  have KN : Hid (Calls Tryz.prog 9 #[.pointer (some ⟨s, 0, none⟩)] w fun e w' => e = .returned (.bool false) ∧ w' = w) := by
    go_enter Tryz.func9, Tryz.ntmps9
    go_wp2_with fail
    go_ret
    exact ⟨rfl, rfl⟩
  go_enter Tryz.func7, Tryz.ntmps7
  go_wp2_with fail
  refine KN.out.mono ?_
  rintro e w1 ⟨rfl, rfl⟩
  go_wp2_with fail
  go_ret
  exact ⟨rfl, rfl⟩
set_option maxRecDepth 100000 in
set_option maxHeartbeats 4000000 in
theorem new_1 (b : Nat) (w : World) (hP : GlobP w) (hQ : GlobQ w) (hb : OwnC w b [.int .u64 6481385041966929816, .int .u64 188021827762530521, .int .u64 6170039885052185351, .int .u64 8772561819708210092, .int .u64 11261198710074299576, .int .u64 18237243440184513561, .int .u64 6747795201694173352, .int .u64 5204712524664259685, .bool false]) : Calls Tryz.prog 15 #[.agg #[.int .i64 1, .int .i64 0, .int .i64 1, .int .u64 1, .int .u64 0, .int .u64 0, .int .u64 0, .int .u64 6481385041966929816, .int .u64 188021827762530521, .int .u64 6170039885052185351, .int .u64 8772561819708210092, .int .u64 11261198710074299576, .int .u64 18237243440184513561, .int .u64 6747795201694173352, .int .u64 5204712524664259685, .bool false, .slice (some ⟨b, 0, none⟩) 1 1, .slice none 0 0], .string ⟨#[115]⟩, .int .i64 0] w fun e w' => ∃ s, e = .returned (.tuple #[.pointer (some ⟨s, 0, none⟩), .int .i64 0]) ∧ SG w' s ∧ Below w.heap.size w w' := by
  have KV : Hid _ := serves_1 b
  have KC : Hid (∀ w', Calls Tryz.prog 28 #[.string ⟨#[115]⟩] w' fun e w'' => e = .returned (.string ⟨#[115]⟩) ∧ Below w'.heap.size w' w'') := fun w' => clone_any ⟨#[115]⟩ w' (by decide)
  obtain ⟨v0, hv0⟩ : ∃ wq, wq = w.alloc (.cells #[.int .i64 1, .int .i64 0, .int .i64 1, .int .u64 1, .int .u64 0, .int .u64 0, .int .u64 0, .int .u64 6481385041966929816, .int .u64 188021827762530521, .int .u64 6170039885052185351, .int .u64 8772561819708210092, .int .u64 11261198710074299576, .int .u64 18237243440184513561, .int .u64 6747795201694173352, .int .u64 5204712524664259685, .bool false, .slice (some ⟨b, 0, none⟩) 1 1, .slice none 0 0] 55) := ⟨_, rfl⟩
  obtain ⟨k, hk⟩ : ∃ k, k = w.heap.size := ⟨_, rfl⟩
  have HW : Hid (v0 = w.alloc (.cells #[.int .i64 1, .int .i64 0, .int .i64 1, .int .u64 1, .int .u64 0, .int .u64 0, .int .u64 0, .int .u64 6481385041966929816, .int .u64 188021827762530521, .int .u64 6170039885052185351, .int .u64 8772561819708210092, .int .u64 11261198710074299576, .int .u64 18237243440184513561, .int .u64 6747795201694173352, .int .u64 5204712524664259685, .bool false, .slice (some ⟨b, 0, none⟩) 1 1, .slice none 0 0] 55) ∧ k = w.heap.size) := ⟨hv0, hk⟩
  have hbw : Below w.heap.size w v0 := by rw [hv0]; exact below_alloc0 (Below.refl _ _) _
  have V0 : Hid (GlobP v0 ∧ GlobQ v0 ∧ OwnC v0 b [.int .u64 6481385041966929816, .int .u64 188021827762530521, .int .u64 6170039885052185351, .int .u64 8772561819708210092, .int .u64 11261198710074299576, .int .u64 18237243440184513561, .int .u64 6747795201694173352, .int .u64 5204712524664259685, .bool false] ∧ Below w.heap.size w v0) := ⟨hP.call hbw, hQ.call hbw, hb.call hbw, hbw⟩
  have VK : Hid (KB v0 k b) := by
    rw [hk, hv0]
    exact ⟨OwnC.new' rfl, hb.call (below_alloc0 (Below.refl _ _) _)⟩
  clear hv0 hk hbw hP hQ hb
  go_enter Tryz.func15, Tryz.ntmps15
  go_upto_region 1 with fail
  rw [← HW.out.1, ← HW.out.2]
  clear HW
  obtain ⟨k0, k1, k2, k3, k4, k5, k6, k7, k8, k9, k10, k11, k12, k13, k14, k15, k16, k17, g0, g1, g2, g3, g4, g5, g6, g7, g8⟩ := VK.out.facts (Below.refl _ _)
  go_wp2_with fail
  refine (KV.out _ V0.out.1 V0.out.2.1 V0.out.2.2.1).mono ?_
  rintro e w0 ⟨rfl, hq⟩
  have H0 : Hid (GlobP w0 ∧ GlobQ w0 ∧ OwnC w0 b [.int .u64 6481385041966929816, .int .u64 188021827762530521, .int .u64 6170039885052185351, .int .u64 8772561819708210092, .int .u64 11261198710074299576, .int .u64 18237243440184513561, .int .u64 6747795201694173352, .int .u64 5204712524664259685, .bool false] ∧ Below w.heap.size w w0) := ⟨V0.out.1.call hq, V0.out.2.1.call hq, V0.out.2.2.1.call hq, V0.out.2.2.2.trans (hq.mono V0.out.2.2.2.size)⟩
  have HK : Hid (KB w0 k b) := VK.out.call hq
  clear hq k0 k1 k2 k3 k4 k5 k6 k7 k8 k9 k10 k11 k12 k13 k14 k15 k16 k17 g0 g1 g2 g3 g4 g5 g6 g7 g8
  go_upto_region 7 with fail
  refine wp_region_H (fun w' => Below w0.heap.size w0 w') 18 rfl (by kernel_rfl) ?_
  refine wpAnyH_take (i := 0) (oi := ?on1) (v := ?vn1) ?hin1 (by kernel_rfl) (by kernel_rfl) (by kernel_rfl) ?hQn1 ?hyn1 (Below.drew (Below.refl _ _)) ?moren1
  case hin1 => rw [List.getElem?_toArray]; exact rfl
  case hQn1 => exact fun _ _ _ h => h
  case hyn1 =>
    refine Or.inl ⟨by rfl, ?_⟩
    intro w' hSw
    obtain ⟨k0, k1, k2, k3, k4, k5, k6, k7, k8, k9, k10, k11, k12, k13, k14, k15, k16, k17, g0, g1, g2, g3, g4, g5, g6, g7, g8⟩ := HK.out.facts hSw
    clear hSw
    go_simp
    try with_reducible rfl
  simp only [Act.put, List.setIfInBounds_toArray, List.set_cons_zero, List.set_cons_succ]
  refine wpAnyH_take (i := 1) (oi := ?on2) (v := ?vn2) ?hin2 (by kernel_rfl) (by kernel_rfl) (by kernel_rfl) ?hQn2 ?hyn2 (Below.drew (Below.refl _ _)) ?moren2
  case hin2 => rw [List.getElem?_toArray]; exact rfl
  case hQn2 => exact fun _ _ _ h => h
  case hyn2 =>
    refine Or.inl ⟨by rfl, ?_⟩
    intro w' hSw
    obtain ⟨k0, k1, k2, k3, k4, k5, k6, k7, k8, k9, k10, k11, k12, k13, k14, k15, k16, k17, g0, g1, g2, g3, g4, g5, g6, g7, g8⟩ := HK.out.facts hSw
    clear hSw
    go_simp
    try with_reducible rfl
  simp only [Act.put, List.setIfInBounds_toArray, List.set_cons_zero, List.set_cons_succ]
  refine wpAnyH_take (i := 2) (oi := ?on3) (v := ?vn3) ?hin3 (by kernel_rfl) (by kernel_rfl) (by kernel_rfl) ?hQn3 ?hyn3 (Below.drew (Below.refl _ _)) ?moren3
  case hin3 => rw [List.getElem?_toArray]; exact rfl
  case hQn3 => exact fun _ _ _ h => h
  case hyn3 =>
    refine Or.inl ⟨by rfl, ?_⟩
    intro w' hSw
    obtain ⟨k0, k1, k2, k3, k4, k5, k6, k7, k8, k9, k10, k11, k12, k13, k14, k15, k16, k17, g0, g1, g2, g3, g4, g5, g6, g7, g8⟩ := HK.out.facts hSw
    clear hSw
    go_simp
    try with_reducible rfl
  simp only [Act.put, List.setIfInBounds_toArray, List.set_cons_zero, List.set_cons_succ]
  refine wpAnyH_take (i := 3) (oi := ?on4) (v := ?vn4) ?hin4 (by kernel_rfl) (by kernel_rfl) (by kernel_rfl) ?hQn4 ?hyn4 (Below.drew (Below.refl _ _)) ?moren4
  case hin4 => rw [List.getElem?_toArray]; exact rfl
  case hQn4 => exact fun _ _ _ h => h
  case hyn4 =>
    refine Or.inl ⟨by rfl, ?_⟩
    intro w' hSw
    obtain ⟨k0, k1, k2, k3, k4, k5, k6, k7, k8, k9, k10, k11, k12, k13, k14, k15, k16, k17, g0, g1, g2, g3, g4, g5, g6, g7, g8⟩ := HK.out.facts hSw
    clear hSw
    go_simp
    try with_reducible rfl
  simp only [Act.put, List.setIfInBounds_toArray, List.set_cons_zero, List.set_cons_succ]
  refine wpAnyH_take (i := 4) (oi := ?on5) (v := ?vn5) ?hin5 (by kernel_rfl) (by kernel_rfl) (by kernel_rfl) ?hQn5 ?hyn5 (Below.drew (Below.refl _ _)) ?moren5
  case hin5 => rw [List.getElem?_toArray]; exact rfl
  case hQn5 => exact fun _ _ _ h => h
  case hyn5 =>
    refine Or.inl ⟨by rfl, ?_⟩
    intro w' hSw
    obtain ⟨k0, k1, k2, k3, k4, k5, k6, k7, k8, k9, k10, k11, k12, k13, k14, k15, k16, k17, g0, g1, g2, g3, g4, g5, g6, g7, g8⟩ := HK.out.facts hSw
    clear hSw
    go_simp
    try with_reducible rfl
  simp only [Act.put, List.setIfInBounds_toArray, List.set_cons_zero, List.set_cons_succ]
  refine wpAnyH_take (i := 5) (oi := ?on6) (v := ?vn6) ?hin6 (by kernel_rfl) (by kernel_rfl) (by kernel_rfl) ?hQn6 ?hyn6 (Below.drew (Below.refl _ _)) ?moren6
  case hin6 => rw [List.getElem?_toArray]; exact rfl
  case hQn6 => exact fun _ _ _ h => h
  case hyn6 =>
    refine Or.inl ⟨by rfl, ?_⟩
    intro w' hSw
    obtain ⟨k0, k1, k2, k3, k4, k5, k6, k7, k8, k9, k10, k11, k12, k13, k14, k15, k16, k17, g0, g1, g2, g3, g4, g5, g6, g7, g8⟩ := HK.out.facts hSw
    clear hSw
    go_simp
    try with_reducible rfl
  simp only [Act.put, List.setIfInBounds_toArray, List.set_cons_zero, List.set_cons_succ]
  refine wpAnyH_take (i := 6) (oi := ?on7) (v := ?vn7) ?hin7 (by kernel_rfl) (by kernel_rfl) (by kernel_rfl) ?hQn7 ?hyn7 (Below.drew (Below.refl _ _)) ?moren7
  case hin7 => rw [List.getElem?_toArray]; exact rfl
  case hQn7 => exact fun _ _ _ h => h
  case hyn7 =>
    refine Or.inl ⟨by rfl, ?_⟩
    intro w' hSw
    obtain ⟨k0, k1, k2, k3, k4, k5, k6, k7, k8, k9, k10, k11, k12, k13, k14, k15, k16, k17, g0, g1, g2, g3, g4, g5, g6, g7, g8⟩ := HK.out.facts hSw
    clear hSw
    go_simp
    try with_reducible rfl
  simp only [Act.put, List.setIfInBounds_toArray, List.set_cons_zero, List.set_cons_succ]
  refine wpAnyH_take (i := 7) (oi := ?on8) (v := ?vn8) ?hin8 (by kernel_rfl) (by kernel_rfl) (by kernel_rfl) ?hQn8 ?hyn8 (Below.drew (Below.refl _ _)) ?moren8
  case hin8 => rw [List.getElem?_toArray]; exact rfl
  case hQn8 => exact fun _ _ _ h => h
  case hyn8 =>
    refine Or.inl ⟨by rfl, ?_⟩
    intro w' hSw
    obtain ⟨k0, k1, k2, k3, k4, k5, k6, k7, k8, k9, k10, k11, k12, k13, k14, k15, k16, k17, g0, g1, g2, g3, g4, g5, g6, g7, g8⟩ := HK.out.facts hSw
    clear hSw
    go_simp
    try with_reducible rfl
  simp only [Act.put, List.setIfInBounds_toArray, List.set_cons_zero, List.set_cons_succ]
  refine wpAnyH_take (i := 8) (oi := ?on9) (v := ?vn9) ?hin9 (by kernel_rfl) (by kernel_rfl) (by kernel_rfl) ?hQn9 ?hyn9 (Below.drew (Below.refl _ _)) ?moren9
  case hin9 => rw [List.getElem?_toArray]; exact rfl
  case hQn9 => exact fun _ _ _ h => h
  case hyn9 =>
    refine Or.inl ⟨by rfl, ?_⟩
    intro w' hSw
    obtain ⟨k0, k1, k2, k3, k4, k5, k6, k7, k8, k9, k10, k11, k12, k13, k14, k15, k16, k17, g0, g1, g2, g3, g4, g5, g6, g7, g8⟩ := HK.out.facts hSw
    clear hSw
    go_simp
    try with_reducible rfl
  simp only [Act.put, List.setIfInBounds_toArray, List.set_cons_zero, List.set_cons_succ]
  refine wpAnyH_take (i := 9) (oi := ?on10) (v := ?vn10) ?hin10 (by kernel_rfl) (by kernel_rfl) (by kernel_rfl) ?hQn10 ?hyn10 (Below.drew (Below.refl _ _)) ?moren10
  case hin10 => rw [List.getElem?_toArray]; exact rfl
  case hQn10 => exact fun _ _ _ h => h
  case hyn10 =>
    refine Or.inl ⟨by rfl, ?_⟩
    intro w' hSw
    obtain ⟨k0, k1, k2, k3, k4, k5, k6, k7, k8, k9, k10, k11, k12, k13, k14, k15, k16, k17, g0, g1, g2, g3, g4, g5, g6, g7, g8⟩ := HK.out.facts hSw
    clear hSw
    go_simp
    try with_reducible rfl
  simp only [Act.put, List.setIfInBounds_toArray, List.set_cons_zero, List.set_cons_succ]
  refine wpAnyH_take (i := 10) (oi := ?on11) (v := ?vn11) ?hin11 (by kernel_rfl) (by kernel_rfl) (by kernel_rfl) ?hQn11 ?hyn11 (Below.drew (Below.refl _ _)) ?moren11
  case hin11 => rw [List.getElem?_toArray]; exact rfl
  case hQn11 => exact fun _ _ _ h => h
  case hyn11 =>
    refine Or.inl ⟨by rfl, ?_⟩
    intro w' hSw
    obtain ⟨k0, k1, k2, k3, k4, k5, k6, k7, k8, k9, k10, k11, k12, k13, k14, k15, k16, k17, g0, g1, g2, g3, g4, g5, g6, g7, g8⟩ := HK.out.facts hSw
    clear hSw
    go_simp
    try with_reducible rfl
  simp only [Act.put, List.setIfInBounds_toArray, List.set_cons_zero, List.set_cons_succ]
  refine wpAnyH_take (i := 12) (oi := ?on12) (v := ?vn12) ?hin12 (by kernel_rfl) (by kernel_rfl) (by kernel_rfl) ?hQn12 ?hyn12 (Below.drew (Below.refl _ _)) ?moren12
  case hin12 => rw [List.getElem?_toArray]; exact rfl
  case hQn12 => exact fun _ _ _ h => h
  case hyn12 =>
    refine Or.inl ⟨by rfl, ?_⟩
    intro w' hSw
    obtain ⟨k0, k1, k2, k3, k4, k5, k6, k7, k8, k9, k10, k11, k12, k13, k14, k15, k16, k17, g0, g1, g2, g3, g4, g5, g6, g7, g8⟩ := HK.out.facts hSw
    clear hSw
    go_simp
    try with_reducible rfl
  simp only [Act.put, List.setIfInBounds_toArray, List.set_cons_zero, List.set_cons_succ]
  refine wpAnyH_two (i := 11) (j := 13) (o := ?on13) (p := ?pn13) (by kernel_rfl) ?hin13 ?hjn13 ?hwn13 ?hvn13 ?stn13 ?sun13
  case hin13 => rw [List.getElem?_toArray]; exact rfl
  case hjn13 => rw [List.getElem?_toArray]; exact rfl
  case hwn13 => exact rfl
  case hvn13 => exact rfl
  case stn13 =>
    intro K hK
    have HKn13a : Hid _ := hK
    clear hK
    go_simp
    refine (KC.out _).mono ?_
    rintro e wn_11 ⟨rfl, hq⟩
    have In_11 : Hid (Below w0.heap.size w0 wn_11) := below_call0 (Below.drew (Below.refl _ _)) hq
    clear hq
    go_wp2_with fail
    refine HKn13a.out _ _ ⟨In_11.out, ?_⟩
    clear HKn13a K
    try simp only [Act.put, List.setIfInBounds_toArray, List.set_cons_zero, List.set_cons_succ]
    refine wpAnyH_one (i := 13) (o := ?on14) (by kernel_rfl) ?hin14 ?hwn14 ?stn14
    case hin14 => rw [List.getElem?_toArray]; exact rfl
    case hwn14 => exact rfl
    intro K hK
    have HKn14 : Hid _ := hK
    clear hK
    go_simp
    refine HKn14.out _ _ ⟨(below_alloc0 In_11.out _), ?_⟩
    clear HKn14 K
    try simp only [Act.put, List.setIfInBounds_toArray, List.set_cons_zero, List.set_cons_succ]
    refine wpAnyH_take (i := 14) (oi := ?on15) (v := ?vn15) ?hin15 (by kernel_rfl) (by kernel_rfl) (by kernel_rfl) ?hQn15 ?hyn15 (below_alloc0 In_11.out _) ?moren15
    case hin15 => rw [List.getElem?_toArray]; exact rfl
    case hQn15 => exact fun _ _ _ h => h
    case hyn15 =>
      refine Or.inl ⟨by rfl, ?_⟩
      intro w' hSw
      obtain ⟨k0, k1, k2, k3, k4, k5, k6, k7, k8, k9, k10, k11, k12, k13, k14, k15, k16, k17, g0, g1, g2, g3, g4, g5, g6, g7, g8⟩ := HK.out.facts hSw
      clear hSw
      go_simp
      try with_reducible rfl
    simp only [Act.put, List.setIfInBounds_toArray, List.set_cons_zero, List.set_cons_succ]
    refine wpAnyH_one (i := 15) (o := ?on16) (by kernel_rfl) ?hin16 ?hwn16 ?stn16
    case hin16 => rw [List.getElem?_toArray]; exact rfl
    case hwn16 => exact rfl
    intro K hK
    have HKn16 : Hid _ := hK
    clear hK
    go_simp
    refine HKn16.out _ _ ⟨(below_alloc0 (below_alloc0 In_11.out _) _), ?_⟩
    clear HKn16 K
    try simp only [Act.put, List.setIfInBounds_toArray, List.set_cons_zero, List.set_cons_succ]
    refine wpAnyH_take (i := 16) (oi := ?on17) (v := ?vn17) ?hin17 (by kernel_rfl) (by kernel_rfl) (by kernel_rfl) ?hQn17 ?hyn17 (below_alloc0 (below_alloc0 In_11.out _) _) ?moren17
    case hin17 => rw [List.getElem?_toArray]; exact rfl
    case hQn17 => exact fun _ _ _ h => h
    case hyn17 =>
      refine Or.inl ⟨by rfl, ?_⟩
      intro w' hSw
      obtain ⟨k0, k1, k2, k3, k4, k5, k6, k7, k8, k9, k10, k11, k12, k13, k14, k15, k16, k17, g0, g1, g2, g3, g4, g5, g6, g7, g8⟩ := HK.out.facts hSw
      clear hSw
      go_simp
      try with_reducible rfl
    simp only [Act.put, List.setIfInBounds_toArray, List.set_cons_zero, List.set_cons_succ]
    refine wpAnyH_take (i := 17) (oi := ?on18) (v := ?vn18) ?hin18 (by kernel_rfl) (by kernel_rfl) (by kernel_rfl) ?hQn18 ?hyn18 (below_alloc0 (below_alloc0 In_11.out _) _) ?moren18
    case hin18 => rw [List.getElem?_toArray]; exact rfl
    case hQn18 => exact fun _ _ _ h => h
    case hyn18 =>
      refine Or.inl ⟨by rfl, ?_⟩
      intro w' hSw
      obtain ⟨k0, k1, k2, k3, k4, k5, k6, k7, k8, k9, k10, k11, k12, k13, k14, k15, k16, k17, g0, g1, g2, g3, g4, g5, g6, g7, g8⟩ := HK.out.facts hSw
      clear hSw
      go_simp
      try with_reducible rfl
    simp only [Act.put, List.setIfInBounds_toArray, List.set_cons_zero, List.set_cons_succ]
    refine wpAnyH_done (by kernel_rfl) ?_ _
    go_wp2_with fail
    go_ret2
    refine ⟨_, rfl, ⟨?_, ?_, ?_⟩, H0.out.2.2.2.trans ((show Below w0.heap.size w0 _ from (below_alloc0 (below_alloc0 In_11.out _) _)).mono H0.out.2.2.2.size)⟩
    · rw [cellA _ _ _ _ _ (by simp)]; rfl
    · rw [cellA _ _ _ _ _ (by simp)]; rfl
    · simp
  case sun13 =>
    intro K hK
    have HKn13b : Hid _ := hK
    clear hK
    go_simp
    refine HKn13b.out _ _ ⟨(below_alloc0 (Below.drew (Below.refl _ _)) _), ?_⟩
    clear HKn13b K
    try simp only [Act.put, List.setIfInBounds_toArray, List.set_cons_zero, List.set_cons_succ]
    refine wpAnyH_one (i := 11) (o := ?on19) (by kernel_rfl) ?hin19 ?hwn19 ?stn19
    case hin19 => rw [List.getElem?_toArray]; exact rfl
    case hwn19 => exact rfl
    intro K hK
    have HKn19 : Hid _ := hK
    clear hK
    go_simp
    refine (KC.out _).mono ?_
    rintro e wn_13_11 ⟨rfl, hq⟩
    have In_13_11 : Hid (Below w0.heap.size w0 wn_13_11) := below_call0 (below_alloc0 (Below.drew (Below.refl _ _)) _) hq
    clear hq
    go_wp2_with fail
    refine HKn19.out _ _ ⟨In_13_11.out, ?_⟩
    clear HKn19 K
    try simp only [Act.put, List.setIfInBounds_toArray, List.set_cons_zero, List.set_cons_succ]
    refine wpAnyH_take (i := 14) (oi := ?on20) (v := ?vn20) ?hin20 (by kernel_rfl) (by kernel_rfl) (by kernel_rfl) ?hQn20 ?hyn20 In_13_11.out ?moren20
    case hin20 => rw [List.getElem?_toArray]; exact rfl
    case hQn20 => exact fun _ _ _ h => h
    case hyn20 =>
      refine Or.inl ⟨by rfl, ?_⟩
      intro w' hSw
      obtain ⟨k0, k1, k2, k3, k4, k5, k6, k7, k8, k9, k10, k11, k12, k13, k14, k15, k16, k17, g0, g1, g2, g3, g4, g5, g6, g7, g8⟩ := HK.out.facts hSw
      clear hSw
      go_simp
      try with_reducible rfl
    simp only [Act.put, List.setIfInBounds_toArray, List.set_cons_zero, List.set_cons_succ]
    refine wpAnyH_one (i := 15) (o := ?on21) (by kernel_rfl) ?hin21 ?hwn21 ?stn21
    case hin21 => rw [List.getElem?_toArray]; exact rfl
    case hwn21 => exact rfl
    intro K hK
    have HKn21 : Hid _ := hK
    clear hK
    go_simp
    refine HKn21.out _ _ ⟨(below_alloc0 In_13_11.out _), ?_⟩
    clear HKn21 K
    try simp only [Act.put, List.setIfInBounds_toArray, List.set_cons_zero, List.set_cons_succ]
    refine wpAnyH_take (i := 16) (oi := ?on22) (v := ?vn22) ?hin22 (by kernel_rfl) (by kernel_rfl) (by kernel_rfl) ?hQn22 ?hyn22 (below_alloc0 In_13_11.out _) ?moren22
    case hin22 => rw [List.getElem?_toArray]; exact rfl
    case hQn22 => exact fun _ _ _ h => h
    case hyn22 =>
      refine Or.inl ⟨by rfl, ?_⟩
      intro w' hSw
      obtain ⟨k0, k1, k2, k3, k4, k5, k6, k7, k8, k9, k10, k11, k12, k13, k14, k15, k16, k17, g0, g1, g2, g3, g4, g5, g6, g7, g8⟩ := HK.out.facts hSw
      clear hSw
      go_simp
      try with_reducible rfl
    simp only [Act.put, List.setIfInBounds_toArray, List.set_cons_zero, List.set_cons_succ]
    refine wpAnyH_take (i := 17) (oi := ?on23) (v := ?vn23) ?hin23 (by kernel_rfl) (by kernel_rfl) (by kernel_rfl) ?hQn23 ?hyn23 (below_alloc0 In_13_11.out _) ?moren23
    case hin23 => rw [List.getElem?_toArray]; exact rfl
    case hQn23 => exact fun _ _ _ h => h
    case hyn23 =>
      refine Or.inl ⟨by rfl, ?_⟩
      intro w' hSw
      obtain ⟨k0, k1, k2, k3, k4, k5, k6, k7, k8, k9, k10, k11, k12, k13, k14, k15, k16, k17, g0, g1, g2, g3, g4, g5, g6, g7, g8⟩ := HK.out.facts hSw
      clear hSw
      go_simp
      try with_reducible rfl
    simp only [Act.put, List.setIfInBounds_toArray, List.set_cons_zero, List.set_cons_succ]
    refine wpAnyH_done (by kernel_rfl) ?_ _
    go_wp2_with fail
    go_ret2
    refine ⟨_, rfl, ⟨?_, ?_, ?_⟩, H0.out.2.2.2.trans ((show Below w0.heap.size w0 _ from (below_alloc0 In_13_11.out _)).mono H0.out.2.2.2.size)⟩
    · rw [cellA _ _ _ _ _ (by simp)]; rfl
    · rw [cellA _ _ _ _ _ (by simp)]; rfl
    · simp
end Go.Proofs.YtgkaeinkplcgnaaGreatDoor
