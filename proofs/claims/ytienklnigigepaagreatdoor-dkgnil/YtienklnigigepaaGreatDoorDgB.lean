/- Package dkg: New of the law's one table; starts. -/
import Derived.Test.YtienklnigigepaaGreatDoorDgA
namespace Go.Proofs.YtienklnigigepaaGreatDoor
open Go Go.RowKit Go.Lib
theorem wpAnyH_two {P : Program} {ops : Array Oper} {Q : Exit → Act → World → Prop} {md : Region.Mode} {S : World → Prop} {i j : Nat} {o p : Oper} {fuel : Nat} {listed : Array Bool} {a : Act} {w : World} (hr : Region.ready md ops listed = [i, j]) (ho : ops[i]? = some o) (hp : ops[j]? = some p)
    (hw : Region.wanted o (yielded ops a.tmps) = true) (hv : Region.wanted p (yielded ops a.tmps) = true)
    (h : ∀ K : Act → World → Prop, (∀ a' w', S w' ∧ wpAnyH P md ops Q S fuel (listed.setIfInBounds i true) a' w' → K a' w') → Oper.wp P o a w K Q)
    (g : ∀ K : Act → World → Prop, (∀ a' w', S w' ∧ wpAnyH P md ops Q S fuel (listed.setIfInBounds j true) a' w' → K a' w') → Oper.wp P p a w K Q) : wpAnyH P md ops Q S (fuel + 1) listed a w := by
  refine wpAnyH_all hr (by simp) fun k hk => ?_
  have : k = i ∨ k = j := by simpa using hk
  rcases this with rfl | rfl
  · unfold wpOp
    simp only [ho, hw, if_true]
    exact .inl (h _ (fun _ _ x => x))
  · unfold wpOp
    simp only [hp, hv, if_true]
    exact .inl (g _ (fun _ _ x => x))
theorem cellA (W : World) (b j : Nat) (cs : Array Value) (t : TypeId) (h : b = W.heap.size) : (W.alloc (.cells cs t)).cell? ⟨b, j, none⟩ = cs[j]? := by subst h; exact World.cell?_alloc_new ..
theorem table_4 (w : World) : Calls Tryz.prog 36 #[.int .i64 4, .int .i64 1] w fun e w' => e = .returned (.bool true) ∧ w' = w := by
  go_enter Tryz.func36, Tryz.ntmps36
  go_wp2_with fail
  go_ret
  exact ⟨rfl, rfl⟩
/-- A node of four that went through no round. -/
def ND (w : World) (s : Nat) : Prop := w.cell? ⟨s, 0, none⟩ = some (.int .i64 4) ∧ w.cell? ⟨s, 1, none⟩ = some (.int .i64 1) ∧ w.cell? ⟨s, 3, none⟩ = some (.int .i64 0) ∧ s < w.heap.size
theorem isNone4 (s : Nat) (w : World) (h : ND w s) : Calls Tryz.prog 10 #[.pointer (some ⟨s, 0, none⟩)] w fun e w' => e = .returned (.bool false) ∧ w' = w := by
  obtain ⟨c0, c1, c3, -⟩ := h
  go_enter Tryz.func10, Tryz.ntmps10
  go_wp2_with fail
  go_ret
  exact ⟨rfl, rfl⟩
theorem round4 (s : Nat) (w : World) (h : ND w s) : Calls Tryz.prog 7 #[.pointer (some ⟨s, 0, none⟩)] w fun e w' => e = .returned (.int .i64 0) ∧ w' = w := by
  have KN : Hid _ := isNone4 s w h
  obtain ⟨c0, c1, c3, -⟩ := h
  go_enter Tryz.func7, Tryz.ntmps7
  go_wp2_with fail
  refine Calls.mono KN.out ?_
  rintro e w1 ⟨rfl, rfl⟩
  go_wp2_with fail
  go_ret
  exact ⟨rfl, rfl⟩
theorem rounds4 (s : Nat) (w : World) (h : ND w s) : Calls Tryz.prog 8 #[.pointer (some ⟨s, 0, none⟩)] w fun e w' => e = .returned (.int .i64 12) ∧ w' = w := by
  have KN : Hid _ := isNone4 s w h
  obtain ⟨c0, c1, c3, -⟩ := h
  go_enter Tryz.func8, Tryz.ntmps8
  go_wp2_with fail
  refine Calls.mono KN.out ?_
  rintro e w1 ⟨rfl, rfl⟩
  go_wp2_with fail
  go_ret
  exact ⟨rfl, rfl⟩
theorem infoDl : ∃ i z n, Tryz.prog.info? 72 = some i ∧ i.zero = some z ∧ i.size = n ∧ i.bytes * 4 ≤ 1000000 := by
  have h : (Tryz.prog.info? 72).map (fun i => (i.zero.isSome && decide (i.bytes * 4 ≤ 1000000))) = some true := by kernel_rfl
  cases e : Tryz.prog.info? 72 with
  | none => rw [e] at h; cases h
  | some i =>
    rw [e] at h
    simp only [Option.map_some, Option.some.injEq, Bool.and_eq_true, decide_eq_true_eq] at h
    obtain ⟨z, hz⟩ := Option.isSome_iff_exists.1 h.1
    exact ⟨i, z, i.size, rfl, hz, rfl, h.2⟩
theorem make_dl : ∃ c : Array Value, ∀ w, (Instr.makeSlice 42 (.int .i64 4) (.int .i64 4)).run Tryz.prog w = .ok (.slice (some ⟨w.heap.size, 0, none⟩) 4 4) (w.alloc (.cells c 72)) := by
  obtain ⟨i, z, n, hi, hz, hn, hb⟩ := infoDl
  have h := fun w => run_make (P := Tryz.prog) w 42 72 i z Tryz.underlying42 hi hz .i64 .i64 4 4 (by decide) (Int.le_refl _) (by omega) (by decide)
  exact ⟨_, h⟩
set_option maxRecDepth 100000 in
set_option maxHeartbeats 4000000 in
theorem new_4 (w0 : World) (hG : GlobD w0) (hz : 5 < w0.heap.size) (hQ : GlobQ w0) : Calls Tryz.prog 18 #[.int .i64 4, .int .i64 1, .int .i64 2, .string ⟨#[115]⟩] w0 fun e w' => ∃ s, e = .returned (.tuple #[.pointer (some ⟨s, 0, none⟩), .int .i64 0]) ∧ ND w' s ∧ Below w0.heap.size w0 w' := by
  have KT : Hid _ := table_4
  have KP : Hid (∀ w', Below w0.heap.size w0 w' → Calls Tryz.prog 37 #[.string ⟨#[115]⟩, .int .i64 2] w' fun e w'' => e = .returned (.slice (some ⟨w'.heap.size, 0, none⟩) 2 2) ∧ Below w'.heap.size w' w'') := fun w' hb => poly_2 w' (hG.call hb) (Nat.lt_of_lt_of_le hz hb.size) (hQ.call hb)
  obtain ⟨cd, hcd⟩ := make_dl
  have HM : Hid (∀ w, (Instr.makeSlice 42 (.int .i64 4) (.int .i64 4)).run Tryz.prog w = .ok (.slice (some ⟨w.heap.size, 0, none⟩) 4 4) (w.alloc (.cells cd 72))) := hcd
  clear hcd hG hz hQ
  go_enter Tryz.func18, Tryz.ntmps18
  go_wp2_with fail
  refine (KT.out _).mono ?_
  rintro e w1 ⟨rfl, rfl⟩
  go_upto_region 5 with fail
  refine wp_region_H (fun w' => Below w1.heap.size w1 w') 13 rfl (by kernel_rfl) ?_
  refine wpAnyH_take (i := 0) (oi := ?on1) (v := ?vn1) ?hin1 (by kernel_rfl) (by kernel_rfl) (by kernel_rfl) ?hQn1 ?hyn1 (Below.drew (Below.refl _ _)) ?moren1
  case hin1 => rw [List.getElem?_toArray]; exact rfl
  case hQn1 => exact fun _ _ _ h => h
  case hyn1 =>
    refine Or.inl ⟨by rfl, ?_⟩
    intro w' hSw
    clear hSw
    go_simp
    try with_reducible rfl
  simp only [Act.put, List.setIfInBounds_toArray, List.set_cons_zero, List.set_cons_succ]
  refine wpAnyH_take (i := 1) (oi := ?on2) (v := ?vn2) ?hin2 (by kernel_rfl) (by kernel_rfl) (by kernel_rfl) ?hQn2 ?hyn2 (Below.drew (Below.refl _ _)) ?moren2
  case hin2 => rw [List.getElem?_toArray]; exact rfl
  case hQn2 => exact fun _ _ _ h => h
  case hyn2 =>
    refine Or.inl ⟨by rfl, ?_⟩
    intro w' hSw
    clear hSw
    go_simp
    try with_reducible rfl
  simp only [Act.put, List.setIfInBounds_toArray, List.set_cons_zero, List.set_cons_succ]
  refine wpAnyH_take (i := 2) (oi := ?on3) (v := ?vn3) ?hin3 (by kernel_rfl) (by kernel_rfl) (by kernel_rfl) ?hQn3 ?hyn3 (Below.drew (Below.refl _ _)) ?moren3
  case hin3 => rw [List.getElem?_toArray]; exact rfl
  case hQn3 => exact fun _ _ _ h => h
  case hyn3 =>
    refine Or.inl ⟨by rfl, ?_⟩
    intro w' hSw
    clear hSw
    go_simp
    try with_reducible rfl
  simp only [Act.put, List.setIfInBounds_toArray, List.set_cons_zero, List.set_cons_succ]
  refine wpAnyH_take (i := 3) (oi := ?on4) (v := ?vn4) ?hin4 (by kernel_rfl) (by kernel_rfl) (by kernel_rfl) ?hQn4 ?hyn4 (Below.drew (Below.refl _ _)) ?moren4
  case hin4 => rw [List.getElem?_toArray]; exact rfl
  case hQn4 => exact fun _ _ _ h => h
  case hyn4 =>
    refine Or.inl ⟨by rfl, ?_⟩
    intro w' hSw
    clear hSw
    go_simp
    try with_reducible rfl
  simp only [Act.put, List.setIfInBounds_toArray, List.set_cons_zero, List.set_cons_succ]
  refine wpAnyH_take (i := 4) (oi := ?on5) (v := ?vn5) ?hin5 (by kernel_rfl) (by kernel_rfl) (by kernel_rfl) ?hQn5 ?hyn5 (Below.drew (Below.refl _ _)) ?moren5
  case hin5 => rw [List.getElem?_toArray]; exact rfl
  case hQn5 => exact fun _ _ _ h => h
  case hyn5 =>
    refine Or.inl ⟨by rfl, ?_⟩
    intro w' hSw
    clear hSw
    go_simp
    try with_reducible rfl
  simp only [Act.put, List.setIfInBounds_toArray, List.set_cons_zero, List.set_cons_succ]
  refine wpAnyH_take (i := 5) (oi := ?on6) (v := ?vn6) ?hin6 (by kernel_rfl) (by kernel_rfl) (by kernel_rfl) ?hQn6 ?hyn6 (Below.drew (Below.refl _ _)) ?moren6
  case hin6 => rw [List.getElem?_toArray]; exact rfl
  case hQn6 => exact fun _ _ _ h => h
  case hyn6 =>
    refine Or.inl ⟨by rfl, ?_⟩
    intro w' hSw
    clear hSw
    go_simp
    try with_reducible rfl
  simp only [Act.put, List.setIfInBounds_toArray, List.set_cons_zero, List.set_cons_succ]
  refine wpAnyH_take (i := 7) (oi := ?on7) (v := ?vn7) ?hin7 (by kernel_rfl) (by kernel_rfl) (by kernel_rfl) ?hQn7 ?hyn7 (Below.drew (Below.refl _ _)) ?moren7
  case hin7 => rw [List.getElem?_toArray]; exact rfl
  case hQn7 => exact fun _ _ _ h => h
  case hyn7 =>
    refine Or.inl ⟨by rfl, ?_⟩
    intro w' hSw
    clear hSw
    go_simp
    try with_reducible rfl
  simp only [Act.put, List.setIfInBounds_toArray, List.set_cons_zero, List.set_cons_succ]
  refine wpAnyH_two (i := 6) (j := 8) (o := ?on8) (p := ?pn8) (by kernel_rfl) ?hin8 ?hjn8 ?hwn8 ?hvn8 ?stn8 ?sun8
  case hin8 => rw [List.getElem?_toArray]; exact rfl
  case hjn8 => rw [List.getElem?_toArray]; exact rfl
  case hwn8 => exact rfl
  case hvn8 => exact rfl
  case stn8 =>
    intro K hK
    have HKn8a : Hid _ := hK
    clear hK
    go_simp
    refine (KP.out _ (Below.drew (Below.refl _ _))).mono ?_
    rintro e wn_6 ⟨rfl, hq⟩
    have In_6 : Hid (Below w1.heap.size w1 wn_6) := below_call0 (Below.drew (Below.refl _ _)) hq
    clear hq
    go_wp2_with fail
    refine HKn8a.out _ _ ⟨In_6.out, ?_⟩
    clear HKn8a K
    try simp only [Act.put, List.setIfInBounds_toArray, List.set_cons_zero, List.set_cons_succ]
    refine wpAnyH_one (i := 8) (o := ?on9) (by kernel_rfl) ?hin9 ?hwn9 ?stn9
    case hin9 => rw [List.getElem?_toArray]; exact rfl
    case hwn9 => exact rfl
    intro K hK
    have HKn9 : Hid _ := hK
    clear hK
    go_simp
    refine owp_makeX (.int .i64 4) (.tmp 33) rfl rfl (HM.out _) ?_
    refine HKn9.out _ _ ⟨(below_alloc0 In_6.out _), ?_⟩
    clear HKn9 K
    try simp only [Act.put, List.setIfInBounds_toArray, List.set_cons_zero, List.set_cons_succ]
    refine wpAnyH_take (i := 9) (oi := ?on10) (v := ?vn10) ?hin10 (by kernel_rfl) (by kernel_rfl) (by kernel_rfl) ?hQn10 ?hyn10 (below_alloc0 In_6.out _) ?moren10
    case hin10 => rw [List.getElem?_toArray]; exact rfl
    case hQn10 => exact fun _ _ _ h => h
    case hyn10 =>
      refine Or.inl ⟨by rfl, ?_⟩
      intro w' hSw
      clear hSw
      go_simp
      try with_reducible rfl
    simp only [Act.put, List.setIfInBounds_toArray, List.set_cons_zero, List.set_cons_succ]
    refine wpAnyH_one (i := 10) (o := ?on11) (by kernel_rfl) ?hin11 ?hwn11 ?stn11
    case hin11 => rw [List.getElem?_toArray]; exact rfl
    case hwn11 => exact rfl
    intro K hK
    have HKn11 : Hid _ := hK
    clear hK
    go_simp
    refine HKn11.out _ _ ⟨(below_alloc0 (below_alloc0 In_6.out _) _), ?_⟩
    clear HKn11 K
    try simp only [Act.put, List.setIfInBounds_toArray, List.set_cons_zero, List.set_cons_succ]
    refine wpAnyH_take (i := 11) (oi := ?on12) (v := ?vn12) ?hin12 (by kernel_rfl) (by kernel_rfl) (by kernel_rfl) ?hQn12 ?hyn12 (below_alloc0 (below_alloc0 In_6.out _) _) ?moren12
    case hin12 => rw [List.getElem?_toArray]; exact rfl
    case hQn12 => exact fun _ _ _ h => h
    case hyn12 =>
      refine Or.inl ⟨by rfl, ?_⟩
      intro w' hSw
      clear hSw
      go_simp
      try with_reducible rfl
    simp only [Act.put, List.setIfInBounds_toArray, List.set_cons_zero, List.set_cons_succ]
    refine wpAnyH_take (i := 12) (oi := ?on13) (v := ?vn13) ?hin13 (by kernel_rfl) (by kernel_rfl) (by kernel_rfl) ?hQn13 ?hyn13 (below_alloc0 (below_alloc0 In_6.out _) _) ?moren13
    case hin13 => rw [List.getElem?_toArray]; exact rfl
    case hQn13 => exact fun _ _ _ h => h
    case hyn13 =>
      refine Or.inl ⟨by rfl, ?_⟩
      intro w' hSw
      clear hSw
      go_simp
      try with_reducible rfl
    simp only [Act.put, List.setIfInBounds_toArray, List.set_cons_zero, List.set_cons_succ]
    refine wpAnyH_done (by kernel_rfl) ?_ _
    go_wp2_with fail
    go_ret2
    refine ⟨_, rfl, ⟨?_, ?_, ?_, ?_⟩, (show Below w1.heap.size w1 _ from (below_alloc0 (below_alloc0 In_6.out _) _))⟩
    · rw [cellA _ _ _ _ _ (by simp)]; rfl
    · rw [cellA _ _ _ _ _ (by simp)]; rfl
    · rw [cellA _ _ _ _ _ (by simp)]; rfl
    · simp
  case sun8 =>
    intro K hK
    have HKn8b : Hid _ := hK
    clear hK
    go_simp
    refine owp_makeX (.int .i64 4) (.tmp 33) rfl rfl (HM.out _) ?_
    refine HKn8b.out _ _ ⟨(below_alloc0 (Below.drew (Below.refl _ _)) _), ?_⟩
    clear HKn8b K
    try simp only [Act.put, List.setIfInBounds_toArray, List.set_cons_zero, List.set_cons_succ]
    refine wpAnyH_one (i := 6) (o := ?on14) (by kernel_rfl) ?hin14 ?hwn14 ?stn14
    case hin14 => rw [List.getElem?_toArray]; exact rfl
    case hwn14 => exact rfl
    intro K hK
    have HKn14 : Hid _ := hK
    clear hK
    go_simp
    refine (KP.out _ (below_alloc0 (Below.drew (Below.refl _ _)) _)).mono ?_
    rintro e wn_8_6 ⟨rfl, hq⟩
    have In_8_6 : Hid (Below w1.heap.size w1 wn_8_6) := below_call0 (below_alloc0 (Below.drew (Below.refl _ _)) _) hq
    clear hq
    go_wp2_with fail
    refine HKn14.out _ _ ⟨In_8_6.out, ?_⟩
    clear HKn14 K
    try simp only [Act.put, List.setIfInBounds_toArray, List.set_cons_zero, List.set_cons_succ]
    refine wpAnyH_take (i := 9) (oi := ?on15) (v := ?vn15) ?hin15 (by kernel_rfl) (by kernel_rfl) (by kernel_rfl) ?hQn15 ?hyn15 In_8_6.out ?moren15
    case hin15 => rw [List.getElem?_toArray]; exact rfl
    case hQn15 => exact fun _ _ _ h => h
    case hyn15 =>
      refine Or.inl ⟨by rfl, ?_⟩
      intro w' hSw
      clear hSw
      go_simp
      try with_reducible rfl
    simp only [Act.put, List.setIfInBounds_toArray, List.set_cons_zero, List.set_cons_succ]
    refine wpAnyH_one (i := 10) (o := ?on16) (by kernel_rfl) ?hin16 ?hwn16 ?stn16
    case hin16 => rw [List.getElem?_toArray]; exact rfl
    case hwn16 => exact rfl
    intro K hK
    have HKn16 : Hid _ := hK
    clear hK
    go_simp
    refine HKn16.out _ _ ⟨(below_alloc0 In_8_6.out _), ?_⟩
    clear HKn16 K
    try simp only [Act.put, List.setIfInBounds_toArray, List.set_cons_zero, List.set_cons_succ]
    refine wpAnyH_take (i := 11) (oi := ?on17) (v := ?vn17) ?hin17 (by kernel_rfl) (by kernel_rfl) (by kernel_rfl) ?hQn17 ?hyn17 (below_alloc0 In_8_6.out _) ?moren17
    case hin17 => rw [List.getElem?_toArray]; exact rfl
    case hQn17 => exact fun _ _ _ h => h
    case hyn17 =>
      refine Or.inl ⟨by rfl, ?_⟩
      intro w' hSw
      clear hSw
      go_simp
      try with_reducible rfl
    simp only [Act.put, List.setIfInBounds_toArray, List.set_cons_zero, List.set_cons_succ]
    refine wpAnyH_take (i := 12) (oi := ?on18) (v := ?vn18) ?hin18 (by kernel_rfl) (by kernel_rfl) (by kernel_rfl) ?hQn18 ?hyn18 (below_alloc0 In_8_6.out _) ?moren18
    case hin18 => rw [List.getElem?_toArray]; exact rfl
    case hQn18 => exact fun _ _ _ h => h
    case hyn18 =>
      refine Or.inl ⟨by rfl, ?_⟩
      intro w' hSw
      clear hSw
      go_simp
      try with_reducible rfl
    simp only [Act.put, List.setIfInBounds_toArray, List.set_cons_zero, List.set_cons_succ]
    refine wpAnyH_done (by kernel_rfl) ?_ _
    go_wp2_with fail
    go_ret2
    refine ⟨_, rfl, ⟨?_, ?_, ?_, ?_⟩, (show Below w1.heap.size w1 _ from (below_alloc0 In_8_6.out _))⟩
    · rw [cellA _ _ _ _ _ (by simp)]; rfl
    · rw [cellA _ _ _ _ _ (by simp)]; rfl
    · rw [cellA _ _ _ _ _ (by simp)]; rfl
    · simp
set_option maxRecDepth 100000 in
set_option maxHeartbeats 4000000 in
theorem starts_any (w : World) (hG : GlobD w) (hz : 5 < w.heap.size) (hQ : GlobQ w) : Calls Tryz.prog 9 #[] w fun e w' => e = .returned (.bool true) ∧ Below w.heap.size w w' := by
  have KN : Hid _ := new_4 w hG hz hQ
  have K1 : Hid _ := rounds4
  have K2 : Hid _ := round4
  clear hG hz hQ
  go_enter Tryz.func9, Tryz.ntmps9
  go_wp2_with fail
  refine Calls.mono KN.out ?_
  rintro e w1 ⟨s, rfl, hS, hb1⟩
  have H1 : Hid (ND w1 s ∧ Below w.heap.size w w1) := ⟨hS, hb1⟩
  clear hS hb1
  go_wp2_with fail
  refine (K1.out s w1 H1.out.1).mono ?_
  rintro e w2 ⟨rfl, rfl⟩
  go_wp2_with fail
  refine (K2.out s _ H1.out.1).mono ?_
  rintro e w3 ⟨rfl, rfl⟩
  go_wp2_with fail
  go_ret
  exact ⟨rfl, H1.out.2⟩
end Go.Proofs.YtienklnigigepaaGreatDoor
