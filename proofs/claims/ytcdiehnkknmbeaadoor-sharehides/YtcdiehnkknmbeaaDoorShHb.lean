/- The law ShareHides. -/
import Derived.Test.YtcdiehnkknmbeaaDoorShHa
namespace Go.Proofs.YtcdiehnkknmbeaaDoor
open Go Go.RowKit Go.Lib
attribute [local go_sem] run_eq4

theorem IntsAt.one' {W : World} {b : Nat} {z : Int} {t : TypeId} (h : b = W.heap.size) : IntsAt (W.alloc (.cells #[.int .i64 z] t)) (some ⟨b, 0, none⟩) [z] := by
  subst h
  intro j n hj
  match j, hj with
  | 0, hj => simp at hj; subst hj; exact ⟨W.heap.size, 0, rfl, by simp [go_sem], by simp⟩
  | j + 1, hj => simp at hj
theorem nodes_more {l : List Int} {y : Nat} (h : NodesP l) (h1 : 1 ≤ y) (h2 : y ≤ 10) (h3 : (y : Int) ∉ l) : NodesP (l ++ [(y : Int)]) := by
  refine ⟨fun z hz => ?_, ?_⟩
  · rcases List.mem_append.1 hz with c | c
    · exact h.1 z c
    · rw [List.mem_singleton.1 c]; omega
  · rw [List.nodup_append]
    refine ⟨h.2, by simp, fun a ha b hb => ?_⟩
    rw [List.mem_singleton.1 hb]
    exact fun c => h3 (c ▸ ha)
set_option maxRecDepth 100000 in
set_option maxHeartbeats 32000000 in
theorem sh_bad (a b : Option Addr) (l : List Int) (cs : List Nat) (c d x : Nat) (hc : cs.length ≤ 4398046511104) (hR : ∀ n ∈ cs, n < R256) (hl : l.length ≤ 17592186044416) (hxR : x < R256) (hb : nodesOk l = false) (w : World) (hG : GlobQ w) (hS : Nums w a cs) (hN : IntsAt w b l) :
    Calls Tryd.prog 8 #[.slice b l.length d, .slice a cs.length c, .agg #[.int .u64 (limb (x) 0 : Nat), .int .u64 (limb (x) 1 : Nat), .int .u64 (limb (x) 2 : Nat), .int .u64 (limb (x) 3 : Nat)]] w fun e w' => e = .returned (.bool true) ∧ Below w.heap.size w w' := by
  obtain ⟨q, hq⟩ : ∃ q, q = QQ := ⟨_, rfl⟩
  obtain ⟨m, hm⟩ : ∃ m, m = cs.length := ⟨_, rfl⟩
  obtain ⟨n, hn⟩ : ∃ n, n = l.length := ⟨_, rfl⟩
  obtain ⟨t, ht⟩ : ∃ t, t = x % QQ := ⟨_, rfl⟩
  have K1 : Hid (∀ w, Nums w a cs → Calls Tryd.prog 24 #[.slice a m c] w fun e w' => ∃ a' n' cap', e = .returned (.slice a' n' cap') ∧ n' = (rtL cs).length ∧ RowN w' w.heap.size a' (rtL cs) cap' ∧ Below w.heap.size w w') := fun w h => by rw [hm]; exact right_any a cs c hc hR w h
  have KS : Hid (∀ w, Calls Tryd.prog 25 #[] w fun e w' => e = .returned (.agg #[.int .u64 (limb (q) 0 : Nat), .int .u64 (limb (q) 1 : Nat), .int .u64 (limb (q) 2 : Nat), .int .u64 (limb (q) 3 : Nat), .int .u64 (limb (R256 - (q)) 0 : Nat), .int .u64 (limb (R256 - (q)) 1 : Nat), .int .u64 (limb (R256 - (q)) 2 : Nat), .int .u64 (limb (R256 - (q)) 3 : Nat)]) ∧ Below w.heap.size w w') := fun w => by rw [hq]; exact scalars2_any w
  have KD : Hid (∀ w, Calls Tryd.prog 26 #[.agg #[.int .u64 (limb (q) 0 : Nat), .int .u64 (limb (q) 1 : Nat), .int .u64 (limb (q) 2 : Nat), .int .u64 (limb (q) 3 : Nat), .int .u64 (limb (R256 - (q)) 0 : Nat), .int .u64 (limb (R256 - (q)) 1 : Nat), .int .u64 (limb (R256 - (q)) 2 : Nat), .int .u64 (limb (R256 - (q)) 3 : Nat)], .agg #[.int .u64 (limb x 0 : Nat), .int .u64 (limb x 1 : Nat), .int .u64 (limb x 2 : Nat), .int .u64 (limb x 3 : Nat), .int .u64 0, .int .u64 0, .int .u64 0, .int .u64 0]] w fun e w' => e = .returned (.agg #[.int .u64 (limb (t) 0 : Nat), .int .u64 (limb (t) 1 : Nat), .int .u64 (limb (t) 2 : Nat), .int .u64 (limb (t) 3 : Nat)]) ∧ Below w.heap.size w w') := fun w => by rw [hq, ht]; exact reduce4 x hxR w
  have KA : Hid (∀ w, IntsAt w b l → Calls Tryd.prog 27 #[.slice b n d] w fun e w' => e = .returned (.bool (nodesOk l)) ∧ Below w.heap.size w w') := fun w h => by rw [hn]; exact among_any b l d hl w h
  have KL : Hid (∀ w, GlobQ w → Calls Tryd.prog 13 #[] w fun e w' => e = .returned (.bool true) ∧ Below w.heap.size w w') := fun w h => line_any w h
  have H0 : Hid (GlobQ w ∧ Nums w a cs ∧ IntsAt w b l ∧ n = l.length ∧ t < QQ ∧ q = QQ) := ⟨hG, hS, hN, hn, by rw [ht]; exact Nat.mod_lt _ QQ_pos, hq⟩
  have HB : Hid (Below w.heap.size w (w.alloc (.cells #[.int .u64 (limb x 0 : Nat), .int .u64 (limb x 1 : Nat), .int .u64 (limb x 2 : Nat), .int .u64 (limb x 3 : Nat)] 25)) ∧ Own4 (w.alloc (.cells #[.int .u64 (limb x 0 : Nat), .int .u64 (limb x 1 : Nat), .int .u64 (limb x 2 : Nat), .int .u64 (limb x 3 : Nat)] 25)) w.heap.size x) := ⟨below_alloc0 (Below.refl _ _) _, Own4.new _ _ _⟩
  have n43 : (n : Int) ≤ 17592186044416 := by omega
  have HI : Hid (nodesOk l = false) := hb
  clear hb
  rw [← hm, ← hn]
  clear hc hR hxR hG hS hN hq hm ht hn hl
  go_enter Tryd.func8, Tryd.ntmps8
  go_wp2_with fail
  refine (K1.out _ (H0.out.2.1.call HB.out.1)).mono ?_
  rintro e w1 ⟨pa, P, pc, rfl, hP, hRow, hb1⟩
  have H1 : Hid (Below w.heap.size w w1 ∧ Own4 w1 w.heap.size x ∧ Nums w1 pa (rtL cs) ∧ P = (rtL cs).length) := ⟨below_call0 HB.out.1 hb1, HB.out.2.call hb1, hRow.nums, hP⟩
  clear hb1 hRow hP HB K1
  go_wp2_with fail
  refine wp_region_N (fun w' => Below w1.heap.size w1 w') 12 13 rfl (by kernel_rfl) ?_
  refine wpAnyN_take (i := 1) (oi := ?o1) (v := ?v1) ?hi1 (by kernel_rfl) (by kernel_rfl) (by kernel_rfl) (by kernel_rfl) (by decide) (by kernel_rfl) ?hQ1 ?hy1 (Below.drew (Below.refl _ _)) ?more1
  case hi1 => rw [List.getElem?_toArray]; exact rfl
  case hQ1 => exact fun _ _ _ h => h
  case hy1 =>
    refine Or.inl ⟨by rfl, ?_⟩
    intro w' hSw
    obtain ⟨⟨x0, x1, x2, x3⟩, _, xz⟩ := (H1.out.2.1.call hSw).facts
    clear hSw
    go_simp
    try with_reducible rfl
  simp only [Act.put, List.setIfInBounds_toArray, List.set_cons_zero, List.set_cons_succ]
  refine wpAnyN_take (i := 2) (oi := ?o2) (v := ?v2) ?hi2 (by kernel_rfl) (by kernel_rfl) (by kernel_rfl) (by kernel_rfl) (by decide) (by kernel_rfl) ?hQ2 ?hy2 (Below.drew (Below.refl _ _)) ?more2
  case hi2 => rw [List.getElem?_toArray]; exact rfl
  case hQ2 => exact fun _ _ _ h => h
  case hy2 =>
    refine Or.inl ⟨by rfl, ?_⟩
    intro w' hSw
    obtain ⟨⟨x0, x1, x2, x3⟩, _, xz⟩ := (H1.out.2.1.call hSw).facts
    clear hSw
    go_simp
    try with_reducible rfl
  simp only [Act.put, List.setIfInBounds_toArray, List.set_cons_zero, List.set_cons_succ]
  refine wpAnyN_take (i := 3) (oi := ?o3) (v := ?v3) ?hi3 (by kernel_rfl) (by kernel_rfl) (by kernel_rfl) (by kernel_rfl) (by decide) (by kernel_rfl) ?hQ3 ?hy3 (Below.drew (Below.refl _ _)) ?more3
  case hi3 => rw [List.getElem?_toArray]; exact rfl
  case hQ3 => exact fun _ _ _ h => h
  case hy3 =>
    refine Or.inl ⟨by rfl, ?_⟩
    intro w' hSw
    obtain ⟨⟨x0, x1, x2, x3⟩, _, xz⟩ := (H1.out.2.1.call hSw).facts
    clear hSw
    go_simp
    try with_reducible rfl
  simp only [Act.put, List.setIfInBounds_toArray, List.set_cons_zero, List.set_cons_succ]
  refine wpAnyN_take (i := 4) (oi := ?o4) (v := ?v4) ?hi4 (by kernel_rfl) (by kernel_rfl) (by kernel_rfl) (by kernel_rfl) (by decide) (by kernel_rfl) ?hQ4 ?hy4 (Below.drew (Below.refl _ _)) ?more4
  case hi4 => rw [List.getElem?_toArray]; exact rfl
  case hQ4 => exact fun _ _ _ h => h
  case hy4 =>
    refine Or.inl ⟨by rfl, ?_⟩
    intro w' hSw
    obtain ⟨⟨x0, x1, x2, x3⟩, _, xz⟩ := (H1.out.2.1.call hSw).facts
    clear hSw
    go_simp
    try with_reducible rfl
  simp only [Act.put, List.setIfInBounds_toArray, List.set_cons_zero, List.set_cons_succ]
  refine wpAnyN_take (i := 5) (oi := ?o5) (v := ?v5) ?hi5 (by kernel_rfl) (by kernel_rfl) (by kernel_rfl) (by kernel_rfl) (by decide) (by kernel_rfl) ?hQ5 ?hy5 (Below.drew (Below.refl _ _)) ?more5
  case hi5 => rw [List.getElem?_toArray]; exact rfl
  case hQ5 => exact fun _ _ _ h => h
  case hy5 =>
    refine Or.inl ⟨by rfl, ?_⟩
    intro w' hSw
    obtain ⟨⟨x0, x1, x2, x3⟩, _, xz⟩ := (H1.out.2.1.call hSw).facts
    clear hSw
    go_simp
    try with_reducible rfl
  simp only [Act.put, List.setIfInBounds_toArray, List.set_cons_zero, List.set_cons_succ]
  refine wpAnyN_take (i := 6) (oi := ?o6) (v := ?v6) ?hi6 (by kernel_rfl) (by kernel_rfl) (by kernel_rfl) (by kernel_rfl) (by decide) (by kernel_rfl) ?hQ6 ?hy6 (Below.drew (Below.refl _ _)) ?more6
  case hi6 => rw [List.getElem?_toArray]; exact rfl
  case hQ6 => exact fun _ _ _ h => h
  case hy6 =>
    refine Or.inl ⟨by rfl, ?_⟩
    intro w' hSw
    obtain ⟨⟨x0, x1, x2, x3⟩, _, xz⟩ := (H1.out.2.1.call hSw).facts
    clear hSw
    go_simp
    try with_reducible rfl
  simp only [Act.put, List.setIfInBounds_toArray, List.set_cons_zero, List.set_cons_succ]
  refine wpAnyN_take (i := 7) (oi := ?o7) (v := ?v7) ?hi7 (by kernel_rfl) (by kernel_rfl) (by kernel_rfl) (by kernel_rfl) (by decide) (by kernel_rfl) ?hQ7 ?hy7 (Below.drew (Below.refl _ _)) ?more7
  case hi7 => rw [List.getElem?_toArray]; exact rfl
  case hQ7 => exact fun _ _ _ h => h
  case hy7 =>
    refine Or.inl ⟨by rfl, ?_⟩
    intro w' hSw
    obtain ⟨⟨x0, x1, x2, x3⟩, _, xz⟩ := (H1.out.2.1.call hSw).facts
    clear hSw
    go_simp
    try with_reducible rfl
  simp only [Act.put, List.setIfInBounds_toArray, List.set_cons_zero, List.set_cons_succ]
  refine wpAnyN_take (i := 8) (oi := ?o8) (v := ?v8) ?hi8 (by kernel_rfl) (by kernel_rfl) (by kernel_rfl) (by kernel_rfl) (by decide) (by kernel_rfl) ?hQ8 ?hy8 (Below.drew (Below.refl _ _)) ?more8
  case hi8 => rw [List.getElem?_toArray]; exact rfl
  case hQ8 => exact fun _ _ _ h => h
  case hy8 =>
    refine Or.inl ⟨by rfl, ?_⟩
    intro w' hSw
    obtain ⟨⟨x0, x1, x2, x3⟩, _, xz⟩ := (H1.out.2.1.call hSw).facts
    clear hSw
    go_simp
    try with_reducible rfl
  simp only [Act.put, List.setIfInBounds_toArray, List.set_cons_zero, List.set_cons_succ]
  refine wpAnyN_take (i := 9) (oi := ?o9) (v := ?v9) ?hi9 (by kernel_rfl) (by kernel_rfl) (by kernel_rfl) (by kernel_rfl) (by decide) (by kernel_rfl) ?hQ9 ?hy9 (Below.drew (Below.refl _ _)) ?more9
  case hi9 => rw [List.getElem?_toArray]; exact rfl
  case hQ9 => exact fun _ _ _ h => h
  case hy9 =>
    refine Or.inl ⟨by rfl, ?_⟩
    intro w' hSw
    obtain ⟨⟨x0, x1, x2, x3⟩, _, xz⟩ := (H1.out.2.1.call hSw).facts
    clear hSw
    go_simp
    try with_reducible rfl
  simp only [Act.put, List.setIfInBounds_toArray, List.set_cons_zero, List.set_cons_succ]
  refine wpAnyN_two (i := 0) (j := 11) (o := ?o0x1) (p := ?o11x1) (by kernel_rfl) ?hi0x1 ?hi11x1 ?hw0x1 ?hw11x1 ?st0x1 ?st11x1
  case hi0x1 => rw [List.getElem?_toArray]; exact rfl
  case hw0x1 => exact rfl
  case hi11x1 => rw [List.getElem?_toArray]; exact rfl
  case hw11x1 => exact rfl
  case st0x1 =>
    intro K hK
    have HK0y2 : Hid _ := hK
    clear hK
    go_simp
    refine (KS.out _).mono ?_
    rintro e w0y2 ⟨rfl, hq⟩
    have H0y2 : Hid (Below w1.heap.size w1 w0y2) := below_call0 (Below.drew (Below.refl _ _)) hq
    clear hq
    go_wp2_with fail
    refine HK0y2.out _ _ ⟨fun _ => H0y2.out, ?_⟩
    clear HK0y2 K
    try simp only [Act.put, List.setIfInBounds_toArray, List.set_cons_zero, List.set_cons_succ]
    refine wpAnyN_two (i := 10) (j := 11) (o := ?o10y2x3) (p := ?o11y2x3) (by kernel_rfl) ?hi10y2x3 ?hi11y2x3 ?hw10y2x3 ?hw11y2x3 ?st10y2x3 ?st11y2x3
    case hi10y2x3 => rw [List.getElem?_toArray]; exact rfl
    case hw10y2x3 => exact rfl
    case hi11y2x3 => rw [List.getElem?_toArray]; exact rfl
    case hw11y2x3 => exact rfl
    case st10y2x3 =>
      intro K hK
      have HK10y4 : Hid _ := hK
      clear hK
      go_simp
      refine (KD.out _).mono ?_
      rintro e w10y4 ⟨rfl, hq⟩
      have H10y4 : Hid (Below w1.heap.size w1 w10y4) := below_call0 H0y2.out hq
      clear hq
      go_wp2_with fail
      refine HK10y4.out _ _ ⟨fun _ => H10y4.out, ?_⟩
      clear HK10y4 K
      try simp only [Act.put, List.setIfInBounds_toArray, List.set_cons_zero, List.set_cons_succ]
      refine wpAnyN_one (i := 11) (o := ?o11y4) (by kernel_rfl) ?hi11y4 ?hw11y4 ?st11y4
      case hi11y4 => rw [List.getElem?_toArray]; exact rfl
      case hw11y4 => exact rfl
      intro K hK
      have HK11y4 : Hid _ := hK
      clear hK
      go_simp
      refine HK11y4.out _ _ ⟨fun _ => (below_alloc0 H10y4.out _), ?_⟩
      clear HK11y4 K
      try simp only [Act.put, List.setIfInBounds_toArray, List.set_cons_zero, List.set_cons_succ]
      refine wpAnyN_one (i := 12) (o := ?o12y4) (by kernel_rfl) ?hi12y4 ?hw12y4 ?st12y4
      case hi12y4 => rw [List.getElem?_toArray]; exact rfl
      case hw12y4 => exact rfl
      intro K hK
      have HK12y4 : Hid _ := hK
      clear hK
      obtain ⟨⟨o0, o1, o2, o3⟩, ⟨f0, f1, f2, f3⟩, oz⟩ := Pend.facts (Pend.new' (W := w10y4) (t := 25) rfl)
      try simp only [World.size_alloc] at o0 o1 o2 o3 f0 f1 f2 f3 oz
      go_simp
      refine HK12y4.out _ _ ⟨fun h => absurd h (by decide +kernel), ?_⟩
      clear HK12y4 K
      try simp only [Act.put, List.setIfInBounds_toArray, List.set_cons_zero, List.set_cons_succ]
      refine wpAnyN_done (by kernel_rfl) ?_ _
      obtain ⟨wS, hwS⟩ : ∃ y, y = w10y4.alloc (.cells #[.int .u64 (limb t 0 : Nat), .int .u64 (limb t 1 : Nat), .int .u64 (limb t 2 : Nat), .int .u64 (limb t 3 : Nat)] 25) := ⟨_, rfl⟩
      have HT : Hid (Own4 wS (w10y4.heap.size) t ∧ Below w1.heap.size w1 wS) := by rw [hwS]; exact ⟨Own4.new' rfl, below_alloc0 H10y4.out _⟩
      rw [← hwS]
      clear hwS o0 o1 o2 o3 f0 f1 f2 f3 oz
      have HW : Hid (Below w.heap.size w wS ∧ Nums wS pa (rtL cs) ∧ Own4 wS (w10y4.heap.size) t) := ⟨below_call0 H1.out.1 HT.out.2, H1.out.2.2.1.call HT.out.2, HT.out.1⟩
      clear HT
      go_wp2_with fail
      refine (KA.out _ (H0.out.2.2.1.call HW.out.1)).mono ?_
      rintro e w10 ⟨rfl, hb10⟩
      rw [HI.out]
      have H10 : Hid (Below w.heap.size w w10 ∧ Own4 w10 (w10y4.heap.size) t ∧ Nums w10 pa (rtL cs)) := ⟨below_call0 HW.out.1 hb10, HW.out.2.2.call hb10, HW.out.2.1.call hb10⟩
      clear hb10 HW KA
      go_wp2_with fail
      refine (KL.out _ (H0.out.1.call H10.out.1)).mono ?_
      rintro e w30 ⟨rfl, hb30⟩
      have H30 : Hid (Below w.heap.size w w30) := below_call0 H10.out.1 hb30
      clear hb30
      go_wp2_with fail
      go_ret
      exact ⟨rfl, H30.out⟩
    case st11y2x3 =>
      intro K hK
      have HK11y5 : Hid _ := hK
      clear hK
      go_simp
      refine HK11y5.out _ _ ⟨fun _ => (below_alloc0 H0y2.out _), ?_⟩
      clear HK11y5 K
      try simp only [Act.put, List.setIfInBounds_toArray, List.set_cons_zero, List.set_cons_succ]
      refine wpAnyN_one (i := 10) (o := ?o10y5) (by kernel_rfl) ?hi10y5 ?hw10y5 ?st10y5
      case hi10y5 => rw [List.getElem?_toArray]; exact rfl
      case hw10y5 => exact rfl
      intro K hK
      have HK10y5 : Hid _ := hK
      clear hK
      go_simp
      refine (KD.out _).mono ?_
      rintro e w10y5 ⟨rfl, hq⟩
      have H10y5 : Hid (Below w1.heap.size w1 w10y5) := below_call0 (below_alloc0 H0y2.out _) hq
      have P10y5 : Hid (Pend w10y5 (w0y2.heap.size)) := Pend.call (Pend.new' (W := w0y2) (t := 25) rfl) hq
      clear hq
      go_wp2_with fail
      refine HK10y5.out _ _ ⟨fun _ => H10y5.out, ?_⟩
      clear HK10y5 K
      try simp only [Act.put, List.setIfInBounds_toArray, List.set_cons_zero, List.set_cons_succ]
      refine wpAnyN_one (i := 12) (o := ?o12y5) (by kernel_rfl) ?hi12y5 ?hw12y5 ?st12y5
      case hi12y5 => rw [List.getElem?_toArray]; exact rfl
      case hw12y5 => exact rfl
      intro K hK
      have HK12y5 : Hid _ := hK
      clear hK
      obtain ⟨⟨o0, o1, o2, o3⟩, ⟨f0, f1, f2, f3⟩, oz⟩ := Pend.facts P10y5.out
      try simp only [World.size_alloc] at o0 o1 o2 o3 f0 f1 f2 f3 oz
      go_simp
      refine HK12y5.out _ _ ⟨fun h => absurd h (by decide +kernel), ?_⟩
      clear HK12y5 K
      try simp only [Act.put, List.setIfInBounds_toArray, List.set_cons_zero, List.set_cons_succ]
      refine wpAnyN_done (by kernel_rfl) ?_ _
      obtain ⟨wS, hwS⟩ : ∃ y, y = ((((w10y5.setCell ⟨w0y2.heap.size, 0, none⟩ (.int .u64 (limb t 0 : Nat))).setCell ⟨w0y2.heap.size, 1, none⟩ (.int .u64 (limb t 1 : Nat))).setCell ⟨w0y2.heap.size, 2, none⟩ (.int .u64 (limb t 2 : Nat))).setCell ⟨w0y2.heap.size, 3, none⟩ (.int .u64 (limb t 3 : Nat))) := ⟨_, rfl⟩
      have HT : Hid (Own4 wS (w0y2.heap.size) t ∧ Below w1.heap.size w1 wS) := by rw [hwS]; exact ⟨Pend.own P10y5.out, Below.setCell (Below.setCell (Below.setCell (Below.setCell H10y5.out (Below.size H0y2.out) _) (Below.size H0y2.out) _) (Below.size H0y2.out) _) (Below.size H0y2.out) _⟩
      rw [← hwS]
      clear hwS o0 o1 o2 o3 f0 f1 f2 f3 oz
      have HW : Hid (Below w.heap.size w wS ∧ Nums wS pa (rtL cs) ∧ Own4 wS (w0y2.heap.size) t) := ⟨below_call0 H1.out.1 HT.out.2, H1.out.2.2.1.call HT.out.2, HT.out.1⟩
      clear HT
      go_wp2_with fail
      refine (KA.out _ (H0.out.2.2.1.call HW.out.1)).mono ?_
      rintro e w10 ⟨rfl, hb10⟩
      rw [HI.out]
      have H10 : Hid (Below w.heap.size w w10 ∧ Own4 w10 (w0y2.heap.size) t ∧ Nums w10 pa (rtL cs)) := ⟨below_call0 HW.out.1 hb10, HW.out.2.2.call hb10, HW.out.2.1.call hb10⟩
      clear hb10 HW KA
      go_wp2_with fail
      refine (KL.out _ (H0.out.1.call H10.out.1)).mono ?_
      rintro e w30 ⟨rfl, hb30⟩
      have H30 : Hid (Below w.heap.size w w30) := below_call0 H10.out.1 hb30
      clear hb30
      go_wp2_with fail
      go_ret
      exact ⟨rfl, H30.out⟩
  case st11x1 =>
    intro K hK
    have HK11y6 : Hid _ := hK
    clear hK
    go_simp
    refine HK11y6.out _ _ ⟨fun _ => (below_alloc0 (Below.drew (Below.refl _ _)) _), ?_⟩
    clear HK11y6 K
    try simp only [Act.put, List.setIfInBounds_toArray, List.set_cons_zero, List.set_cons_succ]
    refine wpAnyN_one (i := 0) (o := ?o0y6) (by kernel_rfl) ?hi0y6 ?hw0y6 ?st0y6
    case hi0y6 => rw [List.getElem?_toArray]; exact rfl
    case hw0y6 => exact rfl
    intro K hK
    have HK0y6 : Hid _ := hK
    clear hK
    go_simp
    refine (KS.out _).mono ?_
    rintro e w0y6 ⟨rfl, hq⟩
    have H0y6 : Hid (Below w1.heap.size w1 w0y6) := below_call0 (below_alloc0 (Below.drew (Below.refl _ _)) _) hq
    have P0y6 : Hid (Pend w0y6 (w1.heap.size)) := Pend.call (Pend.new' (W := w1.drew) (t := 25) rfl) hq
    clear hq
    go_wp2_with fail
    refine HK0y6.out _ _ ⟨fun _ => H0y6.out, ?_⟩
    clear HK0y6 K
    try simp only [Act.put, List.setIfInBounds_toArray, List.set_cons_zero, List.set_cons_succ]
    refine wpAnyN_one (i := 10) (o := ?o10y6) (by kernel_rfl) ?hi10y6 ?hw10y6 ?st10y6
    case hi10y6 => rw [List.getElem?_toArray]; exact rfl
    case hw10y6 => exact rfl
    intro K hK
    have HK10y6 : Hid _ := hK
    clear hK
    go_simp
    refine (KD.out _).mono ?_
    rintro e w10y6 ⟨rfl, hq⟩
    have H10y6 : Hid (Below w1.heap.size w1 w10y6) := below_call0 H0y6.out hq
    have P10y6 : Hid (Pend w10y6 (w1.heap.size)) := Pend.call P0y6.out hq
    clear hq
    go_wp2_with fail
    refine HK10y6.out _ _ ⟨fun _ => H10y6.out, ?_⟩
    clear HK10y6 K
    try simp only [Act.put, List.setIfInBounds_toArray, List.set_cons_zero, List.set_cons_succ]
    refine wpAnyN_one (i := 12) (o := ?o12y6) (by kernel_rfl) ?hi12y6 ?hw12y6 ?st12y6
    case hi12y6 => rw [List.getElem?_toArray]; exact rfl
    case hw12y6 => exact rfl
    intro K hK
    have HK12y6 : Hid _ := hK
    clear hK
    obtain ⟨⟨o0, o1, o2, o3⟩, ⟨f0, f1, f2, f3⟩, oz⟩ := Pend.facts P10y6.out
    try simp only [World.size_alloc] at o0 o1 o2 o3 f0 f1 f2 f3 oz
    go_simp
    refine HK12y6.out _ _ ⟨fun h => absurd h (by decide +kernel), ?_⟩
    clear HK12y6 K
    try simp only [Act.put, List.setIfInBounds_toArray, List.set_cons_zero, List.set_cons_succ]
    refine wpAnyN_done (by kernel_rfl) ?_ _
    obtain ⟨wS, hwS⟩ : ∃ y, y = ((((w10y6.setCell ⟨w1.heap.size, 0, none⟩ (.int .u64 (limb t 0 : Nat))).setCell ⟨w1.heap.size, 1, none⟩ (.int .u64 (limb t 1 : Nat))).setCell ⟨w1.heap.size, 2, none⟩ (.int .u64 (limb t 2 : Nat))).setCell ⟨w1.heap.size, 3, none⟩ (.int .u64 (limb t 3 : Nat))) := ⟨_, rfl⟩
    have HT : Hid (Own4 wS (w1.heap.size) t ∧ Below w1.heap.size w1 wS) := by rw [hwS]; exact ⟨Pend.own P10y6.out, Below.setCell (Below.setCell (Below.setCell (Below.setCell H10y6.out (Nat.le_refl _) _) (Nat.le_refl _) _) (Nat.le_refl _) _) (Nat.le_refl _) _⟩
    rw [← hwS]
    clear hwS o0 o1 o2 o3 f0 f1 f2 f3 oz
    have HW : Hid (Below w.heap.size w wS ∧ Nums wS pa (rtL cs) ∧ Own4 wS (w1.heap.size) t) := ⟨below_call0 H1.out.1 HT.out.2, H1.out.2.2.1.call HT.out.2, HT.out.1⟩
    clear HT
    go_wp2_with fail
    refine (KA.out _ (H0.out.2.2.1.call HW.out.1)).mono ?_
    rintro e w10 ⟨rfl, hb10⟩
    rw [HI.out]
    have H10 : Hid (Below w.heap.size w w10 ∧ Own4 w10 (w1.heap.size) t ∧ Nums w10 pa (rtL cs)) := ⟨below_call0 HW.out.1 hb10, HW.out.2.2.call hb10, HW.out.2.1.call hb10⟩
    clear hb10 HW KA
    go_wp2_with fail
    refine (KL.out _ (H0.out.1.call H10.out.1)).mono ?_
    rintro e w30 ⟨rfl, hb30⟩
    have H30 : Hid (Below w.heap.size w w30) := below_call0 H10.out.1 hb30
    clear hb30
    go_wp2_with fail
    go_ret
    exact ⟨rfl, H30.out⟩
set_option maxRecDepth 100000 in
set_option maxHeartbeats 32000000 in
theorem sh_len (a b : Option Addr) (l : List Int) (cs : List Nat) (c d x : Nat) (hc : cs.length ≤ 4398046511104) (hR : ∀ n ∈ cs, n < R256) (hl : l.length ≤ 17592186044416) (hxR : x < R256) (hb : nodesOk l = true) (hf : l.length ≠ (rtL cs).length) (w : World) (hG : GlobQ w) (hS : Nums w a cs) (hN : IntsAt w b l) :
    Calls Tryd.prog 8 #[.slice b l.length d, .slice a cs.length c, .agg #[.int .u64 (limb (x) 0 : Nat), .int .u64 (limb (x) 1 : Nat), .int .u64 (limb (x) 2 : Nat), .int .u64 (limb (x) 3 : Nat)]] w fun e w' => e = .returned (.bool true) ∧ Below w.heap.size w w' := by
  obtain ⟨q, hq⟩ : ∃ q, q = QQ := ⟨_, rfl⟩
  obtain ⟨m, hm⟩ : ∃ m, m = cs.length := ⟨_, rfl⟩
  obtain ⟨n, hn⟩ : ∃ n, n = l.length := ⟨_, rfl⟩
  obtain ⟨t, ht⟩ : ∃ t, t = x % QQ := ⟨_, rfl⟩
  have K1 : Hid (∀ w, Nums w a cs → Calls Tryd.prog 24 #[.slice a m c] w fun e w' => ∃ a' n' cap', e = .returned (.slice a' n' cap') ∧ n' = (rtL cs).length ∧ RowN w' w.heap.size a' (rtL cs) cap' ∧ Below w.heap.size w w') := fun w h => by rw [hm]; exact right_any a cs c hc hR w h
  have KS : Hid (∀ w, Calls Tryd.prog 25 #[] w fun e w' => e = .returned (.agg #[.int .u64 (limb (q) 0 : Nat), .int .u64 (limb (q) 1 : Nat), .int .u64 (limb (q) 2 : Nat), .int .u64 (limb (q) 3 : Nat), .int .u64 (limb (R256 - (q)) 0 : Nat), .int .u64 (limb (R256 - (q)) 1 : Nat), .int .u64 (limb (R256 - (q)) 2 : Nat), .int .u64 (limb (R256 - (q)) 3 : Nat)]) ∧ Below w.heap.size w w') := fun w => by rw [hq]; exact scalars2_any w
  have KD : Hid (∀ w, Calls Tryd.prog 26 #[.agg #[.int .u64 (limb (q) 0 : Nat), .int .u64 (limb (q) 1 : Nat), .int .u64 (limb (q) 2 : Nat), .int .u64 (limb (q) 3 : Nat), .int .u64 (limb (R256 - (q)) 0 : Nat), .int .u64 (limb (R256 - (q)) 1 : Nat), .int .u64 (limb (R256 - (q)) 2 : Nat), .int .u64 (limb (R256 - (q)) 3 : Nat)], .agg #[.int .u64 (limb x 0 : Nat), .int .u64 (limb x 1 : Nat), .int .u64 (limb x 2 : Nat), .int .u64 (limb x 3 : Nat), .int .u64 0, .int .u64 0, .int .u64 0, .int .u64 0]] w fun e w' => e = .returned (.agg #[.int .u64 (limb (t) 0 : Nat), .int .u64 (limb (t) 1 : Nat), .int .u64 (limb (t) 2 : Nat), .int .u64 (limb (t) 3 : Nat)]) ∧ Below w.heap.size w w') := fun w => by rw [hq, ht]; exact reduce4 x hxR w
  have KA : Hid (∀ w, IntsAt w b l → Calls Tryd.prog 27 #[.slice b n d] w fun e w' => e = .returned (.bool (nodesOk l)) ∧ Below w.heap.size w w') := fun w h => by rw [hn]; exact among_any b l d hl w h
  have KL : Hid (∀ w, GlobQ w → Calls Tryd.prog 13 #[] w fun e w' => e = .returned (.bool true) ∧ Below w.heap.size w w') := fun w h => line_any w h
  have H0 : Hid (GlobQ w ∧ Nums w a cs ∧ IntsAt w b l ∧ n = l.length ∧ t < QQ ∧ q = QQ) := ⟨hG, hS, hN, hn, by rw [ht]; exact Nat.mod_lt _ QQ_pos, hq⟩
  have HB : Hid (Below w.heap.size w (w.alloc (.cells #[.int .u64 (limb x 0 : Nat), .int .u64 (limb x 1 : Nat), .int .u64 (limb x 2 : Nat), .int .u64 (limb x 3 : Nat)] 25)) ∧ Own4 (w.alloc (.cells #[.int .u64 (limb x 0 : Nat), .int .u64 (limb x 1 : Nat), .int .u64 (limb x 2 : Nat), .int .u64 (limb x 3 : Nat)] 25)) w.heap.size x) := ⟨below_alloc0 (Below.refl _ _) _, Own4.new _ _ _⟩
  have n43 : (n : Int) ≤ 17592186044416 := by omega
  have HI : Hid (nodesOk l = true ∧ n ≠ (rtL cs).length) := ⟨hb, by rw [hn]; exact hf⟩
  clear hb hf
  rw [← hm, ← hn]
  clear hc hR hxR hG hS hN hq hm ht hn hl
  go_enter Tryd.func8, Tryd.ntmps8
  go_wp2_with fail
  refine (K1.out _ (H0.out.2.1.call HB.out.1)).mono ?_
  rintro e w1 ⟨pa, P, pc, rfl, hP, hRow, hb1⟩
  have H1 : Hid (Below w.heap.size w w1 ∧ Own4 w1 w.heap.size x ∧ Nums w1 pa (rtL cs) ∧ P = (rtL cs).length) := ⟨below_call0 HB.out.1 hb1, HB.out.2.call hb1, hRow.nums, hP⟩
  clear hb1 hRow hP HB K1
  go_wp2_with fail
  refine wp_region_N (fun w' => Below w1.heap.size w1 w') 12 13 rfl (by kernel_rfl) ?_
  refine wpAnyN_take (i := 1) (oi := ?o1) (v := ?v1) ?hi1 (by kernel_rfl) (by kernel_rfl) (by kernel_rfl) (by kernel_rfl) (by decide) (by kernel_rfl) ?hQ1 ?hy1 (Below.drew (Below.refl _ _)) ?more1
  case hi1 => rw [List.getElem?_toArray]; exact rfl
  case hQ1 => exact fun _ _ _ h => h
  case hy1 =>
    refine Or.inl ⟨by rfl, ?_⟩
    intro w' hSw
    obtain ⟨⟨x0, x1, x2, x3⟩, _, xz⟩ := (H1.out.2.1.call hSw).facts
    clear hSw
    go_simp
    try with_reducible rfl
  simp only [Act.put, List.setIfInBounds_toArray, List.set_cons_zero, List.set_cons_succ]
  refine wpAnyN_take (i := 2) (oi := ?o2) (v := ?v2) ?hi2 (by kernel_rfl) (by kernel_rfl) (by kernel_rfl) (by kernel_rfl) (by decide) (by kernel_rfl) ?hQ2 ?hy2 (Below.drew (Below.refl _ _)) ?more2
  case hi2 => rw [List.getElem?_toArray]; exact rfl
  case hQ2 => exact fun _ _ _ h => h
  case hy2 =>
    refine Or.inl ⟨by rfl, ?_⟩
    intro w' hSw
    obtain ⟨⟨x0, x1, x2, x3⟩, _, xz⟩ := (H1.out.2.1.call hSw).facts
    clear hSw
    go_simp
    try with_reducible rfl
  simp only [Act.put, List.setIfInBounds_toArray, List.set_cons_zero, List.set_cons_succ]
  refine wpAnyN_take (i := 3) (oi := ?o3) (v := ?v3) ?hi3 (by kernel_rfl) (by kernel_rfl) (by kernel_rfl) (by kernel_rfl) (by decide) (by kernel_rfl) ?hQ3 ?hy3 (Below.drew (Below.refl _ _)) ?more3
  case hi3 => rw [List.getElem?_toArray]; exact rfl
  case hQ3 => exact fun _ _ _ h => h
  case hy3 =>
    refine Or.inl ⟨by rfl, ?_⟩
    intro w' hSw
    obtain ⟨⟨x0, x1, x2, x3⟩, _, xz⟩ := (H1.out.2.1.call hSw).facts
    clear hSw
    go_simp
    try with_reducible rfl
  simp only [Act.put, List.setIfInBounds_toArray, List.set_cons_zero, List.set_cons_succ]
  refine wpAnyN_take (i := 4) (oi := ?o4) (v := ?v4) ?hi4 (by kernel_rfl) (by kernel_rfl) (by kernel_rfl) (by kernel_rfl) (by decide) (by kernel_rfl) ?hQ4 ?hy4 (Below.drew (Below.refl _ _)) ?more4
  case hi4 => rw [List.getElem?_toArray]; exact rfl
  case hQ4 => exact fun _ _ _ h => h
  case hy4 =>
    refine Or.inl ⟨by rfl, ?_⟩
    intro w' hSw
    obtain ⟨⟨x0, x1, x2, x3⟩, _, xz⟩ := (H1.out.2.1.call hSw).facts
    clear hSw
    go_simp
    try with_reducible rfl
  simp only [Act.put, List.setIfInBounds_toArray, List.set_cons_zero, List.set_cons_succ]
  refine wpAnyN_take (i := 5) (oi := ?o5) (v := ?v5) ?hi5 (by kernel_rfl) (by kernel_rfl) (by kernel_rfl) (by kernel_rfl) (by decide) (by kernel_rfl) ?hQ5 ?hy5 (Below.drew (Below.refl _ _)) ?more5
  case hi5 => rw [List.getElem?_toArray]; exact rfl
  case hQ5 => exact fun _ _ _ h => h
  case hy5 =>
    refine Or.inl ⟨by rfl, ?_⟩
    intro w' hSw
    obtain ⟨⟨x0, x1, x2, x3⟩, _, xz⟩ := (H1.out.2.1.call hSw).facts
    clear hSw
    go_simp
    try with_reducible rfl
  simp only [Act.put, List.setIfInBounds_toArray, List.set_cons_zero, List.set_cons_succ]
  refine wpAnyN_take (i := 6) (oi := ?o6) (v := ?v6) ?hi6 (by kernel_rfl) (by kernel_rfl) (by kernel_rfl) (by kernel_rfl) (by decide) (by kernel_rfl) ?hQ6 ?hy6 (Below.drew (Below.refl _ _)) ?more6
  case hi6 => rw [List.getElem?_toArray]; exact rfl
  case hQ6 => exact fun _ _ _ h => h
  case hy6 =>
    refine Or.inl ⟨by rfl, ?_⟩
    intro w' hSw
    obtain ⟨⟨x0, x1, x2, x3⟩, _, xz⟩ := (H1.out.2.1.call hSw).facts
    clear hSw
    go_simp
    try with_reducible rfl
  simp only [Act.put, List.setIfInBounds_toArray, List.set_cons_zero, List.set_cons_succ]
  refine wpAnyN_take (i := 7) (oi := ?o7) (v := ?v7) ?hi7 (by kernel_rfl) (by kernel_rfl) (by kernel_rfl) (by kernel_rfl) (by decide) (by kernel_rfl) ?hQ7 ?hy7 (Below.drew (Below.refl _ _)) ?more7
  case hi7 => rw [List.getElem?_toArray]; exact rfl
  case hQ7 => exact fun _ _ _ h => h
  case hy7 =>
    refine Or.inl ⟨by rfl, ?_⟩
    intro w' hSw
    obtain ⟨⟨x0, x1, x2, x3⟩, _, xz⟩ := (H1.out.2.1.call hSw).facts
    clear hSw
    go_simp
    try with_reducible rfl
  simp only [Act.put, List.setIfInBounds_toArray, List.set_cons_zero, List.set_cons_succ]
  refine wpAnyN_take (i := 8) (oi := ?o8) (v := ?v8) ?hi8 (by kernel_rfl) (by kernel_rfl) (by kernel_rfl) (by kernel_rfl) (by decide) (by kernel_rfl) ?hQ8 ?hy8 (Below.drew (Below.refl _ _)) ?more8
  case hi8 => rw [List.getElem?_toArray]; exact rfl
  case hQ8 => exact fun _ _ _ h => h
  case hy8 =>
    refine Or.inl ⟨by rfl, ?_⟩
    intro w' hSw
    obtain ⟨⟨x0, x1, x2, x3⟩, _, xz⟩ := (H1.out.2.1.call hSw).facts
    clear hSw
    go_simp
    try with_reducible rfl
  simp only [Act.put, List.setIfInBounds_toArray, List.set_cons_zero, List.set_cons_succ]
  refine wpAnyN_take (i := 9) (oi := ?o9) (v := ?v9) ?hi9 (by kernel_rfl) (by kernel_rfl) (by kernel_rfl) (by kernel_rfl) (by decide) (by kernel_rfl) ?hQ9 ?hy9 (Below.drew (Below.refl _ _)) ?more9
  case hi9 => rw [List.getElem?_toArray]; exact rfl
  case hQ9 => exact fun _ _ _ h => h
  case hy9 =>
    refine Or.inl ⟨by rfl, ?_⟩
    intro w' hSw
    obtain ⟨⟨x0, x1, x2, x3⟩, _, xz⟩ := (H1.out.2.1.call hSw).facts
    clear hSw
    go_simp
    try with_reducible rfl
  simp only [Act.put, List.setIfInBounds_toArray, List.set_cons_zero, List.set_cons_succ]
  refine wpAnyN_two (i := 0) (j := 11) (o := ?o0x1) (p := ?o11x1) (by kernel_rfl) ?hi0x1 ?hi11x1 ?hw0x1 ?hw11x1 ?st0x1 ?st11x1
  case hi0x1 => rw [List.getElem?_toArray]; exact rfl
  case hw0x1 => exact rfl
  case hi11x1 => rw [List.getElem?_toArray]; exact rfl
  case hw11x1 => exact rfl
  case st0x1 =>
    intro K hK
    have HK0y2 : Hid _ := hK
    clear hK
    go_simp
    refine (KS.out _).mono ?_
    rintro e w0y2 ⟨rfl, hq⟩
    have H0y2 : Hid (Below w1.heap.size w1 w0y2) := below_call0 (Below.drew (Below.refl _ _)) hq
    clear hq
    go_wp2_with fail
    refine HK0y2.out _ _ ⟨fun _ => H0y2.out, ?_⟩
    clear HK0y2 K
    try simp only [Act.put, List.setIfInBounds_toArray, List.set_cons_zero, List.set_cons_succ]
    refine wpAnyN_two (i := 10) (j := 11) (o := ?o10y2x3) (p := ?o11y2x3) (by kernel_rfl) ?hi10y2x3 ?hi11y2x3 ?hw10y2x3 ?hw11y2x3 ?st10y2x3 ?st11y2x3
    case hi10y2x3 => rw [List.getElem?_toArray]; exact rfl
    case hw10y2x3 => exact rfl
    case hi11y2x3 => rw [List.getElem?_toArray]; exact rfl
    case hw11y2x3 => exact rfl
    case st10y2x3 =>
      intro K hK
      have HK10y4 : Hid _ := hK
      clear hK
      go_simp
      refine (KD.out _).mono ?_
      rintro e w10y4 ⟨rfl, hq⟩
      have H10y4 : Hid (Below w1.heap.size w1 w10y4) := below_call0 H0y2.out hq
      clear hq
      go_wp2_with fail
      refine HK10y4.out _ _ ⟨fun _ => H10y4.out, ?_⟩
      clear HK10y4 K
      try simp only [Act.put, List.setIfInBounds_toArray, List.set_cons_zero, List.set_cons_succ]
      refine wpAnyN_one (i := 11) (o := ?o11y4) (by kernel_rfl) ?hi11y4 ?hw11y4 ?st11y4
      case hi11y4 => rw [List.getElem?_toArray]; exact rfl
      case hw11y4 => exact rfl
      intro K hK
      have HK11y4 : Hid _ := hK
      clear hK
      go_simp
      refine HK11y4.out _ _ ⟨fun _ => (below_alloc0 H10y4.out _), ?_⟩
      clear HK11y4 K
      try simp only [Act.put, List.setIfInBounds_toArray, List.set_cons_zero, List.set_cons_succ]
      refine wpAnyN_one (i := 12) (o := ?o12y4) (by kernel_rfl) ?hi12y4 ?hw12y4 ?st12y4
      case hi12y4 => rw [List.getElem?_toArray]; exact rfl
      case hw12y4 => exact rfl
      intro K hK
      have HK12y4 : Hid _ := hK
      clear hK
      obtain ⟨⟨o0, o1, o2, o3⟩, ⟨f0, f1, f2, f3⟩, oz⟩ := Pend.facts (Pend.new' (W := w10y4) (t := 25) rfl)
      try simp only [World.size_alloc] at o0 o1 o2 o3 f0 f1 f2 f3 oz
      go_simp
      refine HK12y4.out _ _ ⟨fun h => absurd h (by decide +kernel), ?_⟩
      clear HK12y4 K
      try simp only [Act.put, List.setIfInBounds_toArray, List.set_cons_zero, List.set_cons_succ]
      refine wpAnyN_done (by kernel_rfl) ?_ _
      obtain ⟨wS, hwS⟩ : ∃ y, y = w10y4.alloc (.cells #[.int .u64 (limb t 0 : Nat), .int .u64 (limb t 1 : Nat), .int .u64 (limb t 2 : Nat), .int .u64 (limb t 3 : Nat)] 25) := ⟨_, rfl⟩
      have HT : Hid (Own4 wS (w10y4.heap.size) t ∧ Below w1.heap.size w1 wS) := by rw [hwS]; exact ⟨Own4.new' rfl, below_alloc0 H10y4.out _⟩
      rw [← hwS]
      clear hwS o0 o1 o2 o3 f0 f1 f2 f3 oz
      have HW : Hid (Below w.heap.size w wS ∧ Nums wS pa (rtL cs) ∧ Own4 wS (w10y4.heap.size) t) := ⟨below_call0 H1.out.1 HT.out.2, H1.out.2.2.1.call HT.out.2, HT.out.1⟩
      clear HT
      go_wp2_with fail
      refine (KA.out _ (H0.out.2.2.1.call HW.out.1)).mono ?_
      rintro e w10 ⟨rfl, hb10⟩
      rw [HI.out.1]
      have H10 : Hid (Below w.heap.size w w10 ∧ Own4 w10 (w10y4.heap.size) t ∧ Nums w10 pa (rtL cs)) := ⟨below_call0 HW.out.1 hb10, HW.out.2.2.call hb10, HW.out.2.1.call hb10⟩
      clear hb10 HW KA
      have p1 : ¬ (n = P) := by rw [H1.out.2.2.2]; exact HI.out.2
      have p2 : ((n : Int) == (P : Int)) = false := by simp; omega
      have p3 : ¬ ((n : Int) = (P : Int)) := by omega
      clear p1
      go_wp2_with fail
      refine (KL.out _ (H0.out.1.call H10.out.1)).mono ?_
      rintro e w30 ⟨rfl, hb30⟩
      have H30 : Hid (Below w.heap.size w w30) := below_call0 H10.out.1 hb30
      clear hb30
      go_wp2_with fail
      go_ret
      exact ⟨rfl, H30.out⟩
    case st11y2x3 =>
      intro K hK
      have HK11y5 : Hid _ := hK
      clear hK
      go_simp
      refine HK11y5.out _ _ ⟨fun _ => (below_alloc0 H0y2.out _), ?_⟩
      clear HK11y5 K
      try simp only [Act.put, List.setIfInBounds_toArray, List.set_cons_zero, List.set_cons_succ]
      refine wpAnyN_one (i := 10) (o := ?o10y5) (by kernel_rfl) ?hi10y5 ?hw10y5 ?st10y5
      case hi10y5 => rw [List.getElem?_toArray]; exact rfl
      case hw10y5 => exact rfl
      intro K hK
      have HK10y5 : Hid _ := hK
      clear hK
      go_simp
      refine (KD.out _).mono ?_
      rintro e w10y5 ⟨rfl, hq⟩
      have H10y5 : Hid (Below w1.heap.size w1 w10y5) := below_call0 (below_alloc0 H0y2.out _) hq
      have P10y5 : Hid (Pend w10y5 (w0y2.heap.size)) := Pend.call (Pend.new' (W := w0y2) (t := 25) rfl) hq
      clear hq
      go_wp2_with fail
      refine HK10y5.out _ _ ⟨fun _ => H10y5.out, ?_⟩
      clear HK10y5 K
      try simp only [Act.put, List.setIfInBounds_toArray, List.set_cons_zero, List.set_cons_succ]
      refine wpAnyN_one (i := 12) (o := ?o12y5) (by kernel_rfl) ?hi12y5 ?hw12y5 ?st12y5
      case hi12y5 => rw [List.getElem?_toArray]; exact rfl
      case hw12y5 => exact rfl
      intro K hK
      have HK12y5 : Hid _ := hK
      clear hK
      obtain ⟨⟨o0, o1, o2, o3⟩, ⟨f0, f1, f2, f3⟩, oz⟩ := Pend.facts P10y5.out
      try simp only [World.size_alloc] at o0 o1 o2 o3 f0 f1 f2 f3 oz
      go_simp
      refine HK12y5.out _ _ ⟨fun h => absurd h (by decide +kernel), ?_⟩
      clear HK12y5 K
      try simp only [Act.put, List.setIfInBounds_toArray, List.set_cons_zero, List.set_cons_succ]
      refine wpAnyN_done (by kernel_rfl) ?_ _
      obtain ⟨wS, hwS⟩ : ∃ y, y = ((((w10y5.setCell ⟨w0y2.heap.size, 0, none⟩ (.int .u64 (limb t 0 : Nat))).setCell ⟨w0y2.heap.size, 1, none⟩ (.int .u64 (limb t 1 : Nat))).setCell ⟨w0y2.heap.size, 2, none⟩ (.int .u64 (limb t 2 : Nat))).setCell ⟨w0y2.heap.size, 3, none⟩ (.int .u64 (limb t 3 : Nat))) := ⟨_, rfl⟩
      have HT : Hid (Own4 wS (w0y2.heap.size) t ∧ Below w1.heap.size w1 wS) := by rw [hwS]; exact ⟨Pend.own P10y5.out, Below.setCell (Below.setCell (Below.setCell (Below.setCell H10y5.out (Below.size H0y2.out) _) (Below.size H0y2.out) _) (Below.size H0y2.out) _) (Below.size H0y2.out) _⟩
      rw [← hwS]
      clear hwS o0 o1 o2 o3 f0 f1 f2 f3 oz
      have HW : Hid (Below w.heap.size w wS ∧ Nums wS pa (rtL cs) ∧ Own4 wS (w0y2.heap.size) t) := ⟨below_call0 H1.out.1 HT.out.2, H1.out.2.2.1.call HT.out.2, HT.out.1⟩
      clear HT
      go_wp2_with fail
      refine (KA.out _ (H0.out.2.2.1.call HW.out.1)).mono ?_
      rintro e w10 ⟨rfl, hb10⟩
      rw [HI.out.1]
      have H10 : Hid (Below w.heap.size w w10 ∧ Own4 w10 (w0y2.heap.size) t ∧ Nums w10 pa (rtL cs)) := ⟨below_call0 HW.out.1 hb10, HW.out.2.2.call hb10, HW.out.2.1.call hb10⟩
      clear hb10 HW KA
      have p1 : ¬ (n = P) := by rw [H1.out.2.2.2]; exact HI.out.2
      have p2 : ((n : Int) == (P : Int)) = false := by simp; omega
      have p3 : ¬ ((n : Int) = (P : Int)) := by omega
      clear p1
      go_wp2_with fail
      refine (KL.out _ (H0.out.1.call H10.out.1)).mono ?_
      rintro e w30 ⟨rfl, hb30⟩
      have H30 : Hid (Below w.heap.size w w30) := below_call0 H10.out.1 hb30
      clear hb30
      go_wp2_with fail
      go_ret
      exact ⟨rfl, H30.out⟩
  case st11x1 =>
    intro K hK
    have HK11y6 : Hid _ := hK
    clear hK
    go_simp
    refine HK11y6.out _ _ ⟨fun _ => (below_alloc0 (Below.drew (Below.refl _ _)) _), ?_⟩
    clear HK11y6 K
    try simp only [Act.put, List.setIfInBounds_toArray, List.set_cons_zero, List.set_cons_succ]
    refine wpAnyN_one (i := 0) (o := ?o0y6) (by kernel_rfl) ?hi0y6 ?hw0y6 ?st0y6
    case hi0y6 => rw [List.getElem?_toArray]; exact rfl
    case hw0y6 => exact rfl
    intro K hK
    have HK0y6 : Hid _ := hK
    clear hK
    go_simp
    refine (KS.out _).mono ?_
    rintro e w0y6 ⟨rfl, hq⟩
    have H0y6 : Hid (Below w1.heap.size w1 w0y6) := below_call0 (below_alloc0 (Below.drew (Below.refl _ _)) _) hq
    have P0y6 : Hid (Pend w0y6 (w1.heap.size)) := Pend.call (Pend.new' (W := w1.drew) (t := 25) rfl) hq
    clear hq
    go_wp2_with fail
    refine HK0y6.out _ _ ⟨fun _ => H0y6.out, ?_⟩
    clear HK0y6 K
    try simp only [Act.put, List.setIfInBounds_toArray, List.set_cons_zero, List.set_cons_succ]
    refine wpAnyN_one (i := 10) (o := ?o10y6) (by kernel_rfl) ?hi10y6 ?hw10y6 ?st10y6
    case hi10y6 => rw [List.getElem?_toArray]; exact rfl
    case hw10y6 => exact rfl
    intro K hK
    have HK10y6 : Hid _ := hK
    clear hK
    go_simp
    refine (KD.out _).mono ?_
    rintro e w10y6 ⟨rfl, hq⟩
    have H10y6 : Hid (Below w1.heap.size w1 w10y6) := below_call0 H0y6.out hq
    have P10y6 : Hid (Pend w10y6 (w1.heap.size)) := Pend.call P0y6.out hq
    clear hq
    go_wp2_with fail
    refine HK10y6.out _ _ ⟨fun _ => H10y6.out, ?_⟩
    clear HK10y6 K
    try simp only [Act.put, List.setIfInBounds_toArray, List.set_cons_zero, List.set_cons_succ]
    refine wpAnyN_one (i := 12) (o := ?o12y6) (by kernel_rfl) ?hi12y6 ?hw12y6 ?st12y6
    case hi12y6 => rw [List.getElem?_toArray]; exact rfl
    case hw12y6 => exact rfl
    intro K hK
    have HK12y6 : Hid _ := hK
    clear hK
    obtain ⟨⟨o0, o1, o2, o3⟩, ⟨f0, f1, f2, f3⟩, oz⟩ := Pend.facts P10y6.out
    try simp only [World.size_alloc] at o0 o1 o2 o3 f0 f1 f2 f3 oz
    go_simp
    refine HK12y6.out _ _ ⟨fun h => absurd h (by decide +kernel), ?_⟩
    clear HK12y6 K
    try simp only [Act.put, List.setIfInBounds_toArray, List.set_cons_zero, List.set_cons_succ]
    refine wpAnyN_done (by kernel_rfl) ?_ _
    obtain ⟨wS, hwS⟩ : ∃ y, y = ((((w10y6.setCell ⟨w1.heap.size, 0, none⟩ (.int .u64 (limb t 0 : Nat))).setCell ⟨w1.heap.size, 1, none⟩ (.int .u64 (limb t 1 : Nat))).setCell ⟨w1.heap.size, 2, none⟩ (.int .u64 (limb t 2 : Nat))).setCell ⟨w1.heap.size, 3, none⟩ (.int .u64 (limb t 3 : Nat))) := ⟨_, rfl⟩
    have HT : Hid (Own4 wS (w1.heap.size) t ∧ Below w1.heap.size w1 wS) := by rw [hwS]; exact ⟨Pend.own P10y6.out, Below.setCell (Below.setCell (Below.setCell (Below.setCell H10y6.out (Nat.le_refl _) _) (Nat.le_refl _) _) (Nat.le_refl _) _) (Nat.le_refl _) _⟩
    rw [← hwS]
    clear hwS o0 o1 o2 o3 f0 f1 f2 f3 oz
    have HW : Hid (Below w.heap.size w wS ∧ Nums wS pa (rtL cs) ∧ Own4 wS (w1.heap.size) t) := ⟨below_call0 H1.out.1 HT.out.2, H1.out.2.2.1.call HT.out.2, HT.out.1⟩
    clear HT
    go_wp2_with fail
    refine (KA.out _ (H0.out.2.2.1.call HW.out.1)).mono ?_
    rintro e w10 ⟨rfl, hb10⟩
    rw [HI.out.1]
    have H10 : Hid (Below w.heap.size w w10 ∧ Own4 w10 (w1.heap.size) t ∧ Nums w10 pa (rtL cs)) := ⟨below_call0 HW.out.1 hb10, HW.out.2.2.call hb10, HW.out.2.1.call hb10⟩
    clear hb10 HW KA
    have p1 : ¬ (n = P) := by rw [H1.out.2.2.2]; exact HI.out.2
    have p2 : ((n : Int) == (P : Int)) = false := by simp; omega
    have p3 : ¬ ((n : Int) = (P : Int)) := by omega
    clear p1
    go_wp2_with fail
    refine (KL.out _ (H0.out.1.call H10.out.1)).mono ?_
    rintro e w30 ⟨rfl, hb30⟩
    have H30 : Hid (Below w.heap.size w w30) := below_call0 H10.out.1 hb30
    clear hb30
    go_wp2_with fail
    go_ret
    exact ⟨rfl, H30.out⟩
set_option maxRecDepth 100000 in
set_option maxHeartbeats 32000000 in
theorem sh_many (a b : Option Addr) (l : List Int) (cs : List Nat) (c d x : Nat) (hc : cs.length ≤ 4398046511104) (hR : ∀ n ∈ cs, n < R256) (hl : l.length ≤ 17592186044416) (hxR : x < R256) (hb : nodesOk l = true) (hf : l.length = (rtL cs).length) (h9 : 9 < l.length) (w : World) (hG : GlobQ w) (hS : Nums w a cs) (hN : IntsAt w b l) :
    Calls Tryd.prog 8 #[.slice b l.length d, .slice a cs.length c, .agg #[.int .u64 (limb (x) 0 : Nat), .int .u64 (limb (x) 1 : Nat), .int .u64 (limb (x) 2 : Nat), .int .u64 (limb (x) 3 : Nat)]] w fun e w' => e = .returned (.bool true) ∧ Below w.heap.size w w' := by
  obtain ⟨q, hq⟩ : ∃ q, q = QQ := ⟨_, rfl⟩
  obtain ⟨m, hm⟩ : ∃ m, m = cs.length := ⟨_, rfl⟩
  obtain ⟨n, hn⟩ : ∃ n, n = l.length := ⟨_, rfl⟩
  obtain ⟨t, ht⟩ : ∃ t, t = x % QQ := ⟨_, rfl⟩
  have K1 : Hid (∀ w, Nums w a cs → Calls Tryd.prog 24 #[.slice a m c] w fun e w' => ∃ a' n' cap', e = .returned (.slice a' n' cap') ∧ n' = (rtL cs).length ∧ RowN w' w.heap.size a' (rtL cs) cap' ∧ Below w.heap.size w w') := fun w h => by rw [hm]; exact right_any a cs c hc hR w h
  have KS : Hid (∀ w, Calls Tryd.prog 25 #[] w fun e w' => e = .returned (.agg #[.int .u64 (limb (q) 0 : Nat), .int .u64 (limb (q) 1 : Nat), .int .u64 (limb (q) 2 : Nat), .int .u64 (limb (q) 3 : Nat), .int .u64 (limb (R256 - (q)) 0 : Nat), .int .u64 (limb (R256 - (q)) 1 : Nat), .int .u64 (limb (R256 - (q)) 2 : Nat), .int .u64 (limb (R256 - (q)) 3 : Nat)]) ∧ Below w.heap.size w w') := fun w => by rw [hq]; exact scalars2_any w
  have KD : Hid (∀ w, Calls Tryd.prog 26 #[.agg #[.int .u64 (limb (q) 0 : Nat), .int .u64 (limb (q) 1 : Nat), .int .u64 (limb (q) 2 : Nat), .int .u64 (limb (q) 3 : Nat), .int .u64 (limb (R256 - (q)) 0 : Nat), .int .u64 (limb (R256 - (q)) 1 : Nat), .int .u64 (limb (R256 - (q)) 2 : Nat), .int .u64 (limb (R256 - (q)) 3 : Nat)], .agg #[.int .u64 (limb x 0 : Nat), .int .u64 (limb x 1 : Nat), .int .u64 (limb x 2 : Nat), .int .u64 (limb x 3 : Nat), .int .u64 0, .int .u64 0, .int .u64 0, .int .u64 0]] w fun e w' => e = .returned (.agg #[.int .u64 (limb (t) 0 : Nat), .int .u64 (limb (t) 1 : Nat), .int .u64 (limb (t) 2 : Nat), .int .u64 (limb (t) 3 : Nat)]) ∧ Below w.heap.size w w') := fun w => by rw [hq, ht]; exact reduce4 x hxR w
  have KA : Hid (∀ w, IntsAt w b l → Calls Tryd.prog 27 #[.slice b n d] w fun e w' => e = .returned (.bool (nodesOk l)) ∧ Below w.heap.size w w') := fun w h => by rw [hn]; exact among_any b l d hl w h
  have KL : Hid (∀ w, GlobQ w → Calls Tryd.prog 13 #[] w fun e w' => e = .returned (.bool true) ∧ Below w.heap.size w w') := fun w h => line_any w h
  have H0 : Hid (GlobQ w ∧ Nums w a cs ∧ IntsAt w b l ∧ n = l.length ∧ t < QQ ∧ q = QQ) := ⟨hG, hS, hN, hn, by rw [ht]; exact Nat.mod_lt _ QQ_pos, hq⟩
  have HB : Hid (Below w.heap.size w (w.alloc (.cells #[.int .u64 (limb x 0 : Nat), .int .u64 (limb x 1 : Nat), .int .u64 (limb x 2 : Nat), .int .u64 (limb x 3 : Nat)] 25)) ∧ Own4 (w.alloc (.cells #[.int .u64 (limb x 0 : Nat), .int .u64 (limb x 1 : Nat), .int .u64 (limb x 2 : Nat), .int .u64 (limb x 3 : Nat)] 25)) w.heap.size x) := ⟨below_alloc0 (Below.refl _ _) _, Own4.new _ _ _⟩
  have n43 : (n : Int) ≤ 17592186044416 := by omega
  have HI : Hid (nodesOk l = true ∧ n = (rtL cs).length) := ⟨hb, by rw [hn]; exact hf⟩
  have p9 : (9 : Int) < (n : Int) := by omega
  clear hb hf h9
  rw [← hm, ← hn]
  clear hc hR hxR hG hS hN hq hm ht hn hl
  go_enter Tryd.func8, Tryd.ntmps8
  go_wp2_with fail
  refine (K1.out _ (H0.out.2.1.call HB.out.1)).mono ?_
  rintro e w1 ⟨pa, P, pc, rfl, hP, hRow, hb1⟩
  have H1 : Hid (Below w.heap.size w w1 ∧ Own4 w1 w.heap.size x ∧ Nums w1 pa (rtL cs) ∧ P = (rtL cs).length) := ⟨below_call0 HB.out.1 hb1, HB.out.2.call hb1, hRow.nums, hP⟩
  clear hb1 hRow hP HB K1
  go_wp2_with fail
  refine wp_region_N (fun w' => Below w1.heap.size w1 w') 12 13 rfl (by kernel_rfl) ?_
  refine wpAnyN_take (i := 1) (oi := ?o1) (v := ?v1) ?hi1 (by kernel_rfl) (by kernel_rfl) (by kernel_rfl) (by kernel_rfl) (by decide) (by kernel_rfl) ?hQ1 ?hy1 (Below.drew (Below.refl _ _)) ?more1
  case hi1 => rw [List.getElem?_toArray]; exact rfl
  case hQ1 => exact fun _ _ _ h => h
  case hy1 =>
    refine Or.inl ⟨by rfl, ?_⟩
    intro w' hSw
    obtain ⟨⟨x0, x1, x2, x3⟩, _, xz⟩ := (H1.out.2.1.call hSw).facts
    clear hSw
    go_simp
    try with_reducible rfl
  simp only [Act.put, List.setIfInBounds_toArray, List.set_cons_zero, List.set_cons_succ]
  refine wpAnyN_take (i := 2) (oi := ?o2) (v := ?v2) ?hi2 (by kernel_rfl) (by kernel_rfl) (by kernel_rfl) (by kernel_rfl) (by decide) (by kernel_rfl) ?hQ2 ?hy2 (Below.drew (Below.refl _ _)) ?more2
  case hi2 => rw [List.getElem?_toArray]; exact rfl
  case hQ2 => exact fun _ _ _ h => h
  case hy2 =>
    refine Or.inl ⟨by rfl, ?_⟩
    intro w' hSw
    obtain ⟨⟨x0, x1, x2, x3⟩, _, xz⟩ := (H1.out.2.1.call hSw).facts
    clear hSw
    go_simp
    try with_reducible rfl
  simp only [Act.put, List.setIfInBounds_toArray, List.set_cons_zero, List.set_cons_succ]
  refine wpAnyN_take (i := 3) (oi := ?o3) (v := ?v3) ?hi3 (by kernel_rfl) (by kernel_rfl) (by kernel_rfl) (by kernel_rfl) (by decide) (by kernel_rfl) ?hQ3 ?hy3 (Below.drew (Below.refl _ _)) ?more3
  case hi3 => rw [List.getElem?_toArray]; exact rfl
  case hQ3 => exact fun _ _ _ h => h
  case hy3 =>
    refine Or.inl ⟨by rfl, ?_⟩
    intro w' hSw
    obtain ⟨⟨x0, x1, x2, x3⟩, _, xz⟩ := (H1.out.2.1.call hSw).facts
    clear hSw
    go_simp
    try with_reducible rfl
  simp only [Act.put, List.setIfInBounds_toArray, List.set_cons_zero, List.set_cons_succ]
  refine wpAnyN_take (i := 4) (oi := ?o4) (v := ?v4) ?hi4 (by kernel_rfl) (by kernel_rfl) (by kernel_rfl) (by kernel_rfl) (by decide) (by kernel_rfl) ?hQ4 ?hy4 (Below.drew (Below.refl _ _)) ?more4
  case hi4 => rw [List.getElem?_toArray]; exact rfl
  case hQ4 => exact fun _ _ _ h => h
  case hy4 =>
    refine Or.inl ⟨by rfl, ?_⟩
    intro w' hSw
    obtain ⟨⟨x0, x1, x2, x3⟩, _, xz⟩ := (H1.out.2.1.call hSw).facts
    clear hSw
    go_simp
    try with_reducible rfl
  simp only [Act.put, List.setIfInBounds_toArray, List.set_cons_zero, List.set_cons_succ]
  refine wpAnyN_take (i := 5) (oi := ?o5) (v := ?v5) ?hi5 (by kernel_rfl) (by kernel_rfl) (by kernel_rfl) (by kernel_rfl) (by decide) (by kernel_rfl) ?hQ5 ?hy5 (Below.drew (Below.refl _ _)) ?more5
  case hi5 => rw [List.getElem?_toArray]; exact rfl
  case hQ5 => exact fun _ _ _ h => h
  case hy5 =>
    refine Or.inl ⟨by rfl, ?_⟩
    intro w' hSw
    obtain ⟨⟨x0, x1, x2, x3⟩, _, xz⟩ := (H1.out.2.1.call hSw).facts
    clear hSw
    go_simp
    try with_reducible rfl
  simp only [Act.put, List.setIfInBounds_toArray, List.set_cons_zero, List.set_cons_succ]
  refine wpAnyN_take (i := 6) (oi := ?o6) (v := ?v6) ?hi6 (by kernel_rfl) (by kernel_rfl) (by kernel_rfl) (by kernel_rfl) (by decide) (by kernel_rfl) ?hQ6 ?hy6 (Below.drew (Below.refl _ _)) ?more6
  case hi6 => rw [List.getElem?_toArray]; exact rfl
  case hQ6 => exact fun _ _ _ h => h
  case hy6 =>
    refine Or.inl ⟨by rfl, ?_⟩
    intro w' hSw
    obtain ⟨⟨x0, x1, x2, x3⟩, _, xz⟩ := (H1.out.2.1.call hSw).facts
    clear hSw
    go_simp
    try with_reducible rfl
  simp only [Act.put, List.setIfInBounds_toArray, List.set_cons_zero, List.set_cons_succ]
  refine wpAnyN_take (i := 7) (oi := ?o7) (v := ?v7) ?hi7 (by kernel_rfl) (by kernel_rfl) (by kernel_rfl) (by kernel_rfl) (by decide) (by kernel_rfl) ?hQ7 ?hy7 (Below.drew (Below.refl _ _)) ?more7
  case hi7 => rw [List.getElem?_toArray]; exact rfl
  case hQ7 => exact fun _ _ _ h => h
  case hy7 =>
    refine Or.inl ⟨by rfl, ?_⟩
    intro w' hSw
    obtain ⟨⟨x0, x1, x2, x3⟩, _, xz⟩ := (H1.out.2.1.call hSw).facts
    clear hSw
    go_simp
    try with_reducible rfl
  simp only [Act.put, List.setIfInBounds_toArray, List.set_cons_zero, List.set_cons_succ]
  refine wpAnyN_take (i := 8) (oi := ?o8) (v := ?v8) ?hi8 (by kernel_rfl) (by kernel_rfl) (by kernel_rfl) (by kernel_rfl) (by decide) (by kernel_rfl) ?hQ8 ?hy8 (Below.drew (Below.refl _ _)) ?more8
  case hi8 => rw [List.getElem?_toArray]; exact rfl
  case hQ8 => exact fun _ _ _ h => h
  case hy8 =>
    refine Or.inl ⟨by rfl, ?_⟩
    intro w' hSw
    obtain ⟨⟨x0, x1, x2, x3⟩, _, xz⟩ := (H1.out.2.1.call hSw).facts
    clear hSw
    go_simp
    try with_reducible rfl
  simp only [Act.put, List.setIfInBounds_toArray, List.set_cons_zero, List.set_cons_succ]
  refine wpAnyN_take (i := 9) (oi := ?o9) (v := ?v9) ?hi9 (by kernel_rfl) (by kernel_rfl) (by kernel_rfl) (by kernel_rfl) (by decide) (by kernel_rfl) ?hQ9 ?hy9 (Below.drew (Below.refl _ _)) ?more9
  case hi9 => rw [List.getElem?_toArray]; exact rfl
  case hQ9 => exact fun _ _ _ h => h
  case hy9 =>
    refine Or.inl ⟨by rfl, ?_⟩
    intro w' hSw
    obtain ⟨⟨x0, x1, x2, x3⟩, _, xz⟩ := (H1.out.2.1.call hSw).facts
    clear hSw
    go_simp
    try with_reducible rfl
  simp only [Act.put, List.setIfInBounds_toArray, List.set_cons_zero, List.set_cons_succ]
  refine wpAnyN_two (i := 0) (j := 11) (o := ?o0x1) (p := ?o11x1) (by kernel_rfl) ?hi0x1 ?hi11x1 ?hw0x1 ?hw11x1 ?st0x1 ?st11x1
  case hi0x1 => rw [List.getElem?_toArray]; exact rfl
  case hw0x1 => exact rfl
  case hi11x1 => rw [List.getElem?_toArray]; exact rfl
  case hw11x1 => exact rfl
  case st0x1 =>
    intro K hK
    have HK0y2 : Hid _ := hK
    clear hK
    go_simp
    refine (KS.out _).mono ?_
    rintro e w0y2 ⟨rfl, hq⟩
    have H0y2 : Hid (Below w1.heap.size w1 w0y2) := below_call0 (Below.drew (Below.refl _ _)) hq
    clear hq
    go_wp2_with fail
    refine HK0y2.out _ _ ⟨fun _ => H0y2.out, ?_⟩
    clear HK0y2 K
    try simp only [Act.put, List.setIfInBounds_toArray, List.set_cons_zero, List.set_cons_succ]
    refine wpAnyN_two (i := 10) (j := 11) (o := ?o10y2x3) (p := ?o11y2x3) (by kernel_rfl) ?hi10y2x3 ?hi11y2x3 ?hw10y2x3 ?hw11y2x3 ?st10y2x3 ?st11y2x3
    case hi10y2x3 => rw [List.getElem?_toArray]; exact rfl
    case hw10y2x3 => exact rfl
    case hi11y2x3 => rw [List.getElem?_toArray]; exact rfl
    case hw11y2x3 => exact rfl
    case st10y2x3 =>
      intro K hK
      have HK10y4 : Hid _ := hK
      clear hK
      go_simp
      refine (KD.out _).mono ?_
      rintro e w10y4 ⟨rfl, hq⟩
      have H10y4 : Hid (Below w1.heap.size w1 w10y4) := below_call0 H0y2.out hq
      clear hq
      go_wp2_with fail
      refine HK10y4.out _ _ ⟨fun _ => H10y4.out, ?_⟩
      clear HK10y4 K
      try simp only [Act.put, List.setIfInBounds_toArray, List.set_cons_zero, List.set_cons_succ]
      refine wpAnyN_one (i := 11) (o := ?o11y4) (by kernel_rfl) ?hi11y4 ?hw11y4 ?st11y4
      case hi11y4 => rw [List.getElem?_toArray]; exact rfl
      case hw11y4 => exact rfl
      intro K hK
      have HK11y4 : Hid _ := hK
      clear hK
      go_simp
      refine HK11y4.out _ _ ⟨fun _ => (below_alloc0 H10y4.out _), ?_⟩
      clear HK11y4 K
      try simp only [Act.put, List.setIfInBounds_toArray, List.set_cons_zero, List.set_cons_succ]
      refine wpAnyN_one (i := 12) (o := ?o12y4) (by kernel_rfl) ?hi12y4 ?hw12y4 ?st12y4
      case hi12y4 => rw [List.getElem?_toArray]; exact rfl
      case hw12y4 => exact rfl
      intro K hK
      have HK12y4 : Hid _ := hK
      clear hK
      obtain ⟨⟨o0, o1, o2, o3⟩, ⟨f0, f1, f2, f3⟩, oz⟩ := Pend.facts (Pend.new' (W := w10y4) (t := 25) rfl)
      try simp only [World.size_alloc] at o0 o1 o2 o3 f0 f1 f2 f3 oz
      go_simp
      refine HK12y4.out _ _ ⟨fun h => absurd h (by decide +kernel), ?_⟩
      clear HK12y4 K
      try simp only [Act.put, List.setIfInBounds_toArray, List.set_cons_zero, List.set_cons_succ]
      refine wpAnyN_done (by kernel_rfl) ?_ _
      obtain ⟨wS, hwS⟩ : ∃ y, y = w10y4.alloc (.cells #[.int .u64 (limb t 0 : Nat), .int .u64 (limb t 1 : Nat), .int .u64 (limb t 2 : Nat), .int .u64 (limb t 3 : Nat)] 25) := ⟨_, rfl⟩
      have HT : Hid (Own4 wS (w10y4.heap.size) t ∧ Below w1.heap.size w1 wS) := by rw [hwS]; exact ⟨Own4.new' rfl, below_alloc0 H10y4.out _⟩
      rw [← hwS]
      clear hwS o0 o1 o2 o3 f0 f1 f2 f3 oz
      have HW : Hid (Below w.heap.size w wS ∧ Nums wS pa (rtL cs) ∧ Own4 wS (w10y4.heap.size) t) := ⟨below_call0 H1.out.1 HT.out.2, H1.out.2.2.1.call HT.out.2, HT.out.1⟩
      clear HT
      go_wp2_with fail
      refine (KA.out _ (H0.out.2.2.1.call HW.out.1)).mono ?_
      rintro e w10 ⟨rfl, hb10⟩
      rw [HI.out.1]
      have H10 : Hid (Below w.heap.size w w10 ∧ Own4 w10 (w10y4.heap.size) t ∧ Nums w10 pa (rtL cs)) := ⟨below_call0 HW.out.1 hb10, HW.out.2.2.call hb10, HW.out.2.1.call hb10⟩
      clear hb10 HW KA
      have hPn : n = P := by rw [H1.out.2.2.2]; exact HI.out.2
      subst hPn
      go_wp2_with fail
      refine (KL.out _ (H0.out.1.call H10.out.1)).mono ?_
      rintro e w30 ⟨rfl, hb30⟩
      have H30 : Hid (Below w.heap.size w w30) := below_call0 H10.out.1 hb30
      clear hb30
      go_wp2_with fail
      go_ret
      exact ⟨rfl, H30.out⟩
    case st11y2x3 =>
      intro K hK
      have HK11y5 : Hid _ := hK
      clear hK
      go_simp
      refine HK11y5.out _ _ ⟨fun _ => (below_alloc0 H0y2.out _), ?_⟩
      clear HK11y5 K
      try simp only [Act.put, List.setIfInBounds_toArray, List.set_cons_zero, List.set_cons_succ]
      refine wpAnyN_one (i := 10) (o := ?o10y5) (by kernel_rfl) ?hi10y5 ?hw10y5 ?st10y5
      case hi10y5 => rw [List.getElem?_toArray]; exact rfl
      case hw10y5 => exact rfl
      intro K hK
      have HK10y5 : Hid _ := hK
      clear hK
      go_simp
      refine (KD.out _).mono ?_
      rintro e w10y5 ⟨rfl, hq⟩
      have H10y5 : Hid (Below w1.heap.size w1 w10y5) := below_call0 (below_alloc0 H0y2.out _) hq
      have P10y5 : Hid (Pend w10y5 (w0y2.heap.size)) := Pend.call (Pend.new' (W := w0y2) (t := 25) rfl) hq
      clear hq
      go_wp2_with fail
      refine HK10y5.out _ _ ⟨fun _ => H10y5.out, ?_⟩
      clear HK10y5 K
      try simp only [Act.put, List.setIfInBounds_toArray, List.set_cons_zero, List.set_cons_succ]
      refine wpAnyN_one (i := 12) (o := ?o12y5) (by kernel_rfl) ?hi12y5 ?hw12y5 ?st12y5
      case hi12y5 => rw [List.getElem?_toArray]; exact rfl
      case hw12y5 => exact rfl
      intro K hK
      have HK12y5 : Hid _ := hK
      clear hK
      obtain ⟨⟨o0, o1, o2, o3⟩, ⟨f0, f1, f2, f3⟩, oz⟩ := Pend.facts P10y5.out
      try simp only [World.size_alloc] at o0 o1 o2 o3 f0 f1 f2 f3 oz
      go_simp
      refine HK12y5.out _ _ ⟨fun h => absurd h (by decide +kernel), ?_⟩
      clear HK12y5 K
      try simp only [Act.put, List.setIfInBounds_toArray, List.set_cons_zero, List.set_cons_succ]
      refine wpAnyN_done (by kernel_rfl) ?_ _
      obtain ⟨wS, hwS⟩ : ∃ y, y = ((((w10y5.setCell ⟨w0y2.heap.size, 0, none⟩ (.int .u64 (limb t 0 : Nat))).setCell ⟨w0y2.heap.size, 1, none⟩ (.int .u64 (limb t 1 : Nat))).setCell ⟨w0y2.heap.size, 2, none⟩ (.int .u64 (limb t 2 : Nat))).setCell ⟨w0y2.heap.size, 3, none⟩ (.int .u64 (limb t 3 : Nat))) := ⟨_, rfl⟩
      have HT : Hid (Own4 wS (w0y2.heap.size) t ∧ Below w1.heap.size w1 wS) := by rw [hwS]; exact ⟨Pend.own P10y5.out, Below.setCell (Below.setCell (Below.setCell (Below.setCell H10y5.out (Below.size H0y2.out) _) (Below.size H0y2.out) _) (Below.size H0y2.out) _) (Below.size H0y2.out) _⟩
      rw [← hwS]
      clear hwS o0 o1 o2 o3 f0 f1 f2 f3 oz
      have HW : Hid (Below w.heap.size w wS ∧ Nums wS pa (rtL cs) ∧ Own4 wS (w0y2.heap.size) t) := ⟨below_call0 H1.out.1 HT.out.2, H1.out.2.2.1.call HT.out.2, HT.out.1⟩
      clear HT
      go_wp2_with fail
      refine (KA.out _ (H0.out.2.2.1.call HW.out.1)).mono ?_
      rintro e w10 ⟨rfl, hb10⟩
      rw [HI.out.1]
      have H10 : Hid (Below w.heap.size w w10 ∧ Own4 w10 (w0y2.heap.size) t ∧ Nums w10 pa (rtL cs)) := ⟨below_call0 HW.out.1 hb10, HW.out.2.2.call hb10, HW.out.2.1.call hb10⟩
      clear hb10 HW KA
      have hPn : n = P := by rw [H1.out.2.2.2]; exact HI.out.2
      subst hPn
      go_wp2_with fail
      refine (KL.out _ (H0.out.1.call H10.out.1)).mono ?_
      rintro e w30 ⟨rfl, hb30⟩
      have H30 : Hid (Below w.heap.size w w30) := below_call0 H10.out.1 hb30
      clear hb30
      go_wp2_with fail
      go_ret
      exact ⟨rfl, H30.out⟩
  case st11x1 =>
    intro K hK
    have HK11y6 : Hid _ := hK
    clear hK
    go_simp
    refine HK11y6.out _ _ ⟨fun _ => (below_alloc0 (Below.drew (Below.refl _ _)) _), ?_⟩
    clear HK11y6 K
    try simp only [Act.put, List.setIfInBounds_toArray, List.set_cons_zero, List.set_cons_succ]
    refine wpAnyN_one (i := 0) (o := ?o0y6) (by kernel_rfl) ?hi0y6 ?hw0y6 ?st0y6
    case hi0y6 => rw [List.getElem?_toArray]; exact rfl
    case hw0y6 => exact rfl
    intro K hK
    have HK0y6 : Hid _ := hK
    clear hK
    go_simp
    refine (KS.out _).mono ?_
    rintro e w0y6 ⟨rfl, hq⟩
    have H0y6 : Hid (Below w1.heap.size w1 w0y6) := below_call0 (below_alloc0 (Below.drew (Below.refl _ _)) _) hq
    have P0y6 : Hid (Pend w0y6 (w1.heap.size)) := Pend.call (Pend.new' (W := w1.drew) (t := 25) rfl) hq
    clear hq
    go_wp2_with fail
    refine HK0y6.out _ _ ⟨fun _ => H0y6.out, ?_⟩
    clear HK0y6 K
    try simp only [Act.put, List.setIfInBounds_toArray, List.set_cons_zero, List.set_cons_succ]
    refine wpAnyN_one (i := 10) (o := ?o10y6) (by kernel_rfl) ?hi10y6 ?hw10y6 ?st10y6
    case hi10y6 => rw [List.getElem?_toArray]; exact rfl
    case hw10y6 => exact rfl
    intro K hK
    have HK10y6 : Hid _ := hK
    clear hK
    go_simp
    refine (KD.out _).mono ?_
    rintro e w10y6 ⟨rfl, hq⟩
    have H10y6 : Hid (Below w1.heap.size w1 w10y6) := below_call0 H0y6.out hq
    have P10y6 : Hid (Pend w10y6 (w1.heap.size)) := Pend.call P0y6.out hq
    clear hq
    go_wp2_with fail
    refine HK10y6.out _ _ ⟨fun _ => H10y6.out, ?_⟩
    clear HK10y6 K
    try simp only [Act.put, List.setIfInBounds_toArray, List.set_cons_zero, List.set_cons_succ]
    refine wpAnyN_one (i := 12) (o := ?o12y6) (by kernel_rfl) ?hi12y6 ?hw12y6 ?st12y6
    case hi12y6 => rw [List.getElem?_toArray]; exact rfl
    case hw12y6 => exact rfl
    intro K hK
    have HK12y6 : Hid _ := hK
    clear hK
    obtain ⟨⟨o0, o1, o2, o3⟩, ⟨f0, f1, f2, f3⟩, oz⟩ := Pend.facts P10y6.out
    try simp only [World.size_alloc] at o0 o1 o2 o3 f0 f1 f2 f3 oz
    go_simp
    refine HK12y6.out _ _ ⟨fun h => absurd h (by decide +kernel), ?_⟩
    clear HK12y6 K
    try simp only [Act.put, List.setIfInBounds_toArray, List.set_cons_zero, List.set_cons_succ]
    refine wpAnyN_done (by kernel_rfl) ?_ _
    obtain ⟨wS, hwS⟩ : ∃ y, y = ((((w10y6.setCell ⟨w1.heap.size, 0, none⟩ (.int .u64 (limb t 0 : Nat))).setCell ⟨w1.heap.size, 1, none⟩ (.int .u64 (limb t 1 : Nat))).setCell ⟨w1.heap.size, 2, none⟩ (.int .u64 (limb t 2 : Nat))).setCell ⟨w1.heap.size, 3, none⟩ (.int .u64 (limb t 3 : Nat))) := ⟨_, rfl⟩
    have HT : Hid (Own4 wS (w1.heap.size) t ∧ Below w1.heap.size w1 wS) := by rw [hwS]; exact ⟨Pend.own P10y6.out, Below.setCell (Below.setCell (Below.setCell (Below.setCell H10y6.out (Nat.le_refl _) _) (Nat.le_refl _) _) (Nat.le_refl _) _) (Nat.le_refl _) _⟩
    rw [← hwS]
    clear hwS o0 o1 o2 o3 f0 f1 f2 f3 oz
    have HW : Hid (Below w.heap.size w wS ∧ Nums wS pa (rtL cs) ∧ Own4 wS (w1.heap.size) t) := ⟨below_call0 H1.out.1 HT.out.2, H1.out.2.2.1.call HT.out.2, HT.out.1⟩
    clear HT
    go_wp2_with fail
    refine (KA.out _ (H0.out.2.2.1.call HW.out.1)).mono ?_
    rintro e w10 ⟨rfl, hb10⟩
    rw [HI.out.1]
    have H10 : Hid (Below w.heap.size w w10 ∧ Own4 w10 (w1.heap.size) t ∧ Nums w10 pa (rtL cs)) := ⟨below_call0 HW.out.1 hb10, HW.out.2.2.call hb10, HW.out.2.1.call hb10⟩
    clear hb10 HW KA
    have hPn : n = P := by rw [H1.out.2.2.2]; exact HI.out.2
    subst hPn
    go_wp2_with fail
    refine (KL.out _ (H0.out.1.call H10.out.1)).mono ?_
    rintro e w30 ⟨rfl, hb30⟩
    have H30 : Hid (Below w.heap.size w w30) := below_call0 H10.out.1 hb30
    clear hb30
    go_wp2_with fail
    go_ret
    exact ⟨rfl, H30.out⟩
set_option maxRecDepth 100000 in
set_option maxHeartbeats 32000000 in
theorem sh_in (a b : Option Addr) (l : List Int) (cs : List Nat) (c d x : Nat) (hc : cs.length ≤ 4398046511104) (hR : ∀ n ∈ cs, n < R256) (hl : l.length ≤ 17592186044416) (hxR : x < R256) (hb : nodesOk l = true) (hf : l.length = (rtL cs).length) (h9 : l.length ≤ 9) (w : World) (hG : GlobQ w) (hS : Nums w a cs) (hN : IntsAt w b l) :
    Calls Tryd.prog 8 #[.slice b l.length d, .slice a cs.length c, .agg #[.int .u64 (limb (x) 0 : Nat), .int .u64 (limb (x) 1 : Nat), .int .u64 (limb (x) 2 : Nat), .int .u64 (limb (x) 3 : Nat)]] w fun e w' => e = .returned (.bool true) ∧ Below w.heap.size w w' := by
  obtain ⟨q, hq⟩ : ∃ q, q = QQ := ⟨_, rfl⟩
  obtain ⟨m, hm⟩ : ∃ m, m = cs.length := ⟨_, rfl⟩
  obtain ⟨n, hn⟩ : ∃ n, n = l.length := ⟨_, rfl⟩
  obtain ⟨t, ht⟩ : ∃ t, t = x % QQ := ⟨_, rfl⟩
  have K1 : Hid (∀ w, Nums w a cs → Calls Tryd.prog 24 #[.slice a m c] w fun e w' => ∃ a' n' cap', e = .returned (.slice a' n' cap') ∧ n' = (rtL cs).length ∧ RowN w' w.heap.size a' (rtL cs) cap' ∧ Below w.heap.size w w') := fun w h => by rw [hm]; exact right_any a cs c hc hR w h
  have KS : Hid (∀ w, Calls Tryd.prog 25 #[] w fun e w' => e = .returned (.agg #[.int .u64 (limb (q) 0 : Nat), .int .u64 (limb (q) 1 : Nat), .int .u64 (limb (q) 2 : Nat), .int .u64 (limb (q) 3 : Nat), .int .u64 (limb (R256 - (q)) 0 : Nat), .int .u64 (limb (R256 - (q)) 1 : Nat), .int .u64 (limb (R256 - (q)) 2 : Nat), .int .u64 (limb (R256 - (q)) 3 : Nat)]) ∧ Below w.heap.size w w') := fun w => by rw [hq]; exact scalars2_any w
  have KD : Hid (∀ w, Calls Tryd.prog 26 #[.agg #[.int .u64 (limb (q) 0 : Nat), .int .u64 (limb (q) 1 : Nat), .int .u64 (limb (q) 2 : Nat), .int .u64 (limb (q) 3 : Nat), .int .u64 (limb (R256 - (q)) 0 : Nat), .int .u64 (limb (R256 - (q)) 1 : Nat), .int .u64 (limb (R256 - (q)) 2 : Nat), .int .u64 (limb (R256 - (q)) 3 : Nat)], .agg #[.int .u64 (limb x 0 : Nat), .int .u64 (limb x 1 : Nat), .int .u64 (limb x 2 : Nat), .int .u64 (limb x 3 : Nat), .int .u64 0, .int .u64 0, .int .u64 0, .int .u64 0]] w fun e w' => e = .returned (.agg #[.int .u64 (limb (t) 0 : Nat), .int .u64 (limb (t) 1 : Nat), .int .u64 (limb (t) 2 : Nat), .int .u64 (limb (t) 3 : Nat)]) ∧ Below w.heap.size w w') := fun w => by rw [hq, ht]; exact reduce4 x hxR w
  have KA : Hid (∀ w, IntsAt w b l → Calls Tryd.prog 27 #[.slice b n d] w fun e w' => e = .returned (.bool (nodesOk l)) ∧ Below w.heap.size w w') := fun w h => by rw [hn]; exact among_any b l d hl w h
  have KL : Hid (∀ w, GlobQ w → Calls Tryd.prog 13 #[] w fun e w' => e = .returned (.bool true) ∧ Below w.heap.size w w') := fun w h => line_any w h
  have H0 : Hid (GlobQ w ∧ Nums w a cs ∧ IntsAt w b l ∧ n = l.length ∧ t < QQ ∧ q = QQ) := ⟨hG, hS, hN, hn, by rw [ht]; exact Nat.mod_lt _ QQ_pos, hq⟩
  have HB : Hid (Below w.heap.size w (w.alloc (.cells #[.int .u64 (limb x 0 : Nat), .int .u64 (limb x 1 : Nat), .int .u64 (limb x 2 : Nat), .int .u64 (limb x 3 : Nat)] 25)) ∧ Own4 (w.alloc (.cells #[.int .u64 (limb x 0 : Nat), .int .u64 (limb x 1 : Nat), .int .u64 (limb x 2 : Nat), .int .u64 (limb x 3 : Nat)] 25)) w.heap.size x) := ⟨below_alloc0 (Below.refl _ _) _, Own4.new _ _ _⟩
  have n43 : (n : Int) ≤ 17592186044416 := by omega
  have HI : Hid (nodesOk l = true ∧ n = (rtL cs).length ∧ n ≤ 9) := ⟨hb, by rw [hn]; exact hf, by omega⟩
  have p9 : ¬ ((9 : Int) < (n : Int)) := by omega
  have n9 : (n : Int) ≤ 9 := by omega
  clear hb hf h9
  rw [← hm, ← hn]
  clear hc hR hxR hG hS hN hq hm ht hn hl
  go_enter Tryd.func8, Tryd.ntmps8
  go_wp2_with fail
  refine (K1.out _ (H0.out.2.1.call HB.out.1)).mono ?_
  rintro e w1 ⟨pa, P, pc, rfl, hP, hRow, hb1⟩
  have H1 : Hid (Below w.heap.size w w1 ∧ Own4 w1 w.heap.size x ∧ Nums w1 pa (rtL cs) ∧ P = (rtL cs).length) := ⟨below_call0 HB.out.1 hb1, HB.out.2.call hb1, hRow.nums, hP⟩
  clear hb1 hRow hP HB K1
  go_wp2_with fail
  refine wp_region_N (fun w' => Below w1.heap.size w1 w') 12 13 rfl (by kernel_rfl) ?_
  refine wpAnyN_take (i := 1) (oi := ?o1) (v := ?v1) ?hi1 (by kernel_rfl) (by kernel_rfl) (by kernel_rfl) (by kernel_rfl) (by decide) (by kernel_rfl) ?hQ1 ?hy1 (Below.drew (Below.refl _ _)) ?more1
  case hi1 => rw [List.getElem?_toArray]; exact rfl
  case hQ1 => exact fun _ _ _ h => h
  case hy1 =>
    refine Or.inl ⟨by rfl, ?_⟩
    intro w' hSw
    obtain ⟨⟨x0, x1, x2, x3⟩, _, xz⟩ := (H1.out.2.1.call hSw).facts
    clear hSw
    go_simp
    try with_reducible rfl
  simp only [Act.put, List.setIfInBounds_toArray, List.set_cons_zero, List.set_cons_succ]
  refine wpAnyN_take (i := 2) (oi := ?o2) (v := ?v2) ?hi2 (by kernel_rfl) (by kernel_rfl) (by kernel_rfl) (by kernel_rfl) (by decide) (by kernel_rfl) ?hQ2 ?hy2 (Below.drew (Below.refl _ _)) ?more2
  case hi2 => rw [List.getElem?_toArray]; exact rfl
  case hQ2 => exact fun _ _ _ h => h
  case hy2 =>
    refine Or.inl ⟨by rfl, ?_⟩
    intro w' hSw
    obtain ⟨⟨x0, x1, x2, x3⟩, _, xz⟩ := (H1.out.2.1.call hSw).facts
    clear hSw
    go_simp
    try with_reducible rfl
  simp only [Act.put, List.setIfInBounds_toArray, List.set_cons_zero, List.set_cons_succ]
  refine wpAnyN_take (i := 3) (oi := ?o3) (v := ?v3) ?hi3 (by kernel_rfl) (by kernel_rfl) (by kernel_rfl) (by kernel_rfl) (by decide) (by kernel_rfl) ?hQ3 ?hy3 (Below.drew (Below.refl _ _)) ?more3
  case hi3 => rw [List.getElem?_toArray]; exact rfl
  case hQ3 => exact fun _ _ _ h => h
  case hy3 =>
    refine Or.inl ⟨by rfl, ?_⟩
    intro w' hSw
    obtain ⟨⟨x0, x1, x2, x3⟩, _, xz⟩ := (H1.out.2.1.call hSw).facts
    clear hSw
    go_simp
    try with_reducible rfl
  simp only [Act.put, List.setIfInBounds_toArray, List.set_cons_zero, List.set_cons_succ]
  refine wpAnyN_take (i := 4) (oi := ?o4) (v := ?v4) ?hi4 (by kernel_rfl) (by kernel_rfl) (by kernel_rfl) (by kernel_rfl) (by decide) (by kernel_rfl) ?hQ4 ?hy4 (Below.drew (Below.refl _ _)) ?more4
  case hi4 => rw [List.getElem?_toArray]; exact rfl
  case hQ4 => exact fun _ _ _ h => h
  case hy4 =>
    refine Or.inl ⟨by rfl, ?_⟩
    intro w' hSw
    obtain ⟨⟨x0, x1, x2, x3⟩, _, xz⟩ := (H1.out.2.1.call hSw).facts
    clear hSw
    go_simp
    try with_reducible rfl
  simp only [Act.put, List.setIfInBounds_toArray, List.set_cons_zero, List.set_cons_succ]
  refine wpAnyN_take (i := 5) (oi := ?o5) (v := ?v5) ?hi5 (by kernel_rfl) (by kernel_rfl) (by kernel_rfl) (by kernel_rfl) (by decide) (by kernel_rfl) ?hQ5 ?hy5 (Below.drew (Below.refl _ _)) ?more5
  case hi5 => rw [List.getElem?_toArray]; exact rfl
  case hQ5 => exact fun _ _ _ h => h
  case hy5 =>
    refine Or.inl ⟨by rfl, ?_⟩
    intro w' hSw
    obtain ⟨⟨x0, x1, x2, x3⟩, _, xz⟩ := (H1.out.2.1.call hSw).facts
    clear hSw
    go_simp
    try with_reducible rfl
  simp only [Act.put, List.setIfInBounds_toArray, List.set_cons_zero, List.set_cons_succ]
  refine wpAnyN_take (i := 6) (oi := ?o6) (v := ?v6) ?hi6 (by kernel_rfl) (by kernel_rfl) (by kernel_rfl) (by kernel_rfl) (by decide) (by kernel_rfl) ?hQ6 ?hy6 (Below.drew (Below.refl _ _)) ?more6
  case hi6 => rw [List.getElem?_toArray]; exact rfl
  case hQ6 => exact fun _ _ _ h => h
  case hy6 =>
    refine Or.inl ⟨by rfl, ?_⟩
    intro w' hSw
    obtain ⟨⟨x0, x1, x2, x3⟩, _, xz⟩ := (H1.out.2.1.call hSw).facts
    clear hSw
    go_simp
    try with_reducible rfl
  simp only [Act.put, List.setIfInBounds_toArray, List.set_cons_zero, List.set_cons_succ]
  refine wpAnyN_take (i := 7) (oi := ?o7) (v := ?v7) ?hi7 (by kernel_rfl) (by kernel_rfl) (by kernel_rfl) (by kernel_rfl) (by decide) (by kernel_rfl) ?hQ7 ?hy7 (Below.drew (Below.refl _ _)) ?more7
  case hi7 => rw [List.getElem?_toArray]; exact rfl
  case hQ7 => exact fun _ _ _ h => h
  case hy7 =>
    refine Or.inl ⟨by rfl, ?_⟩
    intro w' hSw
    obtain ⟨⟨x0, x1, x2, x3⟩, _, xz⟩ := (H1.out.2.1.call hSw).facts
    clear hSw
    go_simp
    try with_reducible rfl
  simp only [Act.put, List.setIfInBounds_toArray, List.set_cons_zero, List.set_cons_succ]
  refine wpAnyN_take (i := 8) (oi := ?o8) (v := ?v8) ?hi8 (by kernel_rfl) (by kernel_rfl) (by kernel_rfl) (by kernel_rfl) (by decide) (by kernel_rfl) ?hQ8 ?hy8 (Below.drew (Below.refl _ _)) ?more8
  case hi8 => rw [List.getElem?_toArray]; exact rfl
  case hQ8 => exact fun _ _ _ h => h
  case hy8 =>
    refine Or.inl ⟨by rfl, ?_⟩
    intro w' hSw
    obtain ⟨⟨x0, x1, x2, x3⟩, _, xz⟩ := (H1.out.2.1.call hSw).facts
    clear hSw
    go_simp
    try with_reducible rfl
  simp only [Act.put, List.setIfInBounds_toArray, List.set_cons_zero, List.set_cons_succ]
  refine wpAnyN_take (i := 9) (oi := ?o9) (v := ?v9) ?hi9 (by kernel_rfl) (by kernel_rfl) (by kernel_rfl) (by kernel_rfl) (by decide) (by kernel_rfl) ?hQ9 ?hy9 (Below.drew (Below.refl _ _)) ?more9
  case hi9 => rw [List.getElem?_toArray]; exact rfl
  case hQ9 => exact fun _ _ _ h => h
  case hy9 =>
    refine Or.inl ⟨by rfl, ?_⟩
    intro w' hSw
    obtain ⟨⟨x0, x1, x2, x3⟩, _, xz⟩ := (H1.out.2.1.call hSw).facts
    clear hSw
    go_simp
    try with_reducible rfl
  simp only [Act.put, List.setIfInBounds_toArray, List.set_cons_zero, List.set_cons_succ]
  refine wpAnyN_two (i := 0) (j := 11) (o := ?o0x1) (p := ?o11x1) (by kernel_rfl) ?hi0x1 ?hi11x1 ?hw0x1 ?hw11x1 ?st0x1 ?st11x1
  case hi0x1 => rw [List.getElem?_toArray]; exact rfl
  case hw0x1 => exact rfl
  case hi11x1 => rw [List.getElem?_toArray]; exact rfl
  case hw11x1 => exact rfl
  case st0x1 =>
    intro K hK
    have HK0y2 : Hid _ := hK
    clear hK
    go_simp
    refine (KS.out _).mono ?_
    rintro e w0y2 ⟨rfl, hq⟩
    have H0y2 : Hid (Below w1.heap.size w1 w0y2) := below_call0 (Below.drew (Below.refl _ _)) hq
    clear hq
    go_wp2_with fail
    refine HK0y2.out _ _ ⟨fun _ => H0y2.out, ?_⟩
    clear HK0y2 K
    try simp only [Act.put, List.setIfInBounds_toArray, List.set_cons_zero, List.set_cons_succ]
    refine wpAnyN_two (i := 10) (j := 11) (o := ?o10y2x3) (p := ?o11y2x3) (by kernel_rfl) ?hi10y2x3 ?hi11y2x3 ?hw10y2x3 ?hw11y2x3 ?st10y2x3 ?st11y2x3
    case hi10y2x3 => rw [List.getElem?_toArray]; exact rfl
    case hw10y2x3 => exact rfl
    case hi11y2x3 => rw [List.getElem?_toArray]; exact rfl
    case hw11y2x3 => exact rfl
    case st10y2x3 =>
      intro K hK
      have HK10y4 : Hid _ := hK
      clear hK
      go_simp
      refine (KD.out _).mono ?_
      rintro e w10y4 ⟨rfl, hq⟩
      have H10y4 : Hid (Below w1.heap.size w1 w10y4) := below_call0 H0y2.out hq
      clear hq
      go_wp2_with fail
      refine HK10y4.out _ _ ⟨fun _ => H10y4.out, ?_⟩
      clear HK10y4 K
      try simp only [Act.put, List.setIfInBounds_toArray, List.set_cons_zero, List.set_cons_succ]
      refine wpAnyN_one (i := 11) (o := ?o11y4) (by kernel_rfl) ?hi11y4 ?hw11y4 ?st11y4
      case hi11y4 => rw [List.getElem?_toArray]; exact rfl
      case hw11y4 => exact rfl
      intro K hK
      have HK11y4 : Hid _ := hK
      clear hK
      go_simp
      refine HK11y4.out _ _ ⟨fun _ => (below_alloc0 H10y4.out _), ?_⟩
      clear HK11y4 K
      try simp only [Act.put, List.setIfInBounds_toArray, List.set_cons_zero, List.set_cons_succ]
      refine wpAnyN_one (i := 12) (o := ?o12y4) (by kernel_rfl) ?hi12y4 ?hw12y4 ?st12y4
      case hi12y4 => rw [List.getElem?_toArray]; exact rfl
      case hw12y4 => exact rfl
      intro K hK
      have HK12y4 : Hid _ := hK
      clear hK
      obtain ⟨⟨o0, o1, o2, o3⟩, ⟨f0, f1, f2, f3⟩, oz⟩ := Pend.facts (Pend.new' (W := w10y4) (t := 25) rfl)
      try simp only [World.size_alloc] at o0 o1 o2 o3 f0 f1 f2 f3 oz
      go_simp
      refine HK12y4.out _ _ ⟨fun h => absurd h (by decide +kernel), ?_⟩
      clear HK12y4 K
      try simp only [Act.put, List.setIfInBounds_toArray, List.set_cons_zero, List.set_cons_succ]
      refine wpAnyN_done (by kernel_rfl) ?_ _
      obtain ⟨wS, hwS⟩ : ∃ y, y = w10y4.alloc (.cells #[.int .u64 (limb t 0 : Nat), .int .u64 (limb t 1 : Nat), .int .u64 (limb t 2 : Nat), .int .u64 (limb t 3 : Nat)] 25) := ⟨_, rfl⟩
      have HT : Hid (Own4 wS (w10y4.heap.size) t ∧ Below w1.heap.size w1 wS) := by rw [hwS]; exact ⟨Own4.new' rfl, below_alloc0 H10y4.out _⟩
      rw [← hwS]
      clear hwS o0 o1 o2 o3 f0 f1 f2 f3 oz
      have HW : Hid (Below w.heap.size w wS ∧ Nums wS pa (rtL cs) ∧ Own4 wS (w10y4.heap.size) t) := ⟨below_call0 H1.out.1 HT.out.2, H1.out.2.2.1.call HT.out.2, HT.out.1⟩
      clear HT
      go_wp2_with fail
      refine (KA.out _ (H0.out.2.2.1.call HW.out.1)).mono ?_
      rintro e w10 ⟨rfl, hb10⟩
      rw [HI.out.1]
      have H10 : Hid (Below w.heap.size w w10 ∧ Own4 w10 (w10y4.heap.size) t ∧ Nums w10 pa (rtL cs)) := ⟨below_call0 HW.out.1 hb10, HW.out.2.2.call hb10, HW.out.2.1.call hb10⟩
      clear hb10 HW KA
      have hPn : n = P := by rw [H1.out.2.2.2]; exact HI.out.2.1
      subst hPn
      obtain ⟨B, hB⟩ : ∃ B, B = w10y4.heap.size := ⟨_, rfl⟩
      rw [← hB] at H10
      rw [← hB]
      clear hB
      go_wp2_with fail
      rename_i Kr hKr
      have HKr : Hid _ := hKr
      clear hKr p9
      go_loopw [9, 10] (fun ov iv wr => ∃ i y : Nat, i ≤ 10 ∧ iv = .int .i64 (i : Nat) ∧ ov = .int .i64 (y : Nat) ∧ (1 ≤ y ∧ y ≤ 1 + 10 * i) ∧ ((y : Int) ∉ l ∨ i + 1 ≤ y) ∧ Below w10.heap.size w10 wr) (fun _ iv _ => 10 - (Go.RowKit.intOf iv).toNat)
      case atStart => exact ⟨0, 1, by decide, rfl, rfl, by decide, .inr (by decide), Below.refl _ _⟩
      case round =>
        obtain ⟨i, y, hi, rfl, rfl, hy, hor, hB⟩ := hrel
        rename World => wr
        have HR : Hid (Below w10.heap.size w10 wr ∧ Below w.heap.size w wr ∧ (1 ≤ y ∧ y ≤ 1 + 10 * i) ∧ ((y : Int) ∉ l ∨ i + 1 ≤ y) ∧ i ≤ 10) := ⟨hB, below_call0 H10.out.1 hB, hy, hor, hi⟩
        clear hor hB
        by_cases hlt : i < 10
        · clear HKr
          have hlt' : (i : Int) < 10 := by omega
          have y100 : (y : Int) ≤ 100 := by omega
          clear hy hi
          go_wp2_with fail
          rename_i Kq hKq
          have HKq : Hid _ := hKq
          clear hKq
          go_loopw [9, 57] (fun ov jv wi => ∃ j z : Nat, j ≤ n ∧ jv = .int .i64 (j : Nat) ∧ ov = .int .i64 (z : Nat) ∧ (y ≤ z ∧ z ≤ y + j) ∧ ((y : Int) ∉ l → z = y) ∧ (z = y → (y : Int) ∉ l.take j) ∧ Below w10.heap.size w10 wi) (fun _ jv _ => n - (Go.RowKit.intOf jv).toNat)
          case atStart => exact ⟨0, y, Nat.zero_le _, rfl, rfl, ⟨Nat.le_refl _, Nat.le_refl _⟩, fun _ => rfl, fun _ h => (List.not_mem_nil h).elim, HR.out.1⟩
          case round =>
            obtain ⟨j, z, hj, rfl, rfl, hz, hz1, hz2, hB⟩ := hrel
            rename World => wi
            have HJ : Hid (Below w10.heap.size w10 wi ∧ Below w.heap.size w wi ∧ (y ≤ z ∧ z ≤ y + j) ∧ ((y : Int) ∉ l → z = y) ∧ (z = y → (y : Int) ∉ l.take j)) := ⟨hB, below_call0 H10.out.1 hB, hz, hz1, hz2⟩
            clear hz1 hz2 hB
            by_cases hjt : j < n
            · clear HKq
              have hjl : j < l.length := by rw [← H0.out.2.2.2.1]; exact hjt
              have hjt' : (j : Int) < (n : Int) := Int.ofNat_lt.2 hjt
              have z200 : (z : Int) ≤ 200 := by omega
              obtain ⟨p, o, rfl, c0, pz⟩ := (H0.out.2.2.1.call HJ.out.2.1).get hjl
              obtain ⟨u, hu⟩ : ∃ u, u = (l[j]'hjl) := ⟨_, rfl⟩
              rw [← hu] at c0
              by_cases huz : u = (z : Int)
              · have HE : Hid ((y ≤ z + 1 ∧ z + 1 ≤ y + (j + 1)) ∧ ((y : Int) ∉ l → z + 1 = y) ∧ (z + 1 = y → (y : Int) ∉ l.take (j + 1)) ∧ Below w10.heap.size w10 wi) := by
                  refine ⟨by omega, fun h => ?_, fun h => by omega, HJ.out.1⟩
                  have e := HJ.out.2.2.2.1 h
                  exact absurd (by rw [← e, ← huz, hu]; exact List.getElem_mem hjl) h
                subst huz
                clear hu hz
                go_wp2_with fail
                go_roundw
                case rel => first | exact ⟨j + 1, z + 1, hjt, by go_num, by go_num, HE.out⟩ | ((repeat apply Exists.intro); exact ⟨⟨j + 1, z + 1, hjt, by go_num, by go_num, HE.out⟩, rfl⟩)
                case measure => simp [intOf]; omega
              · have HE : Hid ((y ≤ z ∧ z ≤ y + (j + 1)) ∧ ((y : Int) ∉ l → z = y) ∧ (z = y → (y : Int) ∉ l.take (j + 1)) ∧ Below w10.heap.size w10 wi) := by
                  refine ⟨by omega, HJ.out.2.2.2.1, fun h => ?_, HJ.out.1⟩
                  rw [List.take_succ_eq_append_getElem hjl, ← hu]
                  intro hm
                  rcases List.mem_append.1 hm with g | g
                  · exact HJ.out.2.2.2.2 h g
                  · exact huz (by rw [h]; exact (List.mem_singleton.1 g).symm)
                have e1 : (u == (z : Int)) = false := by simpa using huz
                clear hu hz
                go_wp2_with fail
                go_roundw
                case rel => first | exact ⟨j + 1, z, hjt, by go_num, rfl, HE.out⟩ | ((repeat apply Exists.intro); exact ⟨⟨j + 1, z, hjt, by go_num, rfl, HE.out⟩, rfl⟩)
                case measure => simp [intOf]; omega
            · obtain rfl : j = n := by omega
              have hnl : ¬ ((j : Int) < (j : Int)) := Int.lt_irrefl _
              have HE : Hid ((1 ≤ z ∧ z ≤ 1 + 10 * (i + 1)) ∧ ((z : Int) ∉ l ∨ i + 1 + 1 ≤ z) ∧ Below w10.heap.size w10 wi) := by
                have e1 : l.take j = l := List.take_of_length_le (by rw [← H0.out.2.2.2.1]; exact Nat.le_refl _)
                have h1 := HJ.out
                rw [e1] at h1
                have h2 := HR.out.2.2.1
                have h9 := HI.out.2.2
                refine ⟨by omega, ?_, h1.1⟩
                by_cases hzy : z = y
                · left; rw [hzy]; exact h1.2.2.2.2 hzy
                · right
                  rcases HR.out.2.2.2.1 with g | g
                  · exact absurd (h1.2.2.2.1 g) hzy
                  · omega
              clear hjt hj hz
              go_wp2_with fail
              refine HKq.out _ _ ?_
              clear HKq
              go_wp2_with fail
              go_roundw
              case rel => first | exact ⟨i + 1, z, hlt, by go_num, rfl, HE.out⟩ | ((repeat apply Exists.intro); exact ⟨⟨i + 1, z, hlt, by go_num, rfl, HE.out⟩, rfl⟩)
              case measure => simp [intOf]; omega
        · obtain rfl : i = 10 := by omega
          clear hlt hi
          by_cases hy10 : 10 < y
          · have hy' : (10 : Int) < (y : Int) := by omega
            clear hy hy10
            go_wp2_with fail
            refine HKr.out _ _ ?_
            clear HKr
            go_wp2_with fail
            refine (KL.out _ (H0.out.1.call HR.out.2.1)).mono ?_
            rintro e w30 ⟨rfl, hb30⟩
            have H30 : Hid (Below w.heap.size w w30) := below_call0 HR.out.2.1 hb30
            clear hb30
            go_wp2_with fail
            go_ret
            exact ⟨rfl, H30.out⟩
          · have hy' : ¬ ((10 : Int) < (y : Int)) := by omega
            have hynl : (y : Int) ∉ l := by rcases HR.out.2.2.2.1 with g | g; exact g; omega
            have hPA := nodes_more (nodes_ok HI.out.1).1 hy.1 (by omega) hynl
            obtain ⟨A, hA⟩ : ∃ A, A = l ++ [(y : Int)] := ⟨_, rfl⟩
            rw [← hA] at hPA
            have hAl : A.length = n + 1 := by rw [hA, List.length_append, ← H0.out.2.2.2.1]; rfl
            have hAok : nodesOk A = true := decide_eq_true ⟨hPA, by omega⟩
            obtain ⟨M, hM⟩ : ∃ M, M = n + 1 := ⟨_, rfl⟩
            have KW : Hid (∀ (a5 : Option Addr) (c5 : Nat) (w : World), GlobQ w → IntsAt w a5 A → Calls Tryd.prog 14 #[.slice a5 M c5, .agg #[.int .u64 0, .int .u64 0, .int .u64 0, .int .u64 0]] w fun e w' => ∃ b, e = .returned (.tuple #[.slice (some ⟨b, 0, none⟩) M M, .int .i64 0]) ∧ Nums w' (some ⟨b, 0, none⟩) (wsL A 0) ∧ Below w.heap.size w w') := fun a5 c5 w h1 h2 => by
              have h := weights_in a5 A c5 0 (by omega) hAok QQ_pos w h1 h2
              rw [limb_nought, limb_nought, limb_nought, limb_nought, hAl, ← hM] at h
              exact h.mono fun e w' ⟨b, h, g, _, k⟩ => ⟨b, h, g, k⟩
            obtain ⟨v, hv⟩ : ∃ v, v = reK t (wAt A 0) (fun i => (rtL cs)[i]?.getD 0) n * (wAt A 0 n ^ (QQ - 2) % QQ) % QQ := ⟨_, rfl⟩
            have KJ : Hid (∀ (a5 b5 : Option Addr) (c5 d5 : Nat) (w : World), GlobQ w → IntsAt w a5 A → Nums w b5 (rtL cs ++ [v]) → Calls Tryd.prog 18 #[.slice a5 M c5, .slice b5 M d5, .agg #[.int .u64 0, .int .u64 0, .int .u64 0, .int .u64 0]] w fun e w' => e = .returned (.tuple #[.agg #[.int .u64 (limb (t) 0 : Nat), .int .u64 (limb (t) 1 : Nat), .int .u64 (limb (t) 2 : Nat), .int .u64 (limb (t) 3 : Nat)], .int .i64 0]) ∧ Below w.heap.size w w') := fun a5 b5 c5 d5 w h1 h2 h3 => by
              have hlv : (rtL cs ++ [v]).length = A.length := by rw [List.length_append, ← HI.out.2.1, hAl]; rfl
              have hav : allQ (rtL cs ++ [v]) = true := by
                have h := rtL_all cs
                unfold allQ at h ⊢
                rw [List.all_append, h]
                have hvq : v < QQ := by rw [hv]; exact Nat.mod_lt _ QQ_pos
                simp [hvq]
              have h := join_in a5 b5 A (rtL cs ++ [v]) c5 d5 0 (by omega) hAok QQ_pos hlv hav w h1 h2 h3
              rw [hides hPA hAl HI.out.2.1.symm H0.out.2.2.2.2.1 hv, hlv, hAl, ← hM, limb_nought, limb_nought, limb_nought, limb_nought] at h
              exact h
            have HA : Hid (A = l ++ [(y : Int)] ∧ M = n + 1 ∧ v = reK t (wAt A 0) (fun i => (rtL cs)[i]?.getD 0) n * (wAt A 0 n ^ (QQ - 2) % QQ) % QQ ∧ A.length = n + 1) := ⟨hA, hM, hv, hAl⟩
            have m1 : (M : Int) - 1 = (n : Int) := by omega
            have m2 : IntKind.i64.wrap ((M : Int) - 1) = (n : Int) := by rw [IntKind.wrap_i64]; omega
            have m3 : (n : Int) < (M : Int) := by omega
            have m4 : n < M := by omega
            have HM : Hid ((M : Int) - 1 = (n : Int) ∧ IntKind.i64.wrap ((M : Int) - 1) = (n : Int) ∧ (n : Int) < (M : Int)) := ⟨m1, m2, m3⟩
            clear hy hynl hPA hA hAl hAok hM hv hy10 m1 m2 m3 m4
            obtain ⟨b0, bo, rfl⟩ : ∃ b0 bo, b = some ⟨b0, bo, none⟩ := by
              obtain ⟨p, o, e, _, _⟩ := H0.out.2.2.1.get (nodes_ok HI.out.1).2
              exact ⟨p, o, e⟩
            have HNN : Hid (IntsAt wr (some ⟨b0, bo, none⟩) l ∧ n = l.length ∧ n ≤ 9) := ⟨H0.out.2.2.1.call HR.out.2.1, H0.out.2.2.2.1, HI.out.2.2⟩
            have HL1 : Hid (([] : List Int).length + l.length ≤ 1000000) := by
              have h1 := HNN.out.2
              show 0 + l.length ≤ _
              omega
            have HL2 : Hid (l.length + 1 ≤ 1000000) := by
              have h1 := HNN.out.2
              unfold Hid
              omega
            go_wp2_with fail
            refine HKr.out _ _ ?_
            clear HKr
            go_wp2_with (at_builtin; first | (refine wpList_append_RowJ _ rfl (.tmp 70) (.tmp 71) rfl wr.heap.size none 0 0 [] l rfl rfl (RowJ.nil _ _) (Nat.le_refl _) HL1.out b0 bo n d rfl HNN.out.2.1 HNN.out.1 ?_; intro a5 m5 cap5 w5 hm5 hR5 hb5; have H5 : Hid (m5 = n ∧ RowJ w5 wr.heap.size a5 l cap5 ∧ Below wr.heap.size wr w5) := ⟨by rw [hm5, Nat.zero_add], hR5, hb5⟩; clear hm5 hR5 hb5) | ((refine wpList_append_RowJ _ rfl (.tmp 73) (.tmp 75) rfl wr.heap.size a5 m5 cap5 l [(y : Int)] rfl (by rw [H5.out.1]; exact HNN.out.2.1) H5.out.2.1.alloc (Nat.le_trans H5.out.2.2.size (by simp)) HL2.out w5.heap.size 0 1 1 rfl rfl (IntsAt.one' rfl) ?_; intro a6 m6 cap6 w6 hm6 hR6 hb6; have H6 : Hid (RowJ w6 wr.heap.size a6 A cap6 ∧ Below wr.heap.size wr w6) := ⟨by rw [HA.out.1]; exact hR6, (below_alloc0 H5.out.2.2 _).trans hb6⟩; have hMM : M = m6 := (by rw [hm6, H5.out.1]; exact HA.out.2.1); subst hMM; clear hm6 hR6 hb6)))
            clear hy'
            have H7 : Hid (Below w.heap.size w w6 ∧ IntsAt w6 a6 A ∧ Own4 w6 B t ∧ Nums w6 pa (rtL cs)) := ⟨below_call0 HR.out.2.1 H6.out.2, H6.out.1.ints, (H10.out.2.1.call HR.out.1).call H6.out.2, (H10.out.2.2.call HR.out.1).call H6.out.2⟩
            clear H5 H6 HL1 HL2 HNN
            refine (KW.out _ _ _ (H0.out.1.call H7.out.1) H7.out.2.1).mono ?_
            rintro e w11 ⟨yb, rfl, hqq, hb11⟩
            have H11 : Hid (Below w.heap.size w w11 ∧ IntsAt w11 a6 A ∧ Own4 w11 B t ∧ Nums w11 pa (rtL cs) ∧ Nums w11 (some ⟨yb, 0, none⟩) (wsL A 0)) := ⟨below_call0 H7.out.1 hb11, H7.out.2.1.call hb11, H7.out.2.2.1.call hb11, H7.out.2.2.2.call hb11, hqq⟩
            clear hqq hb11 H7 KW
            skip
            go_wp2_with fail
            skip
            refine (KS.out _).mono ?_
            rintro e w12 ⟨rfl, hb12⟩
            obtain ⟨w13, hw13⟩ : ∃ y, y = w12.alloc (.cells #[.int .u64 (limb q 0 : Nat), .int .u64 (limb q 1 : Nat), .int .u64 (limb q 2 : Nat), .int .u64 (limb q 3 : Nat), .int .u64 (limb (R256 - q) 0 : Nat), .int .u64 (limb (R256 - q) 1 : Nat), .int .u64 (limb (R256 - q) 2 : Nat), .int .u64 (limb (R256 - q) 3 : Nat)] 55) := ⟨_, rfl⟩
            have H13 : Hid (Below w.heap.size w w13 ∧ IntsAt w13 a6 A ∧ Own4 w13 B t ∧ Nums w13 pa (rtL cs) ∧ Nums w13 (some ⟨yb, 0, none⟩) (wsL A 0) ∧ FieldB w13 w12.heap.size q ∧ w12.heap.size + 1 = w13.heap.size ∧ w13 = w12.alloc (.cells #[.int .u64 (limb q 0 : Nat), .int .u64 (limb q 1 : Nat), .int .u64 (limb q 2 : Nat), .int .u64 (limb q 3 : Nat), .int .u64 (limb (R256 - q) 0 : Nat), .int .u64 (limb (R256 - q) 1 : Nat), .int .u64 (limb (R256 - q) 2 : Nat), .int .u64 (limb (R256 - q) 3 : Nat)] 55)) := by
              have hb : Below w11.heap.size w11 w13 := by rw [hw13]; exact below_alloc0 hb12 _
              refine ⟨below_call0 H11.out.1 hb, H11.out.2.1.call hb, H11.out.2.2.1.call hb, H11.out.2.2.2.1.call hb, H11.out.2.2.2.2.call hb, ?_, ?_, hw13⟩
              · rw [hw13]; exact FieldB.new _ _ _
              · rw [hw13]; simp
            clear hb12 hw13 H11
            obtain ⟨⟨t0, t1, t2, t3⟩, _, tz⟩ := H13.out.2.2.1.facts
            rw [H13.out.2.2.2.2.2.2.2] at t0 t1 t2 t3 tz
            go_wp2_with fail
            rw [← H13.out.2.2.2.2.2.2.2]
            try rw [H13.out.2.2.2.2.2.2.1]
            clear t0 t1 t2 t3 tz
            obtain ⟨w14, hw14⟩ : ∃ y, y = w13.alloc (.cells #[.int .u64 (limb t 0 : Nat), .int .u64 (limb t 1 : Nat), .int .u64 (limb t 2 : Nat), .int .u64 (limb t 3 : Nat)] 25) := ⟨_, rfl⟩
            have H14 : Hid (Below w13.heap.size w13 w14 ∧ Own4 w14 w13.heap.size t) := by rw [hw14]; exact ⟨below_alloc0 (Below.refl _ _) _, Own4.new _ _ _⟩
            rw [← hw14]
            clear hw14
            rename_i Kz hKz
            have HKz : Hid _ := hKz
            clear hKz
            go_loopw [96] (fun iv wz => ∃ k : Nat, k ≤ n ∧ iv = .int .i64 (k : Nat) ∧ Own4 wz w13.heap.size (reK t (wAt A 0) (fun i => (rtL cs)[i]?.getD 0) k) ∧ Below w13.heap.size w13 wz) (fun iv _ => n - (Go.RowKit.intOf iv).toNat)
            case atStart => exact ⟨0, Nat.zero_le _, rfl, H14.out.2, H14.out.1⟩
            case round =>
              obtain ⟨k, hk, rfl, hO, hB⟩ := hrel
              rename World => wz
              obtain ⟨r, hr⟩ : ∃ r, r = reK t (wAt A 0) (fun i => (rtL cs)[i]?.getD 0) k := ⟨_, rfl⟩
              rw [← hr] at hO
              have HZ : Hid (Own4 wz w13.heap.size r ∧ Below w13.heap.size w13 wz ∧ Below w.heap.size w wz ∧ r = reK t (wAt A 0) (fun i => (rtL cs)[i]?.getD 0) k ∧ FieldB wz w12.heap.size q) := ⟨hO, hB, below_call0 H13.out.1 hB, hr, H13.out.2.2.2.2.2.1.call hB⟩
              clear hO hB hr
              by_cases hlt : k < n
              · clear HKz
                have hkp : k < (rtL cs).length := by rw [← HI.out.2.1]; exact hlt
                have hkw : k < (wsL A 0).length := by rw [wsL_length, HA.out.2.2.2]; omega
                have hlt' : (k : Int) < (n : Int) := Int.ofNat_lt.2 hlt
                have hltM : (k : Int) < (M : Int) := by have := HM.out.2.2; omega
                obtain ⟨p', o', e', ⟨d0, d1, d2, d3⟩, dz⟩ := (H13.out.2.2.2.2.1.call HZ.out.2.1).get hkw
                simp only [Option.some.injEq, Addr.mk.injEq, and_true] at e'
                obtain ⟨rfl, rfl⟩ := e'
                rw [Nat.zero_add, wsL_get] at d0 d1 d2 d3
                obtain ⟨p, o, hpa, ⟨c0, c1, c2, c3⟩, cz⟩ := (H13.out.2.2.2.1.call HZ.out.2.1).get hkp
                subst hpa
                obtain ⟨W, hW⟩ : ∃ W, W = wAt A 0 k := ⟨_, rfl⟩
                obtain ⟨s, hs⟩ : ∃ s, s = ((rtL cs)[k]'hkp) := ⟨_, rfl⟩
                rw [← hW] at d0 d1 d2 d3
                rw [← hs] at c0 c1 c2 c3
                obtain ⟨f, hf⟩ : ∃ f, f = W * s % QQ := ⟨_, rfl⟩
                obtain ⟨u, hu⟩ : ∃ u, u = subM QQ r f := ⟨_, rfl⟩
                have KM : Hid (∀ w, Calls Tryd.prog 29 #[.agg #[.int .u64 (limb (q) 0 : Nat), .int .u64 (limb (q) 1 : Nat), .int .u64 (limb (q) 2 : Nat), .int .u64 (limb (q) 3 : Nat), .int .u64 (limb (R256 - (q)) 0 : Nat), .int .u64 (limb (R256 - (q)) 1 : Nat), .int .u64 (limb (R256 - (q)) 2 : Nat), .int .u64 (limb (R256 - (q)) 3 : Nat)], .agg #[.int .u64 (limb (W) 0 : Nat), .int .u64 (limb (W) 1 : Nat), .int .u64 (limb (W) 2 : Nat), .int .u64 (limb (W) 3 : Nat)], .agg #[.int .u64 (limb (s) 0 : Nat), .int .u64 (limb (s) 1 : Nat), .int .u64 (limb (s) 2 : Nat), .int .u64 (limb (s) 3 : Nat)]] w fun e w' => e = .returned (.agg #[.int .u64 (limb (f) 0 : Nat), .int .u64 (limb (f) 1 : Nat), .int .u64 (limb (f) 2 : Nat), .int .u64 (limb (f) 3 : Nat)]) ∧ Below w.heap.size w w') := fun w => by rw [H0.out.2.2.2.2.2, hf]; exact mul2_any QQ W s FM_Q FS_Q (by rw [hW]; exact Nat.lt_trans (wAt_lt _ _ _) FM_Q.2.1) (by rw [hs]; exact Nat.lt_trans (allQ_get (rtL_all cs) hkp) FM_Q.2.1) w
                have KU : Hid (∀ w, Calls Tryd.prog 28 #[.agg #[.int .u64 (limb (q) 0 : Nat), .int .u64 (limb (q) 1 : Nat), .int .u64 (limb (q) 2 : Nat), .int .u64 (limb (q) 3 : Nat), .int .u64 (limb (R256 - (q)) 0 : Nat), .int .u64 (limb (R256 - (q)) 1 : Nat), .int .u64 (limb (R256 - (q)) 2 : Nat), .int .u64 (limb (R256 - (q)) 3 : Nat)], .agg #[.int .u64 (limb (r) 0 : Nat), .int .u64 (limb (r) 1 : Nat), .int .u64 (limb (r) 2 : Nat), .int .u64 (limb (r) 3 : Nat)], .agg #[.int .u64 (limb (f) 0 : Nat), .int .u64 (limb (f) 1 : Nat), .int .u64 (limb (f) 2 : Nat), .int .u64 (limb (f) 3 : Nat)]] w fun e w' => e = .returned (.agg #[.int .u64 (limb (u) 0 : Nat), .int .u64 (limb (u) 1 : Nat), .int .u64 (limb (u) 2 : Nat), .int .u64 (limb (u) 3 : Nat)]) ∧ Below w.heap.size w w') := fun w => by rw [H0.out.2.2.2.2.2, hu]; exact sub2_any QQ r f FM_Q.2.1 (by rw [HZ.out.2.2.2.1]; exact reK_lt H0.out.2.2.2.2.1 _ _ _) (by rw [hf]; exact Nat.mod_lt _ QQ_pos) w
                have HU : Hid (u = reK t (wAt A 0) (fun i => (rtL cs)[i]?.getD 0) (k + 1)) := by
                  show u = subM QQ (reK t (wAt A 0) (fun i => (rtL cs)[i]?.getD 0) k) (wAt A 0 k * (rtL cs)[k]?.getD 0 % QQ)
                  rw [List.getElem?_eq_getElem hkp, ← HZ.out.2.2.2.1, ← hW]
                  show u = subM QQ r (W * ((rtL cs)[k]'hkp) % QQ)
                  rw [← hs, ← hf]; exact hu
                have HD : Hid (∀ w', Below wz.heap.size wz w' → (w'.cell? ⟨yb, k * 4, none⟩ = some (.int .u64 (limb W 0 : Nat)) ∧ w'.cell? ⟨yb, k * 4 + 1, none⟩ = some (.int .u64 (limb W 1 : Nat)) ∧ w'.cell? ⟨yb, k * 4 + 2, none⟩ = some (.int .u64 (limb W 2 : Nat)) ∧ w'.cell? ⟨yb, k * 4 + 3, none⟩ = some (.int .u64 (limb W 3 : Nat))) ∧ yb < w'.heap.size) := fun w' hb => by
                  have e := fun j => hb.cell (p := ⟨yb, j, none⟩) dz
                  exact ⟨⟨(e _).trans d0, (e _).trans d1, (e _).trans d2, (e _).trans d3⟩, Nat.lt_of_lt_of_le dz hb.size⟩
                have HC : Hid (∀ w', Below wz.heap.size wz w' → (w'.cell? ⟨p, o + k * 4, none⟩ = some (.int .u64 (limb s 0 : Nat)) ∧ w'.cell? ⟨p, o + k * 4 + 1, none⟩ = some (.int .u64 (limb s 1 : Nat)) ∧ w'.cell? ⟨p, o + k * 4 + 2, none⟩ = some (.int .u64 (limb s 2 : Nat)) ∧ w'.cell? ⟨p, o + k * 4 + 3, none⟩ = some (.int .u64 (limb s 3 : Nat))) ∧ p < w'.heap.size) := fun w' hb => by
                  have e := fun j => hb.cell (p := ⟨p, j, none⟩) cz
                  exact ⟨⟨(e _).trans c0, (e _).trans c1, (e _).trans c2, (e _).trans c3⟩, Nat.lt_of_lt_of_le cz hb.size⟩
                clear hW hs hf hu d0 d1 d2 d3 dz c0 c1 c2 c3 cz
                go_wp2_with fail
                refine wp_region_N (fun w' => Below wz.heap.size wz w') 13 14 rfl (by kernel_rfl) ?_
                refine wpAnyN_take (i := 0) (oi := ?o0zy4p) (v := ?v0zy4p) ?hi0zy4p (by kernel_rfl) (by kernel_rfl) (by kernel_rfl) (by kernel_rfl) (by decide) (by kernel_rfl) ?hQ0zy4p ?hy0zy4p (Below.drew (Below.refl _ _)) ?more0zy4p
                case hi0zy4p => rw [List.getElem?_toArray]; exact rfl
                case hQ0zy4p => exact fun _ _ _ h => h
                case hy0zy4p =>
                  refine Or.inl ⟨by rfl, ?_⟩
                  intro w' hSw
                  obtain ⟨⟨o0, o1, o2, o3⟩, _, oz⟩ := (HZ.out.1.call hSw).facts
                  have hF := HZ.out.2.2.2.2.call hSw
                  obtain ⟨q0, q1, q2, q3⟩ := hF.1.facts
                  obtain ⟨r0, r1, r2, r3⟩ := hF.gap
                  have rz := hF.2.2
                  obtain ⟨⟨d0, d1, d2, d3⟩, dz⟩ := HD.out _ hSw
                  obtain ⟨⟨c0, c1, c2, c3⟩, cz⟩ := HC.out _ hSw
                  clear hSw hF
                  go_simp
                  try with_reducible rfl
                simp only [Act.put, List.setIfInBounds_toArray, List.set_cons_zero, List.set_cons_succ]
                refine wpAnyN_take (i := 1) (oi := ?o1zy4p) (v := ?v1zy4p) ?hi1zy4p (by kernel_rfl) (by kernel_rfl) (by kernel_rfl) (by kernel_rfl) (by decide) (by kernel_rfl) ?hQ1zy4p ?hy1zy4p (Below.drew (Below.refl _ _)) ?more1zy4p
                case hi1zy4p => rw [List.getElem?_toArray]; exact rfl
                case hQ1zy4p => exact fun _ _ _ h => h
                case hy1zy4p =>
                  refine Or.inl ⟨by rfl, ?_⟩
                  intro w' hSw
                  obtain ⟨⟨o0, o1, o2, o3⟩, _, oz⟩ := (HZ.out.1.call hSw).facts
                  have hF := HZ.out.2.2.2.2.call hSw
                  obtain ⟨q0, q1, q2, q3⟩ := hF.1.facts
                  obtain ⟨r0, r1, r2, r3⟩ := hF.gap
                  have rz := hF.2.2
                  obtain ⟨⟨d0, d1, d2, d3⟩, dz⟩ := HD.out _ hSw
                  obtain ⟨⟨c0, c1, c2, c3⟩, cz⟩ := HC.out _ hSw
                  clear hSw hF
                  go_simp
                  try with_reducible rfl
                simp only [Act.put, List.setIfInBounds_toArray, List.set_cons_zero, List.set_cons_succ]
                refine wpAnyN_take (i := 2) (oi := ?o2zy4p) (v := ?v2zy4p) ?hi2zy4p (by kernel_rfl) (by kernel_rfl) (by kernel_rfl) (by kernel_rfl) (by decide) (by kernel_rfl) ?hQ2zy4p ?hy2zy4p (Below.drew (Below.refl _ _)) ?more2zy4p
                case hi2zy4p => rw [List.getElem?_toArray]; exact rfl
                case hQ2zy4p => exact fun _ _ _ h => h
                case hy2zy4p =>
                  refine Or.inl ⟨by rfl, ?_⟩
                  intro w' hSw
                  obtain ⟨⟨o0, o1, o2, o3⟩, _, oz⟩ := (HZ.out.1.call hSw).facts
                  have hF := HZ.out.2.2.2.2.call hSw
                  obtain ⟨q0, q1, q2, q3⟩ := hF.1.facts
                  obtain ⟨r0, r1, r2, r3⟩ := hF.gap
                  have rz := hF.2.2
                  obtain ⟨⟨d0, d1, d2, d3⟩, dz⟩ := HD.out _ hSw
                  obtain ⟨⟨c0, c1, c2, c3⟩, cz⟩ := HC.out _ hSw
                  clear hSw hF
                  go_simp
                  try with_reducible rfl
                simp only [Act.put, List.setIfInBounds_toArray, List.set_cons_zero, List.set_cons_succ]
                refine wpAnyN_takeF (i := 3) (oi := ?o3zy4p) (v := ?v3zy4p) ?hi3zy4p (by kernel_rfl) (by kernel_rfl) (by kernel_rfl) (by decide) ?hQ3zy4p ?hy3zy4p (Below.drew (Below.refl _ _)) ?more3zy4p
                case hi3zy4p => rw [List.getElem?_toArray]; exact rfl
                case hQ3zy4p => exact fun _ _ _ h => h
                case hy3zy4p =>
                  refine Or.inl ⟨by rfl, ?_⟩
                  intro w' hSw
                  clear hSw
                  go_simp
                  try with_reducible rfl
                simp only [Act.put, List.setIfInBounds_toArray, List.set_cons_zero, List.set_cons_succ]
                refine wpAnyN_takeF (i := 4) (oi := ?o4zy4p) (v := ?v4zy4p) ?hi4zy4p (by kernel_rfl) (by kernel_rfl) (by kernel_rfl) (by decide) ?hQ4zy4p ?hy4zy4p (Below.drew (Below.refl _ _)) ?more4zy4p
                case hi4zy4p => rw [List.getElem?_toArray]; exact rfl
                case hQ4zy4p => exact fun _ _ _ h => h
                case hy4zy4p =>
                  refine Or.inl ⟨by rfl, ?_⟩
                  intro w' hSw
                  clear hSw
                  go_simp
                  try with_reducible rfl
                simp only [Act.put, List.setIfInBounds_toArray, List.set_cons_zero, List.set_cons_succ]
                refine wpAnyN_takeF (i := 5) (oi := ?o5zy4p) (v := ?v5zy4p) ?hi5zy4p (by kernel_rfl) (by kernel_rfl) (by kernel_rfl) (by decide) ?hQ5zy4p ?hy5zy4p (Below.drew (Below.refl _ _)) ?more5zy4p
                case hi5zy4p => rw [List.getElem?_toArray]; exact rfl
                case hQ5zy4p => exact fun _ _ _ h => h
                case hy5zy4p =>
                  refine Or.inl ⟨by rfl, ?_⟩
                  intro w' hSw
                  clear hSw
                  go_simp
                  try with_reducible rfl
                simp only [Act.put, List.setIfInBounds_toArray, List.set_cons_zero, List.set_cons_succ]
                refine wpAnyN_take (i := 6) (oi := ?o6zy4p) (v := ?v6zy4p) ?hi6zy4p (by kernel_rfl) (by kernel_rfl) (by kernel_rfl) (by kernel_rfl) (by decide) (by kernel_rfl) ?hQ6zy4p ?hy6zy4p (Below.drew (Below.refl _ _)) ?more6zy4p
                case hi6zy4p => rw [List.getElem?_toArray]; exact rfl
                case hQ6zy4p => exact fun _ _ _ h => h
                case hy6zy4p =>
                  refine Or.inl ⟨by rfl, ?_⟩
                  intro w' hSw
                  obtain ⟨⟨o0, o1, o2, o3⟩, _, oz⟩ := (HZ.out.1.call hSw).facts
                  have hF := HZ.out.2.2.2.2.call hSw
                  obtain ⟨q0, q1, q2, q3⟩ := hF.1.facts
                  obtain ⟨r0, r1, r2, r3⟩ := hF.gap
                  have rz := hF.2.2
                  obtain ⟨⟨d0, d1, d2, d3⟩, dz⟩ := HD.out _ hSw
                  obtain ⟨⟨c0, c1, c2, c3⟩, cz⟩ := HC.out _ hSw
                  clear hSw hF
                  go_simp
                  try with_reducible rfl
                simp only [Act.put, List.setIfInBounds_toArray, List.set_cons_zero, List.set_cons_succ]
                refine wpAnyN_takeF (i := 7) (oi := ?o7zy4p) (v := ?v7zy4p) ?hi7zy4p (by kernel_rfl) (by kernel_rfl) (by kernel_rfl) (by decide) ?hQ7zy4p ?hy7zy4p (Below.drew (Below.refl _ _)) ?more7zy4p
                case hi7zy4p => rw [List.getElem?_toArray]; exact rfl
                case hQ7zy4p => exact fun _ _ _ h => h
                case hy7zy4p =>
                  refine Or.inl ⟨by rfl, ?_⟩
                  intro w' hSw
                  clear hSw
                  go_simp
                  try with_reducible rfl
                simp only [Act.put, List.setIfInBounds_toArray, List.set_cons_zero, List.set_cons_succ]
                refine wpAnyN_takeF (i := 8) (oi := ?o8zy4p) (v := ?v8zy4p) ?hi8zy4p (by kernel_rfl) (by kernel_rfl) (by kernel_rfl) (by decide) ?hQ8zy4p ?hy8zy4p (Below.drew (Below.refl _ _)) ?more8zy4p
                case hi8zy4p => rw [List.getElem?_toArray]; exact rfl
                case hQ8zy4p => exact fun _ _ _ h => h
                case hy8zy4p =>
                  refine Or.inl ⟨by rfl, ?_⟩
                  intro w' hSw
                  clear hSw
                  go_simp
                  try with_reducible rfl
                simp only [Act.put, List.setIfInBounds_toArray, List.set_cons_zero, List.set_cons_succ]
                refine wpAnyN_takeF (i := 9) (oi := ?o9zy4p) (v := ?v9zy4p) ?hi9zy4p (by kernel_rfl) (by kernel_rfl) (by kernel_rfl) (by decide) ?hQ9zy4p ?hy9zy4p (Below.drew (Below.refl _ _)) ?more9zy4p
                case hi9zy4p => rw [List.getElem?_toArray]; exact rfl
                case hQ9zy4p => exact fun _ _ _ h => h
                case hy9zy4p =>
                  refine Or.inl ⟨by rfl, ?_⟩
                  intro w' hSw
                  clear hSw
                  go_simp
                  try with_reducible rfl
                simp only [Act.put, List.setIfInBounds_toArray, List.set_cons_zero, List.set_cons_succ]
                refine wpAnyN_takeL (i := 10) (oi := ?o10zy4p) (v := ?v10zy4p) [11, 12, 13] ?hi10zy4p (by kernel_rfl) (by kernel_rfl) (by kernel_rfl) (by kernel_rfl) (by decide) (by decide) (by kernel_rfl) ?hQ10zy4p ?hy10zy4p (Below.drew (Below.refl _ _)) ?more10zy4p
                case hi10zy4p => rw [List.getElem?_toArray]; exact rfl
                case hQ10zy4p => exact fun _ _ _ h => h
                case hy10zy4p =>
                  refine Or.inl ⟨by rfl, ?_⟩
                  intro w' hSw
                  obtain ⟨⟨o0, o1, o2, o3⟩, _, oz⟩ := (HZ.out.1.call hSw).facts
                  have hF := HZ.out.2.2.2.2.call hSw
                  obtain ⟨q0, q1, q2, q3⟩ := hF.1.facts
                  obtain ⟨r0, r1, r2, r3⟩ := hF.gap
                  have rz := hF.2.2
                  obtain ⟨⟨d0, d1, d2, d3⟩, dz⟩ := HD.out _ hSw
                  obtain ⟨⟨c0, c1, c2, c3⟩, cz⟩ := HC.out _ hSw
                  clear hSw hF
                  go_simp
                  try with_reducible rfl
                simp only [Act.put, List.setIfInBounds_toArray, List.set_cons_zero, List.set_cons_succ]
                refine wpAnyN_one (i := 11) (o := ?o11zy4p) (by kernel_rfl) ?hi11zy4p ?hw11zy4p ?st11zy4p
                case hi11zy4p => rw [List.getElem?_toArray]; exact rfl
                case hw11zy4p => exact rfl
                intro K hK
                have HK11 : Hid _ := hK
                clear hK
                go_simp
                refine (KM.out _).mono ?_
                rintro e w15 ⟨rfl, hq⟩
                have H15 : Hid (Below wz.heap.size wz w15) := below_call0 (Below.drew (Below.refl _ _)) hq
                clear hq
                go_wp2_with fail
                refine HK11.out _ _ ⟨fun _ => H15.out, ?_⟩
                clear HK11 K
                try simp only [Act.put, List.setIfInBounds_toArray, List.set_cons_zero, List.set_cons_succ]
                refine wpAnyN_one (i := 12) (o := ?o12zy4p) (by kernel_rfl) ?hi12zy4p ?hw12zy4p ?st12zy4p
                case hi12zy4p => rw [List.getElem?_toArray]; exact rfl
                case hw12zy4p => exact rfl
                intro K hK
                have HK12 : Hid _ := hK
                clear hK
                go_simp
                refine (KU.out _).mono ?_
                rintro e w16 ⟨rfl, hq⟩
                have H16 : Hid (Below wz.heap.size wz w16) := below_call0 H15.out hq
                obtain ⟨⟨o0, o1, o2, o3⟩, ⟨f0, f1, f2, f3⟩, oz⟩ := (HZ.out.1.call H16.out).facts
                clear hq
                go_wp2_with fail
                refine HK12.out _ _ ⟨fun _ => H16.out, ?_⟩
                clear HK12 K
                try simp only [Act.put, List.setIfInBounds_toArray, List.set_cons_zero, List.set_cons_succ]
                refine wpAnyN_one (i := 13) (o := ?o13zy4p) (by kernel_rfl) ?hi13zy4p ?hw13zy4p ?st13zy4p
                case hi13zy4p => rw [List.getElem?_toArray]; exact rfl
                case hw13zy4p => exact rfl
                intro K hK
                have HK13 : Hid _ := hK
                clear hK
                go_simp
                refine HK13.out _ _ ⟨fun h => absurd h (by decide +kernel), ?_⟩
                clear HK13 K
                try simp only [Act.put, List.setIfInBounds_toArray, List.set_cons_zero, List.set_cons_succ]
                refine wpAnyN_done (by kernel_rfl) ?_ _
                have HE : Hid (Own4 ((((w16.setCell ⟨w13.heap.size, 0, none⟩ (.int .u64 (limb u 0 : Nat))).setCell ⟨w13.heap.size, 1, none⟩ (.int .u64 (limb u 1 : Nat))).setCell ⟨w13.heap.size, 2, none⟩ (.int .u64 (limb u 2 : Nat))).setCell ⟨w13.heap.size, 3, none⟩ (.int .u64 (limb u 3 : Nat))) w13.heap.size (reK t (wAt A 0) (fun i => (rtL cs)[i]?.getD 0) (k + 1)) ∧ Below w13.heap.size w13 ((((w16.setCell ⟨w13.heap.size, 0, none⟩ (.int .u64 (limb u 0 : Nat))).setCell ⟨w13.heap.size, 1, none⟩ (.int .u64 (limb u 1 : Nat))).setCell ⟨w13.heap.size, 2, none⟩ (.int .u64 (limb u 2 : Nat))).setCell ⟨w13.heap.size, 3, none⟩ (.int .u64 (limb u 3 : Nat)))) := by
                  refine ⟨?_, Below.setCell (Below.setCell (Below.setCell (Below.setCell (below_call0 HZ.out.2.1 H16.out) (Nat.le_refl _) _) (Nat.le_refl _) _) (Nat.le_refl _) _) (Nat.le_refl _) _⟩
                  rw [← HU.out]; exact (HZ.out.1.call H16.out).put
                clear o0 o1 o2 o3 f0 f1 f2 f3 oz
                go_wp2_with fail
                go_roundw
                case rel => first | exact ⟨k + 1, hlt, by go_num, HE.out⟩ | ((repeat apply Exists.intro); exact ⟨⟨k + 1, hlt, by go_num, HE.out⟩, rfl⟩)
                case measure => simp [intOf]; omega
              · obtain rfl : k = n := by omega
                have hnl : ¬ ((k : Int) < (k : Int)) := Int.lt_irrefl _
                clear hlt hk
                obtain ⟨p0, po, rfl⟩ : ∃ p0 po, pa = some ⟨p0, po, none⟩ := by
                  obtain ⟨p, o, e, _, _⟩ := H13.out.2.2.2.1.get (show 0 < (rtL cs).length by rw [← HI.out.2.1, H0.out.2.2.2.1]; exact (nodes_ok HI.out.1).2)
                  exact ⟨p, o, e⟩
                have HNP : Hid (Nums wz (some ⟨p0, po, none⟩) (rtL cs) ∧ k = (rtL cs).length ∧ ([] : List Nat).length + (rtL cs).length ≤ 1000000 ∧ (rtL cs).length ≤ 1000000) := ⟨H13.out.2.2.2.1.call HZ.out.2.1, HI.out.2.1, by have := rtL_length cs; show 0 + _ ≤ _; omega, by have := rtL_length cs; omega⟩
                obtain ⟨W, hW⟩ : ∃ W, W = wAt A 0 k := ⟨_, rfl⟩
                obtain ⟨f, hf⟩ : ∃ f, f = W ^ (QQ - 2) % QQ := ⟨_, rfl⟩
                have KI : Hid (∀ w, Calls Tryd.prog 30 #[.agg #[.int .u64 (limb (q) 0 : Nat), .int .u64 (limb (q) 1 : Nat), .int .u64 (limb (q) 2 : Nat), .int .u64 (limb (q) 3 : Nat), .int .u64 (limb (R256 - (q)) 0 : Nat), .int .u64 (limb (R256 - (q)) 1 : Nat), .int .u64 (limb (R256 - (q)) 2 : Nat), .int .u64 (limb (R256 - (q)) 3 : Nat)], .agg #[.int .u64 (limb (W) 0 : Nat), .int .u64 (limb (W) 1 : Nat), .int .u64 (limb (W) 2 : Nat), .int .u64 (limb (W) 3 : Nat)]] w fun e w' => e = .returned (.agg #[.int .u64 (limb (f) 0 : Nat), .int .u64 (limb (f) 1 : Nat), .int .u64 (limb (f) 2 : Nat), .int .u64 (limb (f) 3 : Nat)]) ∧ Below w.heap.size w w') := fun w => by rw [H0.out.2.2.2.2.2, hf]; exact inv2_any QQ W FM_Q FS_Q (by rw [hW]; exact Nat.lt_trans (wAt_lt _ _ _) FM_Q.2.1) w
                have KM : Hid (∀ w, Calls Tryd.prog 29 #[.agg #[.int .u64 (limb (q) 0 : Nat), .int .u64 (limb (q) 1 : Nat), .int .u64 (limb (q) 2 : Nat), .int .u64 (limb (q) 3 : Nat), .int .u64 (limb (R256 - (q)) 0 : Nat), .int .u64 (limb (R256 - (q)) 1 : Nat), .int .u64 (limb (R256 - (q)) 2 : Nat), .int .u64 (limb (R256 - (q)) 3 : Nat)], .agg #[.int .u64 (limb (r) 0 : Nat), .int .u64 (limb (r) 1 : Nat), .int .u64 (limb (r) 2 : Nat), .int .u64 (limb (r) 3 : Nat)], .agg #[.int .u64 (limb (f) 0 : Nat), .int .u64 (limb (f) 1 : Nat), .int .u64 (limb (f) 2 : Nat), .int .u64 (limb (f) 3 : Nat)]] w fun e w' => e = .returned (.agg #[.int .u64 (limb (v) 0 : Nat), .int .u64 (limb (v) 1 : Nat), .int .u64 (limb (v) 2 : Nat), .int .u64 (limb (v) 3 : Nat)]) ∧ Below w.heap.size w w') := fun w => by
                  have e : v = r * f % QQ := by rw [HA.out.2.2.1, ← HZ.out.2.2.2.1, ← hW, ← hf]
                  rw [H0.out.2.2.2.2.2, e]
                  exact mul2_any QQ r f FM_Q FS_Q (by rw [HZ.out.2.2.2.1]; exact Nat.lt_trans (reK_lt H0.out.2.2.2.2.1 _ _ _) FM_Q.2.1) (by rw [hf]; exact Nat.lt_trans (Nat.mod_lt _ QQ_pos) FM_Q.2.1) w
                have HWW : Hid (W = wAt A 0 k) := hW
                clear hW hf
                go_wp2_with fail
                refine HKz.out _ _ ?_
                clear HKz
                go_wp2_with (at_builtin; refine wpList_append_RowNs _ rfl (.tmp 113) (.tmp 114) rfl wz.heap.size none 0 0 [] (rtL cs) rfl rfl (RowN.nil _ _) (Nat.le_refl _) HNP.out.2.2.1 p0 po k pc rfl HNP.out.2.1 HNP.out.1 ?_; intro a7 m7 cap7 w19 hm7 hR7 hb7; have H19 : Hid (m7 = k ∧ RowN w19 wz.heap.size a7 (rtL cs) cap7 ∧ Below wz.heap.size wz w19) := ⟨by rw [hm7, Nat.zero_add], hR7, hb7⟩; clear hm7 hR7 hb7)
                obtain ⟨m1, m2, m3⟩ := HM.out
                have m4 : IntKind.i64.wrap (k : Int) = (k : Int) := by rw [IntKind.wrap_i64]; omega
                have hkw : k < (wsL A 0).length := by rw [wsL_length, HA.out.2.2.2]; omega
                have HS : Hid (Own4 w19 w13.heap.size r ∧ FieldB w19 w12.heap.size q ∧ (w19.cell? ⟨yb, k * 4, none⟩ = some (.int .u64 (limb W 0 : Nat)) ∧ w19.cell? ⟨yb, k * 4 + 1, none⟩ = some (.int .u64 (limb W 1 : Nat)) ∧ w19.cell? ⟨yb, k * 4 + 2, none⟩ = some (.int .u64 (limb W 2 : Nat)) ∧ w19.cell? ⟨yb, k * 4 + 3, none⟩ = some (.int .u64 (limb W 3 : Nat))) ∧ yb < w19.heap.size ∧ Below w.heap.size w w19) := by
                  obtain ⟨p', o', e', ⟨d0, d1, d2, d3⟩, dz⟩ := ((H13.out.2.2.2.2.1.call HZ.out.2.1).call H19.out.2.2).get hkw
                  simp only [Option.some.injEq, Addr.mk.injEq, and_true] at e'
                  obtain ⟨rfl, rfl⟩ := e'
                  rw [Nat.zero_add, wsL_get, ← HWW.out] at d0 d1 d2 d3
                  exact ⟨HZ.out.1.call H19.out.2.2, HZ.out.2.2.2.2.call H19.out.2.2, ⟨d0, d1, d2, d3⟩, dz, below_call0 HZ.out.2.2.1 H19.out.2.2⟩
                have HD : Hid (∀ w', Below w19.heap.size w19 w' → (w'.cell? ⟨yb, k * 4, none⟩ = some (.int .u64 (limb W 0 : Nat)) ∧ w'.cell? ⟨yb, k * 4 + 1, none⟩ = some (.int .u64 (limb W 1 : Nat)) ∧ w'.cell? ⟨yb, k * 4 + 2, none⟩ = some (.int .u64 (limb W 2 : Nat)) ∧ w'.cell? ⟨yb, k * 4 + 3, none⟩ = some (.int .u64 (limb W 3 : Nat))) ∧ yb < w'.heap.size) := fun w' hb => by
                  obtain ⟨d0, d1, d2, d3⟩ := HS.out.2.2.1
                  have e := fun j => hb.cell (p := ⟨yb, j, none⟩) HS.out.2.2.2.1
                  exact ⟨⟨(e _).trans d0, (e _).trans d1, (e _).trans d2, (e _).trans d3⟩, Nat.lt_of_lt_of_le HS.out.2.2.2.1 hb.size⟩
                clear hkw
                refine wp_region_N (fun w' => Below w19.heap.size w19 w') 11 15 rfl (by kernel_rfl) ?_
                refine wpAnyN_takeF (i := 0) (oi := ?o0zy4r) (v := ?v0zy4r) ?hi0zy4r (by kernel_rfl) (by kernel_rfl) (by kernel_rfl) (by decide) ?hQ0zy4r ?hy0zy4r (Below.drew (Below.refl _ _)) ?more0zy4r
                case hi0zy4r => rw [List.getElem?_toArray]; exact rfl
                case hQ0zy4r => exact fun _ _ _ h => h
                case hy0zy4r =>
                  refine Or.inl ⟨by rfl, ?_⟩
                  intro w' hSw
                  clear hSw
                  go_simp
                  try with_reducible rfl
                simp only [Act.put, List.setIfInBounds_toArray, List.set_cons_zero, List.set_cons_succ]
                refine wpAnyN_take (i := 1) (oi := ?o1zy4r) (v := ?v1zy4r) ?hi1zy4r (by kernel_rfl) (by kernel_rfl) (by kernel_rfl) (by kernel_rfl) (by decide) (by kernel_rfl) ?hQ1zy4r ?hy1zy4r (Below.drew (Below.refl _ _)) ?more1zy4r
                case hi1zy4r => rw [List.getElem?_toArray]; exact rfl
                case hQ1zy4r => exact fun _ _ _ h => h
                case hy1zy4r =>
                  refine Or.inl ⟨by rfl, ?_⟩
                  intro w' hSw
                  obtain ⟨⟨o0, o1, o2, o3⟩, _, oz⟩ := (HS.out.1.call hSw).facts
                  have hF := HS.out.2.1.call hSw
                  obtain ⟨q0, q1, q2, q3⟩ := hF.1.facts
                  obtain ⟨r0, r1, r2, r3⟩ := hF.gap
                  have rz := hF.2.2
                  obtain ⟨⟨d0, d1, d2, d3⟩, dz⟩ := HD.out _ hSw
                  clear hSw hF
                  go_simp
                  try with_reducible rfl
                simp only [Act.put, List.setIfInBounds_toArray, List.set_cons_zero, List.set_cons_succ]
                refine wpAnyN_take (i := 2) (oi := ?o2zy4r) (v := ?v2zy4r) ?hi2zy4r (by kernel_rfl) (by kernel_rfl) (by kernel_rfl) (by kernel_rfl) (by decide) (by kernel_rfl) ?hQ2zy4r ?hy2zy4r (Below.drew (Below.refl _ _)) ?more2zy4r
                case hi2zy4r => rw [List.getElem?_toArray]; exact rfl
                case hQ2zy4r => exact fun _ _ _ h => h
                case hy2zy4r =>
                  refine Or.inl ⟨by rfl, ?_⟩
                  intro w' hSw
                  obtain ⟨⟨o0, o1, o2, o3⟩, _, oz⟩ := (HS.out.1.call hSw).facts
                  have hF := HS.out.2.1.call hSw
                  obtain ⟨q0, q1, q2, q3⟩ := hF.1.facts
                  obtain ⟨r0, r1, r2, r3⟩ := hF.gap
                  have rz := hF.2.2
                  obtain ⟨⟨d0, d1, d2, d3⟩, dz⟩ := HD.out _ hSw
                  clear hSw hF
                  go_simp
                  try with_reducible rfl
                simp only [Act.put, List.setIfInBounds_toArray, List.set_cons_zero, List.set_cons_succ]
                refine wpAnyN_takeL (i := 3) (oi := ?o3zy4r) (v := ?v3zy4r) [10, 11] ?hi3zy4r (by kernel_rfl) (by kernel_rfl) (by kernel_rfl) (by kernel_rfl) (by decide) (by decide) (by kernel_rfl) ?hQ3zy4r ?hy3zy4r (Below.drew (Below.refl _ _)) ?more3zy4r
                case hi3zy4r => rw [List.getElem?_toArray]; exact rfl
                case hQ3zy4r => exact fun _ _ _ h => h
                case hy3zy4r =>
                  refine Or.inl ⟨by rfl, ?_⟩
                  intro w' hSw
                  obtain ⟨⟨o0, o1, o2, o3⟩, _, oz⟩ := (HS.out.1.call hSw).facts
                  have hF := HS.out.2.1.call hSw
                  obtain ⟨q0, q1, q2, q3⟩ := hF.1.facts
                  obtain ⟨r0, r1, r2, r3⟩ := hF.gap
                  have rz := hF.2.2
                  obtain ⟨⟨d0, d1, d2, d3⟩, dz⟩ := HD.out _ hSw
                  clear hSw hF
                  go_simp
                  try with_reducible rfl
                simp only [Act.put, List.setIfInBounds_toArray, List.set_cons_zero, List.set_cons_succ]
                refine wpAnyN_takeF (i := 4) (oi := ?o4zy4r) (v := ?v4zy4r) ?hi4zy4r (by kernel_rfl) (by kernel_rfl) (by kernel_rfl) (by decide) ?hQ4zy4r ?hy4zy4r (Below.drew (Below.refl _ _)) ?more4zy4r
                case hi4zy4r => rw [List.getElem?_toArray]; exact rfl
                case hQ4zy4r => exact fun _ _ _ h => h
                case hy4zy4r =>
                  refine Or.inl ⟨by rfl, ?_⟩
                  intro w' hSw
                  clear hSw
                  go_simp
                  try with_reducible rfl
                simp only [Act.put, List.setIfInBounds_toArray, List.set_cons_zero, List.set_cons_succ]
                refine wpAnyN_takeF (i := 5) (oi := ?o5zy4r) (v := ?v5zy4r) ?hi5zy4r (by kernel_rfl) (by kernel_rfl) (by kernel_rfl) (by decide) ?hQ5zy4r ?hy5zy4r (Below.drew (Below.refl _ _)) ?more5zy4r
                case hi5zy4r => rw [List.getElem?_toArray]; exact rfl
                case hQ5zy4r => exact fun _ _ _ h => h
                case hy5zy4r =>
                  refine Or.inl ⟨by rfl, ?_⟩
                  intro w' hSw
                  clear hSw
                  go_simp
                  try with_reducible rfl
                simp only [Act.put, List.setIfInBounds_toArray, List.set_cons_zero, List.set_cons_succ]
                refine wpAnyN_takeF (i := 6) (oi := ?o6zy4r) (v := ?v6zy4r) ?hi6zy4r (by kernel_rfl) (by kernel_rfl) (by kernel_rfl) (by decide) ?hQ6zy4r ?hy6zy4r (Below.drew (Below.refl _ _)) ?more6zy4r
                case hi6zy4r => rw [List.getElem?_toArray]; exact rfl
                case hQ6zy4r => exact fun _ _ _ h => h
                case hy6zy4r =>
                  refine Or.inl ⟨by rfl, ?_⟩
                  intro w' hSw
                  clear hSw
                  go_simp
                  try with_reducible rfl
                simp only [Act.put, List.setIfInBounds_toArray, List.set_cons_zero, List.set_cons_succ]
                refine wpAnyN_takeF (i := 7) (oi := ?o7zy4r) (v := ?v7zy4r) ?hi7zy4r (by kernel_rfl) (by kernel_rfl) (by kernel_rfl) (by decide) ?hQ7zy4r ?hy7zy4r (Below.drew (Below.refl _ _)) ?more7zy4r
                case hi7zy4r => rw [List.getElem?_toArray]; exact rfl
                case hQ7zy4r => exact fun _ _ _ h => h
                case hy7zy4r =>
                  refine Or.inl ⟨by rfl, ?_⟩
                  intro w' hSw
                  clear hSw
                  go_simp
                  try with_reducible rfl
                simp only [Act.put, List.setIfInBounds_toArray, List.set_cons_zero, List.set_cons_succ]
                refine wpAnyN_takeF (i := 8) (oi := ?o8zy4r) (v := ?v8zy4r) ?hi8zy4r (by kernel_rfl) (by kernel_rfl) (by kernel_rfl) (by decide) ?hQ8zy4r ?hy8zy4r (Below.drew (Below.refl _ _)) ?more8zy4r
                case hi8zy4r => rw [List.getElem?_toArray]; exact rfl
                case hQ8zy4r => exact fun _ _ _ h => h
                case hy8zy4r =>
                  refine Or.inl ⟨by rfl, ?_⟩
                  intro w' hSw
                  clear hSw
                  go_simp
                  try with_reducible rfl
                simp only [Act.put, List.setIfInBounds_toArray, List.set_cons_zero, List.set_cons_succ]
                refine wpAnyN_takeL (i := 9) (oi := ?o9zy4r) (v := ?v9zy4r) [10, 11] ?hi9zy4r (by kernel_rfl) (by kernel_rfl) (by kernel_rfl) (by kernel_rfl) (by decide) (by decide) (by kernel_rfl) ?hQ9zy4r ?hy9zy4r (Below.drew (Below.refl _ _)) ?more9zy4r
                case hi9zy4r => rw [List.getElem?_toArray]; exact rfl
                case hQ9zy4r => exact fun _ _ _ h => h
                case hy9zy4r =>
                  refine Or.inl ⟨by rfl, ?_⟩
                  intro w' hSw
                  obtain ⟨⟨o0, o1, o2, o3⟩, _, oz⟩ := (HS.out.1.call hSw).facts
                  have hF := HS.out.2.1.call hSw
                  obtain ⟨q0, q1, q2, q3⟩ := hF.1.facts
                  obtain ⟨r0, r1, r2, r3⟩ := hF.gap
                  have rz := hF.2.2
                  obtain ⟨⟨d0, d1, d2, d3⟩, dz⟩ := HD.out _ hSw
                  clear hSw hF
                  go_simp
                  try with_reducible rfl
                simp only [Act.put, List.setIfInBounds_toArray, List.set_cons_zero, List.set_cons_succ]
                refine wpAnyN_one (i := 10) (o := ?o10zy4r) (by kernel_rfl) ?hi10zy4r ?hw10zy4r ?st10zy4r
                case hi10zy4r => rw [List.getElem?_toArray]; exact rfl
                case hw10zy4r => exact rfl
                intro K hK
                have HK10 : Hid _ := hK
                clear hK
                go_simp
                refine (KI.out _).mono ?_
                rintro e w20 ⟨rfl, hq⟩
                have H20 : Hid (Below w19.heap.size w19 w20) := below_call0 (Below.drew (Below.refl _ _)) hq
                clear hq
                go_wp2_with fail
                refine HK10.out _ _ ⟨fun _ => H20.out, ?_⟩
                clear HK10 K
                try simp only [Act.put, List.setIfInBounds_toArray, List.set_cons_zero, List.set_cons_succ]
                refine wpAnyN_one (i := 11) (o := ?o11zy4r) (by kernel_rfl) ?hi11zy4r ?hw11zy4r ?st11zy4r
                case hi11zy4r => rw [List.getElem?_toArray]; exact rfl
                case hw11zy4r => exact rfl
                intro K hK
                have HK11 : Hid _ := hK
                clear hK
                go_simp
                refine (KM.out _).mono ?_
                rintro e w21 ⟨rfl, hq⟩
                have H21 : Hid (Below w19.heap.size w19 w21) := below_call0 H20.out hq
                clear hq
                go_wp2_with fail
                refine HK11.out _ _ ⟨fun _ => H21.out, ?_⟩
                clear HK11 K
                try simp only [Act.put, List.setIfInBounds_toArray, List.set_cons_zero, List.set_cons_succ]
                refine wpAnyN_one (i := 12) (o := ?o12zy4r) (by kernel_rfl) ?hi12zy4r ?hw12zy4r ?st12zy4r
                case hi12zy4r => rw [List.getElem?_toArray]; exact rfl
                case hw12zy4r => exact rfl
                intro K hK
                have HK12 : Hid _ := hK
                clear hK
                go_simp
                refine HK12.out _ _ ⟨fun h => absurd h (by decide +kernel), ?_⟩
                clear HK12 K
                try simp only [Act.put, List.setIfInBounds_toArray, List.set_cons_zero, List.set_cons_succ]
                refine wpAnyN_one (i := 13) (o := ?o13zy4r) (by kernel_rfl) ?hi13zy4r ?hw13zy4r ?st13zy4r
                case hi13zy4r => rw [List.getElem?_toArray]; exact rfl
                case hw13zy4r => exact rfl
                intro K hK
                have HK13 : Hid _ := hK
                clear hK
                have HAP : Hid (RowN (w21.alloc (.cells #[.int .u64 (limb v 0 : Nat), .int .u64 (limb v 1 : Nat), .int .u64 (limb v 2 : Nat), .int .u64 (limb v 3 : Nat)] 25)) wz.heap.size a7 (rtL cs) cap7 ∧ Num4 (w21.alloc (.cells #[.int .u64 (limb v 0 : Nat), .int .u64 (limb v 1 : Nat), .int .u64 (limb v 2 : Nat), .int .u64 (limb v 3 : Nat)] 25)) w21.heap.size v ∧ Below wz.heap.size wz (w21.alloc (.cells #[.int .u64 (limb v 0 : Nat), .int .u64 (limb v 1 : Nat), .int .u64 (limb v 2 : Nat), .int .u64 (limb v 3 : Nat)] 25))) := ⟨(H19.out.2.1.call H21.out).alloc, Num4.new _ _ _, below_alloc0 (below_call0 H19.out.2.2 H21.out) _⟩
                refine owp_append_RowN _ (.tmp 116) (.tmp 128) rfl wz.heap.size a7 m7 cap7 (rtL cs) v rfl (by rw [H19.out.1]; exact HNP.out.2.1) HAP.out.1 HAP.out.2.2.size HNP.out.2.2.2 w21.heap.size 1 rfl HAP.out.2.1 ?_
                intro a8 m8 cap8 w22 hm8 hR8 hb8
                have H22 : Hid (RowN w22 wz.heap.size a8 (rtL cs ++ [v]) cap8 ∧ Below wz.heap.size wz w22) := ⟨hR8, HAP.out.2.2.trans hb8⟩
                have hMM : M = m8 := (by rw [hm8, H19.out.1]; exact HA.out.2.1)
                subst hMM
                clear hm8 hR8 hb8
                refine HK13.out _ _ ⟨fun h => absurd h (by decide +kernel), ?_⟩
                clear HK13 K
                try simp only [Act.put, List.setIfInBounds_toArray, List.set_cons_zero, List.set_cons_succ]
                refine wpAnyN_one (i := 14) (o := ?o14zy4r) (by kernel_rfl) ?hi14zy4r ?hw14zy4r ?st14zy4r
                case hi14zy4r => rw [List.getElem?_toArray]; exact rfl
                case hw14zy4r => exact rfl
                intro K hK
                have HK14 : Hid _ := hK
                clear hK
                go_simp
                refine HK14.out _ _ ⟨fun h => absurd h (by decide +kernel), ?_⟩
                clear HK14 K
                try simp only [Act.put, List.setIfInBounds_toArray, List.set_cons_zero, List.set_cons_succ]
                refine wpAnyN_done (by kernel_rfl) ?_ _
                clear m1 m2 m3 m4
                have HY : Hid (Below w13.heap.size w13 w22 ∧ Below w.heap.size w w22) := ⟨below_call0 HZ.out.2.1 H22.out.2, below_call0 HZ.out.2.2.1 H22.out.2⟩
                go_wp2_with fail
                refine (KJ.out _ _ _ _ _ (H0.out.1.call HY.out.2) (H13.out.2.1.call HY.out.1) H22.out.1.nums).mono ?_
                rintro e w23 ⟨rfl, hb23⟩
                have H23 : Hid (Below w.heap.size w (w23.alloc (.cells #[.int .u64 (limb t 0 : Nat), .int .u64 (limb t 1 : Nat), .int .u64 (limb t 2 : Nat), .int .u64 (limb t 3 : Nat)] 25))) := below_alloc0 (below_call0 HY.out.2 hb23) _
                obtain ⟨⟨t0, t1, t2, t3⟩, _, tz⟩ := ((H13.out.2.2.1.call HY.out.1).call hb23).facts
                have g1 := eq4_self' (limb t 0 : Nat) (limb t 1 : Nat) (limb t 2 : Nat) (limb t 3 : Nat)
                clear hb23
                go_wp2_with fail
                refine (KL.out _ (H0.out.1.call H23.out)).mono ?_
                rintro e w31 ⟨rfl, hb31⟩
                have H31 : Hid (Below w.heap.size w w31) := below_call0 H23.out hb31
                clear hb31
                go_wp2_with fail
                go_ret
                exact ⟨rfl, H31.out⟩
    case st11y2x3 =>
      intro K hK
      have HK11y5 : Hid _ := hK
      clear hK
      go_simp
      refine HK11y5.out _ _ ⟨fun _ => (below_alloc0 H0y2.out _), ?_⟩
      clear HK11y5 K
      try simp only [Act.put, List.setIfInBounds_toArray, List.set_cons_zero, List.set_cons_succ]
      refine wpAnyN_one (i := 10) (o := ?o10y5) (by kernel_rfl) ?hi10y5 ?hw10y5 ?st10y5
      case hi10y5 => rw [List.getElem?_toArray]; exact rfl
      case hw10y5 => exact rfl
      intro K hK
      have HK10y5 : Hid _ := hK
      clear hK
      go_simp
      refine (KD.out _).mono ?_
      rintro e w10y5 ⟨rfl, hq⟩
      have H10y5 : Hid (Below w1.heap.size w1 w10y5) := below_call0 (below_alloc0 H0y2.out _) hq
      have P10y5 : Hid (Pend w10y5 (w0y2.heap.size)) := Pend.call (Pend.new' (W := w0y2) (t := 25) rfl) hq
      clear hq
      go_wp2_with fail
      refine HK10y5.out _ _ ⟨fun _ => H10y5.out, ?_⟩
      clear HK10y5 K
      try simp only [Act.put, List.setIfInBounds_toArray, List.set_cons_zero, List.set_cons_succ]
      refine wpAnyN_one (i := 12) (o := ?o12y5) (by kernel_rfl) ?hi12y5 ?hw12y5 ?st12y5
      case hi12y5 => rw [List.getElem?_toArray]; exact rfl
      case hw12y5 => exact rfl
      intro K hK
      have HK12y5 : Hid _ := hK
      clear hK
      obtain ⟨⟨o0, o1, o2, o3⟩, ⟨f0, f1, f2, f3⟩, oz⟩ := Pend.facts P10y5.out
      try simp only [World.size_alloc] at o0 o1 o2 o3 f0 f1 f2 f3 oz
      go_simp
      refine HK12y5.out _ _ ⟨fun h => absurd h (by decide +kernel), ?_⟩
      clear HK12y5 K
      try simp only [Act.put, List.setIfInBounds_toArray, List.set_cons_zero, List.set_cons_succ]
      refine wpAnyN_done (by kernel_rfl) ?_ _
      obtain ⟨wS, hwS⟩ : ∃ y, y = ((((w10y5.setCell ⟨w0y2.heap.size, 0, none⟩ (.int .u64 (limb t 0 : Nat))).setCell ⟨w0y2.heap.size, 1, none⟩ (.int .u64 (limb t 1 : Nat))).setCell ⟨w0y2.heap.size, 2, none⟩ (.int .u64 (limb t 2 : Nat))).setCell ⟨w0y2.heap.size, 3, none⟩ (.int .u64 (limb t 3 : Nat))) := ⟨_, rfl⟩
      have HT : Hid (Own4 wS (w0y2.heap.size) t ∧ Below w1.heap.size w1 wS) := by rw [hwS]; exact ⟨Pend.own P10y5.out, Below.setCell (Below.setCell (Below.setCell (Below.setCell H10y5.out (Below.size H0y2.out) _) (Below.size H0y2.out) _) (Below.size H0y2.out) _) (Below.size H0y2.out) _⟩
      rw [← hwS]
      clear hwS o0 o1 o2 o3 f0 f1 f2 f3 oz
      have HW : Hid (Below w.heap.size w wS ∧ Nums wS pa (rtL cs) ∧ Own4 wS (w0y2.heap.size) t) := ⟨below_call0 H1.out.1 HT.out.2, H1.out.2.2.1.call HT.out.2, HT.out.1⟩
      clear HT
      go_wp2_with fail
      refine (KA.out _ (H0.out.2.2.1.call HW.out.1)).mono ?_
      rintro e w10 ⟨rfl, hb10⟩
      rw [HI.out.1]
      have H10 : Hid (Below w.heap.size w w10 ∧ Own4 w10 (w0y2.heap.size) t ∧ Nums w10 pa (rtL cs)) := ⟨below_call0 HW.out.1 hb10, HW.out.2.2.call hb10, HW.out.2.1.call hb10⟩
      clear hb10 HW KA
      have hPn : n = P := by rw [H1.out.2.2.2]; exact HI.out.2.1
      subst hPn
      obtain ⟨B, hB⟩ : ∃ B, B = w0y2.heap.size := ⟨_, rfl⟩
      rw [← hB] at H10
      rw [← hB]
      clear hB
      go_wp2_with fail
      rename_i Kr hKr
      have HKr : Hid _ := hKr
      clear hKr p9
      go_loopw [9, 10] (fun ov iv wr => ∃ i y : Nat, i ≤ 10 ∧ iv = .int .i64 (i : Nat) ∧ ov = .int .i64 (y : Nat) ∧ (1 ≤ y ∧ y ≤ 1 + 10 * i) ∧ ((y : Int) ∉ l ∨ i + 1 ≤ y) ∧ Below w10.heap.size w10 wr) (fun _ iv _ => 10 - (Go.RowKit.intOf iv).toNat)
      case atStart => exact ⟨0, 1, by decide, rfl, rfl, by decide, .inr (by decide), Below.refl _ _⟩
      case round =>
        obtain ⟨i, y, hi, rfl, rfl, hy, hor, hB⟩ := hrel
        rename World => wr
        have HR : Hid (Below w10.heap.size w10 wr ∧ Below w.heap.size w wr ∧ (1 ≤ y ∧ y ≤ 1 + 10 * i) ∧ ((y : Int) ∉ l ∨ i + 1 ≤ y) ∧ i ≤ 10) := ⟨hB, below_call0 H10.out.1 hB, hy, hor, hi⟩
        clear hor hB
        by_cases hlt : i < 10
        · clear HKr
          have hlt' : (i : Int) < 10 := by omega
          have y100 : (y : Int) ≤ 100 := by omega
          clear hy hi
          go_wp2_with fail
          rename_i Kq hKq
          have HKq : Hid _ := hKq
          clear hKq
          go_loopw [9, 57] (fun ov jv wi => ∃ j z : Nat, j ≤ n ∧ jv = .int .i64 (j : Nat) ∧ ov = .int .i64 (z : Nat) ∧ (y ≤ z ∧ z ≤ y + j) ∧ ((y : Int) ∉ l → z = y) ∧ (z = y → (y : Int) ∉ l.take j) ∧ Below w10.heap.size w10 wi) (fun _ jv _ => n - (Go.RowKit.intOf jv).toNat)
          case atStart => exact ⟨0, y, Nat.zero_le _, rfl, rfl, ⟨Nat.le_refl _, Nat.le_refl _⟩, fun _ => rfl, fun _ h => (List.not_mem_nil h).elim, HR.out.1⟩
          case round =>
            obtain ⟨j, z, hj, rfl, rfl, hz, hz1, hz2, hB⟩ := hrel
            rename World => wi
            have HJ : Hid (Below w10.heap.size w10 wi ∧ Below w.heap.size w wi ∧ (y ≤ z ∧ z ≤ y + j) ∧ ((y : Int) ∉ l → z = y) ∧ (z = y → (y : Int) ∉ l.take j)) := ⟨hB, below_call0 H10.out.1 hB, hz, hz1, hz2⟩
            clear hz1 hz2 hB
            by_cases hjt : j < n
            · clear HKq
              have hjl : j < l.length := by rw [← H0.out.2.2.2.1]; exact hjt
              have hjt' : (j : Int) < (n : Int) := Int.ofNat_lt.2 hjt
              have z200 : (z : Int) ≤ 200 := by omega
              obtain ⟨p, o, rfl, c0, pz⟩ := (H0.out.2.2.1.call HJ.out.2.1).get hjl
              obtain ⟨u, hu⟩ : ∃ u, u = (l[j]'hjl) := ⟨_, rfl⟩
              rw [← hu] at c0
              by_cases huz : u = (z : Int)
              · have HE : Hid ((y ≤ z + 1 ∧ z + 1 ≤ y + (j + 1)) ∧ ((y : Int) ∉ l → z + 1 = y) ∧ (z + 1 = y → (y : Int) ∉ l.take (j + 1)) ∧ Below w10.heap.size w10 wi) := by
                  refine ⟨by omega, fun h => ?_, fun h => by omega, HJ.out.1⟩
                  have e := HJ.out.2.2.2.1 h
                  exact absurd (by rw [← e, ← huz, hu]; exact List.getElem_mem hjl) h
                subst huz
                clear hu hz
                go_wp2_with fail
                go_roundw
                case rel => first | exact ⟨j + 1, z + 1, hjt, by go_num, by go_num, HE.out⟩ | ((repeat apply Exists.intro); exact ⟨⟨j + 1, z + 1, hjt, by go_num, by go_num, HE.out⟩, rfl⟩)
                case measure => simp [intOf]; omega
              · have HE : Hid ((y ≤ z ∧ z ≤ y + (j + 1)) ∧ ((y : Int) ∉ l → z = y) ∧ (z = y → (y : Int) ∉ l.take (j + 1)) ∧ Below w10.heap.size w10 wi) := by
                  refine ⟨by omega, HJ.out.2.2.2.1, fun h => ?_, HJ.out.1⟩
                  rw [List.take_succ_eq_append_getElem hjl, ← hu]
                  intro hm
                  rcases List.mem_append.1 hm with g | g
                  · exact HJ.out.2.2.2.2 h g
                  · exact huz (by rw [h]; exact (List.mem_singleton.1 g).symm)
                have e1 : (u == (z : Int)) = false := by simpa using huz
                clear hu hz
                go_wp2_with fail
                go_roundw
                case rel => first | exact ⟨j + 1, z, hjt, by go_num, rfl, HE.out⟩ | ((repeat apply Exists.intro); exact ⟨⟨j + 1, z, hjt, by go_num, rfl, HE.out⟩, rfl⟩)
                case measure => simp [intOf]; omega
            · obtain rfl : j = n := by omega
              have hnl : ¬ ((j : Int) < (j : Int)) := Int.lt_irrefl _
              have HE : Hid ((1 ≤ z ∧ z ≤ 1 + 10 * (i + 1)) ∧ ((z : Int) ∉ l ∨ i + 1 + 1 ≤ z) ∧ Below w10.heap.size w10 wi) := by
                have e1 : l.take j = l := List.take_of_length_le (by rw [← H0.out.2.2.2.1]; exact Nat.le_refl _)
                have h1 := HJ.out
                rw [e1] at h1
                have h2 := HR.out.2.2.1
                have h9 := HI.out.2.2
                refine ⟨by omega, ?_, h1.1⟩
                by_cases hzy : z = y
                · left; rw [hzy]; exact h1.2.2.2.2 hzy
                · right
                  rcases HR.out.2.2.2.1 with g | g
                  · exact absurd (h1.2.2.2.1 g) hzy
                  · omega
              clear hjt hj hz
              go_wp2_with fail
              refine HKq.out _ _ ?_
              clear HKq
              go_wp2_with fail
              go_roundw
              case rel => first | exact ⟨i + 1, z, hlt, by go_num, rfl, HE.out⟩ | ((repeat apply Exists.intro); exact ⟨⟨i + 1, z, hlt, by go_num, rfl, HE.out⟩, rfl⟩)
              case measure => simp [intOf]; omega
        · obtain rfl : i = 10 := by omega
          clear hlt hi
          by_cases hy10 : 10 < y
          · have hy' : (10 : Int) < (y : Int) := by omega
            clear hy hy10
            go_wp2_with fail
            refine HKr.out _ _ ?_
            clear HKr
            go_wp2_with fail
            refine (KL.out _ (H0.out.1.call HR.out.2.1)).mono ?_
            rintro e w30 ⟨rfl, hb30⟩
            have H30 : Hid (Below w.heap.size w w30) := below_call0 HR.out.2.1 hb30
            clear hb30
            go_wp2_with fail
            go_ret
            exact ⟨rfl, H30.out⟩
          · have hy' : ¬ ((10 : Int) < (y : Int)) := by omega
            have hynl : (y : Int) ∉ l := by rcases HR.out.2.2.2.1 with g | g; exact g; omega
            have hPA := nodes_more (nodes_ok HI.out.1).1 hy.1 (by omega) hynl
            obtain ⟨A, hA⟩ : ∃ A, A = l ++ [(y : Int)] := ⟨_, rfl⟩
            rw [← hA] at hPA
            have hAl : A.length = n + 1 := by rw [hA, List.length_append, ← H0.out.2.2.2.1]; rfl
            have hAok : nodesOk A = true := decide_eq_true ⟨hPA, by omega⟩
            obtain ⟨M, hM⟩ : ∃ M, M = n + 1 := ⟨_, rfl⟩
            have KW : Hid (∀ (a5 : Option Addr) (c5 : Nat) (w : World), GlobQ w → IntsAt w a5 A → Calls Tryd.prog 14 #[.slice a5 M c5, .agg #[.int .u64 0, .int .u64 0, .int .u64 0, .int .u64 0]] w fun e w' => ∃ b, e = .returned (.tuple #[.slice (some ⟨b, 0, none⟩) M M, .int .i64 0]) ∧ Nums w' (some ⟨b, 0, none⟩) (wsL A 0) ∧ Below w.heap.size w w') := fun a5 c5 w h1 h2 => by
              have h := weights_in a5 A c5 0 (by omega) hAok QQ_pos w h1 h2
              rw [limb_nought, limb_nought, limb_nought, limb_nought, hAl, ← hM] at h
              exact h.mono fun e w' ⟨b, h, g, _, k⟩ => ⟨b, h, g, k⟩
            obtain ⟨v, hv⟩ : ∃ v, v = reK t (wAt A 0) (fun i => (rtL cs)[i]?.getD 0) n * (wAt A 0 n ^ (QQ - 2) % QQ) % QQ := ⟨_, rfl⟩
            have KJ : Hid (∀ (a5 b5 : Option Addr) (c5 d5 : Nat) (w : World), GlobQ w → IntsAt w a5 A → Nums w b5 (rtL cs ++ [v]) → Calls Tryd.prog 18 #[.slice a5 M c5, .slice b5 M d5, .agg #[.int .u64 0, .int .u64 0, .int .u64 0, .int .u64 0]] w fun e w' => e = .returned (.tuple #[.agg #[.int .u64 (limb (t) 0 : Nat), .int .u64 (limb (t) 1 : Nat), .int .u64 (limb (t) 2 : Nat), .int .u64 (limb (t) 3 : Nat)], .int .i64 0]) ∧ Below w.heap.size w w') := fun a5 b5 c5 d5 w h1 h2 h3 => by
              have hlv : (rtL cs ++ [v]).length = A.length := by rw [List.length_append, ← HI.out.2.1, hAl]; rfl
              have hav : allQ (rtL cs ++ [v]) = true := by
                have h := rtL_all cs
                unfold allQ at h ⊢
                rw [List.all_append, h]
                have hvq : v < QQ := by rw [hv]; exact Nat.mod_lt _ QQ_pos
                simp [hvq]
              have h := join_in a5 b5 A (rtL cs ++ [v]) c5 d5 0 (by omega) hAok QQ_pos hlv hav w h1 h2 h3
              rw [hides hPA hAl HI.out.2.1.symm H0.out.2.2.2.2.1 hv, hlv, hAl, ← hM, limb_nought, limb_nought, limb_nought, limb_nought] at h
              exact h
            have HA : Hid (A = l ++ [(y : Int)] ∧ M = n + 1 ∧ v = reK t (wAt A 0) (fun i => (rtL cs)[i]?.getD 0) n * (wAt A 0 n ^ (QQ - 2) % QQ) % QQ ∧ A.length = n + 1) := ⟨hA, hM, hv, hAl⟩
            have m1 : (M : Int) - 1 = (n : Int) := by omega
            have m2 : IntKind.i64.wrap ((M : Int) - 1) = (n : Int) := by rw [IntKind.wrap_i64]; omega
            have m3 : (n : Int) < (M : Int) := by omega
            have m4 : n < M := by omega
            have HM : Hid ((M : Int) - 1 = (n : Int) ∧ IntKind.i64.wrap ((M : Int) - 1) = (n : Int) ∧ (n : Int) < (M : Int)) := ⟨m1, m2, m3⟩
            clear hy hynl hPA hA hAl hAok hM hv hy10 m1 m2 m3 m4
            obtain ⟨b0, bo, rfl⟩ : ∃ b0 bo, b = some ⟨b0, bo, none⟩ := by
              obtain ⟨p, o, e, _, _⟩ := H0.out.2.2.1.get (nodes_ok HI.out.1).2
              exact ⟨p, o, e⟩
            have HNN : Hid (IntsAt wr (some ⟨b0, bo, none⟩) l ∧ n = l.length ∧ n ≤ 9) := ⟨H0.out.2.2.1.call HR.out.2.1, H0.out.2.2.2.1, HI.out.2.2⟩
            have HL1 : Hid (([] : List Int).length + l.length ≤ 1000000) := by
              have h1 := HNN.out.2
              show 0 + l.length ≤ _
              omega
            have HL2 : Hid (l.length + 1 ≤ 1000000) := by
              have h1 := HNN.out.2
              unfold Hid
              omega
            go_wp2_with fail
            refine HKr.out _ _ ?_
            clear HKr
            go_wp2_with (at_builtin; first | (refine wpList_append_RowJ _ rfl (.tmp 70) (.tmp 71) rfl wr.heap.size none 0 0 [] l rfl rfl (RowJ.nil _ _) (Nat.le_refl _) HL1.out b0 bo n d rfl HNN.out.2.1 HNN.out.1 ?_; intro a5 m5 cap5 w5 hm5 hR5 hb5; have H5 : Hid (m5 = n ∧ RowJ w5 wr.heap.size a5 l cap5 ∧ Below wr.heap.size wr w5) := ⟨by rw [hm5, Nat.zero_add], hR5, hb5⟩; clear hm5 hR5 hb5) | ((refine wpList_append_RowJ _ rfl (.tmp 73) (.tmp 75) rfl wr.heap.size a5 m5 cap5 l [(y : Int)] rfl (by rw [H5.out.1]; exact HNN.out.2.1) H5.out.2.1.alloc (Nat.le_trans H5.out.2.2.size (by simp)) HL2.out w5.heap.size 0 1 1 rfl rfl (IntsAt.one' rfl) ?_; intro a6 m6 cap6 w6 hm6 hR6 hb6; have H6 : Hid (RowJ w6 wr.heap.size a6 A cap6 ∧ Below wr.heap.size wr w6) := ⟨by rw [HA.out.1]; exact hR6, (below_alloc0 H5.out.2.2 _).trans hb6⟩; have hMM : M = m6 := (by rw [hm6, H5.out.1]; exact HA.out.2.1); subst hMM; clear hm6 hR6 hb6)))
            clear hy'
            have H7 : Hid (Below w.heap.size w w6 ∧ IntsAt w6 a6 A ∧ Own4 w6 B t ∧ Nums w6 pa (rtL cs)) := ⟨below_call0 HR.out.2.1 H6.out.2, H6.out.1.ints, (H10.out.2.1.call HR.out.1).call H6.out.2, (H10.out.2.2.call HR.out.1).call H6.out.2⟩
            clear H5 H6 HL1 HL2 HNN
            refine (KW.out _ _ _ (H0.out.1.call H7.out.1) H7.out.2.1).mono ?_
            rintro e w11 ⟨yb, rfl, hqq, hb11⟩
            have H11 : Hid (Below w.heap.size w w11 ∧ IntsAt w11 a6 A ∧ Own4 w11 B t ∧ Nums w11 pa (rtL cs) ∧ Nums w11 (some ⟨yb, 0, none⟩) (wsL A 0)) := ⟨below_call0 H7.out.1 hb11, H7.out.2.1.call hb11, H7.out.2.2.1.call hb11, H7.out.2.2.2.call hb11, hqq⟩
            clear hqq hb11 H7 KW
            skip
            go_wp2_with fail
            skip
            refine (KS.out _).mono ?_
            rintro e w12 ⟨rfl, hb12⟩
            obtain ⟨w13, hw13⟩ : ∃ y, y = w12.alloc (.cells #[.int .u64 (limb q 0 : Nat), .int .u64 (limb q 1 : Nat), .int .u64 (limb q 2 : Nat), .int .u64 (limb q 3 : Nat), .int .u64 (limb (R256 - q) 0 : Nat), .int .u64 (limb (R256 - q) 1 : Nat), .int .u64 (limb (R256 - q) 2 : Nat), .int .u64 (limb (R256 - q) 3 : Nat)] 55) := ⟨_, rfl⟩
            have H13 : Hid (Below w.heap.size w w13 ∧ IntsAt w13 a6 A ∧ Own4 w13 B t ∧ Nums w13 pa (rtL cs) ∧ Nums w13 (some ⟨yb, 0, none⟩) (wsL A 0) ∧ FieldB w13 w12.heap.size q ∧ w12.heap.size + 1 = w13.heap.size ∧ w13 = w12.alloc (.cells #[.int .u64 (limb q 0 : Nat), .int .u64 (limb q 1 : Nat), .int .u64 (limb q 2 : Nat), .int .u64 (limb q 3 : Nat), .int .u64 (limb (R256 - q) 0 : Nat), .int .u64 (limb (R256 - q) 1 : Nat), .int .u64 (limb (R256 - q) 2 : Nat), .int .u64 (limb (R256 - q) 3 : Nat)] 55)) := by
              have hb : Below w11.heap.size w11 w13 := by rw [hw13]; exact below_alloc0 hb12 _
              refine ⟨below_call0 H11.out.1 hb, H11.out.2.1.call hb, H11.out.2.2.1.call hb, H11.out.2.2.2.1.call hb, H11.out.2.2.2.2.call hb, ?_, ?_, hw13⟩
              · rw [hw13]; exact FieldB.new _ _ _
              · rw [hw13]; simp
            clear hb12 hw13 H11
            obtain ⟨⟨t0, t1, t2, t3⟩, _, tz⟩ := H13.out.2.2.1.facts
            rw [H13.out.2.2.2.2.2.2.2] at t0 t1 t2 t3 tz
            go_wp2_with fail
            rw [← H13.out.2.2.2.2.2.2.2]
            try rw [H13.out.2.2.2.2.2.2.1]
            clear t0 t1 t2 t3 tz
            obtain ⟨w14, hw14⟩ : ∃ y, y = w13.alloc (.cells #[.int .u64 (limb t 0 : Nat), .int .u64 (limb t 1 : Nat), .int .u64 (limb t 2 : Nat), .int .u64 (limb t 3 : Nat)] 25) := ⟨_, rfl⟩
            have H14 : Hid (Below w13.heap.size w13 w14 ∧ Own4 w14 w13.heap.size t) := by rw [hw14]; exact ⟨below_alloc0 (Below.refl _ _) _, Own4.new _ _ _⟩
            rw [← hw14]
            clear hw14
            rename_i Kz hKz
            have HKz : Hid _ := hKz
            clear hKz
            go_loopw [96] (fun iv wz => ∃ k : Nat, k ≤ n ∧ iv = .int .i64 (k : Nat) ∧ Own4 wz w13.heap.size (reK t (wAt A 0) (fun i => (rtL cs)[i]?.getD 0) k) ∧ Below w13.heap.size w13 wz) (fun iv _ => n - (Go.RowKit.intOf iv).toNat)
            case atStart => exact ⟨0, Nat.zero_le _, rfl, H14.out.2, H14.out.1⟩
            case round =>
              obtain ⟨k, hk, rfl, hO, hB⟩ := hrel
              rename World => wz
              obtain ⟨r, hr⟩ : ∃ r, r = reK t (wAt A 0) (fun i => (rtL cs)[i]?.getD 0) k := ⟨_, rfl⟩
              rw [← hr] at hO
              have HZ : Hid (Own4 wz w13.heap.size r ∧ Below w13.heap.size w13 wz ∧ Below w.heap.size w wz ∧ r = reK t (wAt A 0) (fun i => (rtL cs)[i]?.getD 0) k ∧ FieldB wz w12.heap.size q) := ⟨hO, hB, below_call0 H13.out.1 hB, hr, H13.out.2.2.2.2.2.1.call hB⟩
              clear hO hB hr
              by_cases hlt : k < n
              · clear HKz
                have hkp : k < (rtL cs).length := by rw [← HI.out.2.1]; exact hlt
                have hkw : k < (wsL A 0).length := by rw [wsL_length, HA.out.2.2.2]; omega
                have hlt' : (k : Int) < (n : Int) := Int.ofNat_lt.2 hlt
                have hltM : (k : Int) < (M : Int) := by have := HM.out.2.2; omega
                obtain ⟨p', o', e', ⟨d0, d1, d2, d3⟩, dz⟩ := (H13.out.2.2.2.2.1.call HZ.out.2.1).get hkw
                simp only [Option.some.injEq, Addr.mk.injEq, and_true] at e'
                obtain ⟨rfl, rfl⟩ := e'
                rw [Nat.zero_add, wsL_get] at d0 d1 d2 d3
                obtain ⟨p, o, hpa, ⟨c0, c1, c2, c3⟩, cz⟩ := (H13.out.2.2.2.1.call HZ.out.2.1).get hkp
                subst hpa
                obtain ⟨W, hW⟩ : ∃ W, W = wAt A 0 k := ⟨_, rfl⟩
                obtain ⟨s, hs⟩ : ∃ s, s = ((rtL cs)[k]'hkp) := ⟨_, rfl⟩
                rw [← hW] at d0 d1 d2 d3
                rw [← hs] at c0 c1 c2 c3
                obtain ⟨f, hf⟩ : ∃ f, f = W * s % QQ := ⟨_, rfl⟩
                obtain ⟨u, hu⟩ : ∃ u, u = subM QQ r f := ⟨_, rfl⟩
                have KM : Hid (∀ w, Calls Tryd.prog 29 #[.agg #[.int .u64 (limb (q) 0 : Nat), .int .u64 (limb (q) 1 : Nat), .int .u64 (limb (q) 2 : Nat), .int .u64 (limb (q) 3 : Nat), .int .u64 (limb (R256 - (q)) 0 : Nat), .int .u64 (limb (R256 - (q)) 1 : Nat), .int .u64 (limb (R256 - (q)) 2 : Nat), .int .u64 (limb (R256 - (q)) 3 : Nat)], .agg #[.int .u64 (limb (W) 0 : Nat), .int .u64 (limb (W) 1 : Nat), .int .u64 (limb (W) 2 : Nat), .int .u64 (limb (W) 3 : Nat)], .agg #[.int .u64 (limb (s) 0 : Nat), .int .u64 (limb (s) 1 : Nat), .int .u64 (limb (s) 2 : Nat), .int .u64 (limb (s) 3 : Nat)]] w fun e w' => e = .returned (.agg #[.int .u64 (limb (f) 0 : Nat), .int .u64 (limb (f) 1 : Nat), .int .u64 (limb (f) 2 : Nat), .int .u64 (limb (f) 3 : Nat)]) ∧ Below w.heap.size w w') := fun w => by rw [H0.out.2.2.2.2.2, hf]; exact mul2_any QQ W s FM_Q FS_Q (by rw [hW]; exact Nat.lt_trans (wAt_lt _ _ _) FM_Q.2.1) (by rw [hs]; exact Nat.lt_trans (allQ_get (rtL_all cs) hkp) FM_Q.2.1) w
                have KU : Hid (∀ w, Calls Tryd.prog 28 #[.agg #[.int .u64 (limb (q) 0 : Nat), .int .u64 (limb (q) 1 : Nat), .int .u64 (limb (q) 2 : Nat), .int .u64 (limb (q) 3 : Nat), .int .u64 (limb (R256 - (q)) 0 : Nat), .int .u64 (limb (R256 - (q)) 1 : Nat), .int .u64 (limb (R256 - (q)) 2 : Nat), .int .u64 (limb (R256 - (q)) 3 : Nat)], .agg #[.int .u64 (limb (r) 0 : Nat), .int .u64 (limb (r) 1 : Nat), .int .u64 (limb (r) 2 : Nat), .int .u64 (limb (r) 3 : Nat)], .agg #[.int .u64 (limb (f) 0 : Nat), .int .u64 (limb (f) 1 : Nat), .int .u64 (limb (f) 2 : Nat), .int .u64 (limb (f) 3 : Nat)]] w fun e w' => e = .returned (.agg #[.int .u64 (limb (u) 0 : Nat), .int .u64 (limb (u) 1 : Nat), .int .u64 (limb (u) 2 : Nat), .int .u64 (limb (u) 3 : Nat)]) ∧ Below w.heap.size w w') := fun w => by rw [H0.out.2.2.2.2.2, hu]; exact sub2_any QQ r f FM_Q.2.1 (by rw [HZ.out.2.2.2.1]; exact reK_lt H0.out.2.2.2.2.1 _ _ _) (by rw [hf]; exact Nat.mod_lt _ QQ_pos) w
                have HU : Hid (u = reK t (wAt A 0) (fun i => (rtL cs)[i]?.getD 0) (k + 1)) := by
                  show u = subM QQ (reK t (wAt A 0) (fun i => (rtL cs)[i]?.getD 0) k) (wAt A 0 k * (rtL cs)[k]?.getD 0 % QQ)
                  rw [List.getElem?_eq_getElem hkp, ← HZ.out.2.2.2.1, ← hW]
                  show u = subM QQ r (W * ((rtL cs)[k]'hkp) % QQ)
                  rw [← hs, ← hf]; exact hu
                have HD : Hid (∀ w', Below wz.heap.size wz w' → (w'.cell? ⟨yb, k * 4, none⟩ = some (.int .u64 (limb W 0 : Nat)) ∧ w'.cell? ⟨yb, k * 4 + 1, none⟩ = some (.int .u64 (limb W 1 : Nat)) ∧ w'.cell? ⟨yb, k * 4 + 2, none⟩ = some (.int .u64 (limb W 2 : Nat)) ∧ w'.cell? ⟨yb, k * 4 + 3, none⟩ = some (.int .u64 (limb W 3 : Nat))) ∧ yb < w'.heap.size) := fun w' hb => by
                  have e := fun j => hb.cell (p := ⟨yb, j, none⟩) dz
                  exact ⟨⟨(e _).trans d0, (e _).trans d1, (e _).trans d2, (e _).trans d3⟩, Nat.lt_of_lt_of_le dz hb.size⟩
                have HC : Hid (∀ w', Below wz.heap.size wz w' → (w'.cell? ⟨p, o + k * 4, none⟩ = some (.int .u64 (limb s 0 : Nat)) ∧ w'.cell? ⟨p, o + k * 4 + 1, none⟩ = some (.int .u64 (limb s 1 : Nat)) ∧ w'.cell? ⟨p, o + k * 4 + 2, none⟩ = some (.int .u64 (limb s 2 : Nat)) ∧ w'.cell? ⟨p, o + k * 4 + 3, none⟩ = some (.int .u64 (limb s 3 : Nat))) ∧ p < w'.heap.size) := fun w' hb => by
                  have e := fun j => hb.cell (p := ⟨p, j, none⟩) cz
                  exact ⟨⟨(e _).trans c0, (e _).trans c1, (e _).trans c2, (e _).trans c3⟩, Nat.lt_of_lt_of_le cz hb.size⟩
                clear hW hs hf hu d0 d1 d2 d3 dz c0 c1 c2 c3 cz
                go_wp2_with fail
                refine wp_region_N (fun w' => Below wz.heap.size wz w') 13 14 rfl (by kernel_rfl) ?_
                refine wpAnyN_take (i := 0) (oi := ?o0zy5p) (v := ?v0zy5p) ?hi0zy5p (by kernel_rfl) (by kernel_rfl) (by kernel_rfl) (by kernel_rfl) (by decide) (by kernel_rfl) ?hQ0zy5p ?hy0zy5p (Below.drew (Below.refl _ _)) ?more0zy5p
                case hi0zy5p => rw [List.getElem?_toArray]; exact rfl
                case hQ0zy5p => exact fun _ _ _ h => h
                case hy0zy5p =>
                  refine Or.inl ⟨by rfl, ?_⟩
                  intro w' hSw
                  obtain ⟨⟨o0, o1, o2, o3⟩, _, oz⟩ := (HZ.out.1.call hSw).facts
                  have hF := HZ.out.2.2.2.2.call hSw
                  obtain ⟨q0, q1, q2, q3⟩ := hF.1.facts
                  obtain ⟨r0, r1, r2, r3⟩ := hF.gap
                  have rz := hF.2.2
                  obtain ⟨⟨d0, d1, d2, d3⟩, dz⟩ := HD.out _ hSw
                  obtain ⟨⟨c0, c1, c2, c3⟩, cz⟩ := HC.out _ hSw
                  clear hSw hF
                  go_simp
                  try with_reducible rfl
                simp only [Act.put, List.setIfInBounds_toArray, List.set_cons_zero, List.set_cons_succ]
                refine wpAnyN_take (i := 1) (oi := ?o1zy5p) (v := ?v1zy5p) ?hi1zy5p (by kernel_rfl) (by kernel_rfl) (by kernel_rfl) (by kernel_rfl) (by decide) (by kernel_rfl) ?hQ1zy5p ?hy1zy5p (Below.drew (Below.refl _ _)) ?more1zy5p
                case hi1zy5p => rw [List.getElem?_toArray]; exact rfl
                case hQ1zy5p => exact fun _ _ _ h => h
                case hy1zy5p =>
                  refine Or.inl ⟨by rfl, ?_⟩
                  intro w' hSw
                  obtain ⟨⟨o0, o1, o2, o3⟩, _, oz⟩ := (HZ.out.1.call hSw).facts
                  have hF := HZ.out.2.2.2.2.call hSw
                  obtain ⟨q0, q1, q2, q3⟩ := hF.1.facts
                  obtain ⟨r0, r1, r2, r3⟩ := hF.gap
                  have rz := hF.2.2
                  obtain ⟨⟨d0, d1, d2, d3⟩, dz⟩ := HD.out _ hSw
                  obtain ⟨⟨c0, c1, c2, c3⟩, cz⟩ := HC.out _ hSw
                  clear hSw hF
                  go_simp
                  try with_reducible rfl
                simp only [Act.put, List.setIfInBounds_toArray, List.set_cons_zero, List.set_cons_succ]
                refine wpAnyN_take (i := 2) (oi := ?o2zy5p) (v := ?v2zy5p) ?hi2zy5p (by kernel_rfl) (by kernel_rfl) (by kernel_rfl) (by kernel_rfl) (by decide) (by kernel_rfl) ?hQ2zy5p ?hy2zy5p (Below.drew (Below.refl _ _)) ?more2zy5p
                case hi2zy5p => rw [List.getElem?_toArray]; exact rfl
                case hQ2zy5p => exact fun _ _ _ h => h
                case hy2zy5p =>
                  refine Or.inl ⟨by rfl, ?_⟩
                  intro w' hSw
                  obtain ⟨⟨o0, o1, o2, o3⟩, _, oz⟩ := (HZ.out.1.call hSw).facts
                  have hF := HZ.out.2.2.2.2.call hSw
                  obtain ⟨q0, q1, q2, q3⟩ := hF.1.facts
                  obtain ⟨r0, r1, r2, r3⟩ := hF.gap
                  have rz := hF.2.2
                  obtain ⟨⟨d0, d1, d2, d3⟩, dz⟩ := HD.out _ hSw
                  obtain ⟨⟨c0, c1, c2, c3⟩, cz⟩ := HC.out _ hSw
                  clear hSw hF
                  go_simp
                  try with_reducible rfl
                simp only [Act.put, List.setIfInBounds_toArray, List.set_cons_zero, List.set_cons_succ]
                refine wpAnyN_takeF (i := 3) (oi := ?o3zy5p) (v := ?v3zy5p) ?hi3zy5p (by kernel_rfl) (by kernel_rfl) (by kernel_rfl) (by decide) ?hQ3zy5p ?hy3zy5p (Below.drew (Below.refl _ _)) ?more3zy5p
                case hi3zy5p => rw [List.getElem?_toArray]; exact rfl
                case hQ3zy5p => exact fun _ _ _ h => h
                case hy3zy5p =>
                  refine Or.inl ⟨by rfl, ?_⟩
                  intro w' hSw
                  clear hSw
                  go_simp
                  try with_reducible rfl
                simp only [Act.put, List.setIfInBounds_toArray, List.set_cons_zero, List.set_cons_succ]
                refine wpAnyN_takeF (i := 4) (oi := ?o4zy5p) (v := ?v4zy5p) ?hi4zy5p (by kernel_rfl) (by kernel_rfl) (by kernel_rfl) (by decide) ?hQ4zy5p ?hy4zy5p (Below.drew (Below.refl _ _)) ?more4zy5p
                case hi4zy5p => rw [List.getElem?_toArray]; exact rfl
                case hQ4zy5p => exact fun _ _ _ h => h
                case hy4zy5p =>
                  refine Or.inl ⟨by rfl, ?_⟩
                  intro w' hSw
                  clear hSw
                  go_simp
                  try with_reducible rfl
                simp only [Act.put, List.setIfInBounds_toArray, List.set_cons_zero, List.set_cons_succ]
                refine wpAnyN_takeF (i := 5) (oi := ?o5zy5p) (v := ?v5zy5p) ?hi5zy5p (by kernel_rfl) (by kernel_rfl) (by kernel_rfl) (by decide) ?hQ5zy5p ?hy5zy5p (Below.drew (Below.refl _ _)) ?more5zy5p
                case hi5zy5p => rw [List.getElem?_toArray]; exact rfl
                case hQ5zy5p => exact fun _ _ _ h => h
                case hy5zy5p =>
                  refine Or.inl ⟨by rfl, ?_⟩
                  intro w' hSw
                  clear hSw
                  go_simp
                  try with_reducible rfl
                simp only [Act.put, List.setIfInBounds_toArray, List.set_cons_zero, List.set_cons_succ]
                refine wpAnyN_take (i := 6) (oi := ?o6zy5p) (v := ?v6zy5p) ?hi6zy5p (by kernel_rfl) (by kernel_rfl) (by kernel_rfl) (by kernel_rfl) (by decide) (by kernel_rfl) ?hQ6zy5p ?hy6zy5p (Below.drew (Below.refl _ _)) ?more6zy5p
                case hi6zy5p => rw [List.getElem?_toArray]; exact rfl
                case hQ6zy5p => exact fun _ _ _ h => h
                case hy6zy5p =>
                  refine Or.inl ⟨by rfl, ?_⟩
                  intro w' hSw
                  obtain ⟨⟨o0, o1, o2, o3⟩, _, oz⟩ := (HZ.out.1.call hSw).facts
                  have hF := HZ.out.2.2.2.2.call hSw
                  obtain ⟨q0, q1, q2, q3⟩ := hF.1.facts
                  obtain ⟨r0, r1, r2, r3⟩ := hF.gap
                  have rz := hF.2.2
                  obtain ⟨⟨d0, d1, d2, d3⟩, dz⟩ := HD.out _ hSw
                  obtain ⟨⟨c0, c1, c2, c3⟩, cz⟩ := HC.out _ hSw
                  clear hSw hF
                  go_simp
                  try with_reducible rfl
                simp only [Act.put, List.setIfInBounds_toArray, List.set_cons_zero, List.set_cons_succ]
                refine wpAnyN_takeF (i := 7) (oi := ?o7zy5p) (v := ?v7zy5p) ?hi7zy5p (by kernel_rfl) (by kernel_rfl) (by kernel_rfl) (by decide) ?hQ7zy5p ?hy7zy5p (Below.drew (Below.refl _ _)) ?more7zy5p
                case hi7zy5p => rw [List.getElem?_toArray]; exact rfl
                case hQ7zy5p => exact fun _ _ _ h => h
                case hy7zy5p =>
                  refine Or.inl ⟨by rfl, ?_⟩
                  intro w' hSw
                  clear hSw
                  go_simp
                  try with_reducible rfl
                simp only [Act.put, List.setIfInBounds_toArray, List.set_cons_zero, List.set_cons_succ]
                refine wpAnyN_takeF (i := 8) (oi := ?o8zy5p) (v := ?v8zy5p) ?hi8zy5p (by kernel_rfl) (by kernel_rfl) (by kernel_rfl) (by decide) ?hQ8zy5p ?hy8zy5p (Below.drew (Below.refl _ _)) ?more8zy5p
                case hi8zy5p => rw [List.getElem?_toArray]; exact rfl
                case hQ8zy5p => exact fun _ _ _ h => h
                case hy8zy5p =>
                  refine Or.inl ⟨by rfl, ?_⟩
                  intro w' hSw
                  clear hSw
                  go_simp
                  try with_reducible rfl
                simp only [Act.put, List.setIfInBounds_toArray, List.set_cons_zero, List.set_cons_succ]
                refine wpAnyN_takeF (i := 9) (oi := ?o9zy5p) (v := ?v9zy5p) ?hi9zy5p (by kernel_rfl) (by kernel_rfl) (by kernel_rfl) (by decide) ?hQ9zy5p ?hy9zy5p (Below.drew (Below.refl _ _)) ?more9zy5p
                case hi9zy5p => rw [List.getElem?_toArray]; exact rfl
                case hQ9zy5p => exact fun _ _ _ h => h
                case hy9zy5p =>
                  refine Or.inl ⟨by rfl, ?_⟩
                  intro w' hSw
                  clear hSw
                  go_simp
                  try with_reducible rfl
                simp only [Act.put, List.setIfInBounds_toArray, List.set_cons_zero, List.set_cons_succ]
                refine wpAnyN_takeL (i := 10) (oi := ?o10zy5p) (v := ?v10zy5p) [11, 12, 13] ?hi10zy5p (by kernel_rfl) (by kernel_rfl) (by kernel_rfl) (by kernel_rfl) (by decide) (by decide) (by kernel_rfl) ?hQ10zy5p ?hy10zy5p (Below.drew (Below.refl _ _)) ?more10zy5p
                case hi10zy5p => rw [List.getElem?_toArray]; exact rfl
                case hQ10zy5p => exact fun _ _ _ h => h
                case hy10zy5p =>
                  refine Or.inl ⟨by rfl, ?_⟩
                  intro w' hSw
                  obtain ⟨⟨o0, o1, o2, o3⟩, _, oz⟩ := (HZ.out.1.call hSw).facts
                  have hF := HZ.out.2.2.2.2.call hSw
                  obtain ⟨q0, q1, q2, q3⟩ := hF.1.facts
                  obtain ⟨r0, r1, r2, r3⟩ := hF.gap
                  have rz := hF.2.2
                  obtain ⟨⟨d0, d1, d2, d3⟩, dz⟩ := HD.out _ hSw
                  obtain ⟨⟨c0, c1, c2, c3⟩, cz⟩ := HC.out _ hSw
                  clear hSw hF
                  go_simp
                  try with_reducible rfl
                simp only [Act.put, List.setIfInBounds_toArray, List.set_cons_zero, List.set_cons_succ]
                refine wpAnyN_one (i := 11) (o := ?o11zy5p) (by kernel_rfl) ?hi11zy5p ?hw11zy5p ?st11zy5p
                case hi11zy5p => rw [List.getElem?_toArray]; exact rfl
                case hw11zy5p => exact rfl
                intro K hK
                have HK11 : Hid _ := hK
                clear hK
                go_simp
                refine (KM.out _).mono ?_
                rintro e w15 ⟨rfl, hq⟩
                have H15 : Hid (Below wz.heap.size wz w15) := below_call0 (Below.drew (Below.refl _ _)) hq
                clear hq
                go_wp2_with fail
                refine HK11.out _ _ ⟨fun _ => H15.out, ?_⟩
                clear HK11 K
                try simp only [Act.put, List.setIfInBounds_toArray, List.set_cons_zero, List.set_cons_succ]
                refine wpAnyN_one (i := 12) (o := ?o12zy5p) (by kernel_rfl) ?hi12zy5p ?hw12zy5p ?st12zy5p
                case hi12zy5p => rw [List.getElem?_toArray]; exact rfl
                case hw12zy5p => exact rfl
                intro K hK
                have HK12 : Hid _ := hK
                clear hK
                go_simp
                refine (KU.out _).mono ?_
                rintro e w16 ⟨rfl, hq⟩
                have H16 : Hid (Below wz.heap.size wz w16) := below_call0 H15.out hq
                obtain ⟨⟨o0, o1, o2, o3⟩, ⟨f0, f1, f2, f3⟩, oz⟩ := (HZ.out.1.call H16.out).facts
                clear hq
                go_wp2_with fail
                refine HK12.out _ _ ⟨fun _ => H16.out, ?_⟩
                clear HK12 K
                try simp only [Act.put, List.setIfInBounds_toArray, List.set_cons_zero, List.set_cons_succ]
                refine wpAnyN_one (i := 13) (o := ?o13zy5p) (by kernel_rfl) ?hi13zy5p ?hw13zy5p ?st13zy5p
                case hi13zy5p => rw [List.getElem?_toArray]; exact rfl
                case hw13zy5p => exact rfl
                intro K hK
                have HK13 : Hid _ := hK
                clear hK
                go_simp
                refine HK13.out _ _ ⟨fun h => absurd h (by decide +kernel), ?_⟩
                clear HK13 K
                try simp only [Act.put, List.setIfInBounds_toArray, List.set_cons_zero, List.set_cons_succ]
                refine wpAnyN_done (by kernel_rfl) ?_ _
                have HE : Hid (Own4 ((((w16.setCell ⟨w13.heap.size, 0, none⟩ (.int .u64 (limb u 0 : Nat))).setCell ⟨w13.heap.size, 1, none⟩ (.int .u64 (limb u 1 : Nat))).setCell ⟨w13.heap.size, 2, none⟩ (.int .u64 (limb u 2 : Nat))).setCell ⟨w13.heap.size, 3, none⟩ (.int .u64 (limb u 3 : Nat))) w13.heap.size (reK t (wAt A 0) (fun i => (rtL cs)[i]?.getD 0) (k + 1)) ∧ Below w13.heap.size w13 ((((w16.setCell ⟨w13.heap.size, 0, none⟩ (.int .u64 (limb u 0 : Nat))).setCell ⟨w13.heap.size, 1, none⟩ (.int .u64 (limb u 1 : Nat))).setCell ⟨w13.heap.size, 2, none⟩ (.int .u64 (limb u 2 : Nat))).setCell ⟨w13.heap.size, 3, none⟩ (.int .u64 (limb u 3 : Nat)))) := by
                  refine ⟨?_, Below.setCell (Below.setCell (Below.setCell (Below.setCell (below_call0 HZ.out.2.1 H16.out) (Nat.le_refl _) _) (Nat.le_refl _) _) (Nat.le_refl _) _) (Nat.le_refl _) _⟩
                  rw [← HU.out]; exact (HZ.out.1.call H16.out).put
                clear o0 o1 o2 o3 f0 f1 f2 f3 oz
                go_wp2_with fail
                go_roundw
                case rel => first | exact ⟨k + 1, hlt, by go_num, HE.out⟩ | ((repeat apply Exists.intro); exact ⟨⟨k + 1, hlt, by go_num, HE.out⟩, rfl⟩)
                case measure => simp [intOf]; omega
              · obtain rfl : k = n := by omega
                have hnl : ¬ ((k : Int) < (k : Int)) := Int.lt_irrefl _
                clear hlt hk
                obtain ⟨p0, po, rfl⟩ : ∃ p0 po, pa = some ⟨p0, po, none⟩ := by
                  obtain ⟨p, o, e, _, _⟩ := H13.out.2.2.2.1.get (show 0 < (rtL cs).length by rw [← HI.out.2.1, H0.out.2.2.2.1]; exact (nodes_ok HI.out.1).2)
                  exact ⟨p, o, e⟩
                have HNP : Hid (Nums wz (some ⟨p0, po, none⟩) (rtL cs) ∧ k = (rtL cs).length ∧ ([] : List Nat).length + (rtL cs).length ≤ 1000000 ∧ (rtL cs).length ≤ 1000000) := ⟨H13.out.2.2.2.1.call HZ.out.2.1, HI.out.2.1, by have := rtL_length cs; show 0 + _ ≤ _; omega, by have := rtL_length cs; omega⟩
                obtain ⟨W, hW⟩ : ∃ W, W = wAt A 0 k := ⟨_, rfl⟩
                obtain ⟨f, hf⟩ : ∃ f, f = W ^ (QQ - 2) % QQ := ⟨_, rfl⟩
                have KI : Hid (∀ w, Calls Tryd.prog 30 #[.agg #[.int .u64 (limb (q) 0 : Nat), .int .u64 (limb (q) 1 : Nat), .int .u64 (limb (q) 2 : Nat), .int .u64 (limb (q) 3 : Nat), .int .u64 (limb (R256 - (q)) 0 : Nat), .int .u64 (limb (R256 - (q)) 1 : Nat), .int .u64 (limb (R256 - (q)) 2 : Nat), .int .u64 (limb (R256 - (q)) 3 : Nat)], .agg #[.int .u64 (limb (W) 0 : Nat), .int .u64 (limb (W) 1 : Nat), .int .u64 (limb (W) 2 : Nat), .int .u64 (limb (W) 3 : Nat)]] w fun e w' => e = .returned (.agg #[.int .u64 (limb (f) 0 : Nat), .int .u64 (limb (f) 1 : Nat), .int .u64 (limb (f) 2 : Nat), .int .u64 (limb (f) 3 : Nat)]) ∧ Below w.heap.size w w') := fun w => by rw [H0.out.2.2.2.2.2, hf]; exact inv2_any QQ W FM_Q FS_Q (by rw [hW]; exact Nat.lt_trans (wAt_lt _ _ _) FM_Q.2.1) w
                have KM : Hid (∀ w, Calls Tryd.prog 29 #[.agg #[.int .u64 (limb (q) 0 : Nat), .int .u64 (limb (q) 1 : Nat), .int .u64 (limb (q) 2 : Nat), .int .u64 (limb (q) 3 : Nat), .int .u64 (limb (R256 - (q)) 0 : Nat), .int .u64 (limb (R256 - (q)) 1 : Nat), .int .u64 (limb (R256 - (q)) 2 : Nat), .int .u64 (limb (R256 - (q)) 3 : Nat)], .agg #[.int .u64 (limb (r) 0 : Nat), .int .u64 (limb (r) 1 : Nat), .int .u64 (limb (r) 2 : Nat), .int .u64 (limb (r) 3 : Nat)], .agg #[.int .u64 (limb (f) 0 : Nat), .int .u64 (limb (f) 1 : Nat), .int .u64 (limb (f) 2 : Nat), .int .u64 (limb (f) 3 : Nat)]] w fun e w' => e = .returned (.agg #[.int .u64 (limb (v) 0 : Nat), .int .u64 (limb (v) 1 : Nat), .int .u64 (limb (v) 2 : Nat), .int .u64 (limb (v) 3 : Nat)]) ∧ Below w.heap.size w w') := fun w => by
                  have e : v = r * f % QQ := by rw [HA.out.2.2.1, ← HZ.out.2.2.2.1, ← hW, ← hf]
                  rw [H0.out.2.2.2.2.2, e]
                  exact mul2_any QQ r f FM_Q FS_Q (by rw [HZ.out.2.2.2.1]; exact Nat.lt_trans (reK_lt H0.out.2.2.2.2.1 _ _ _) FM_Q.2.1) (by rw [hf]; exact Nat.lt_trans (Nat.mod_lt _ QQ_pos) FM_Q.2.1) w
                have HWW : Hid (W = wAt A 0 k) := hW
                clear hW hf
                go_wp2_with fail
                refine HKz.out _ _ ?_
                clear HKz
                go_wp2_with (at_builtin; refine wpList_append_RowNs _ rfl (.tmp 113) (.tmp 114) rfl wz.heap.size none 0 0 [] (rtL cs) rfl rfl (RowN.nil _ _) (Nat.le_refl _) HNP.out.2.2.1 p0 po k pc rfl HNP.out.2.1 HNP.out.1 ?_; intro a7 m7 cap7 w19 hm7 hR7 hb7; have H19 : Hid (m7 = k ∧ RowN w19 wz.heap.size a7 (rtL cs) cap7 ∧ Below wz.heap.size wz w19) := ⟨by rw [hm7, Nat.zero_add], hR7, hb7⟩; clear hm7 hR7 hb7)
                obtain ⟨m1, m2, m3⟩ := HM.out
                have m4 : IntKind.i64.wrap (k : Int) = (k : Int) := by rw [IntKind.wrap_i64]; omega
                have hkw : k < (wsL A 0).length := by rw [wsL_length, HA.out.2.2.2]; omega
                have HS : Hid (Own4 w19 w13.heap.size r ∧ FieldB w19 w12.heap.size q ∧ (w19.cell? ⟨yb, k * 4, none⟩ = some (.int .u64 (limb W 0 : Nat)) ∧ w19.cell? ⟨yb, k * 4 + 1, none⟩ = some (.int .u64 (limb W 1 : Nat)) ∧ w19.cell? ⟨yb, k * 4 + 2, none⟩ = some (.int .u64 (limb W 2 : Nat)) ∧ w19.cell? ⟨yb, k * 4 + 3, none⟩ = some (.int .u64 (limb W 3 : Nat))) ∧ yb < w19.heap.size ∧ Below w.heap.size w w19) := by
                  obtain ⟨p', o', e', ⟨d0, d1, d2, d3⟩, dz⟩ := ((H13.out.2.2.2.2.1.call HZ.out.2.1).call H19.out.2.2).get hkw
                  simp only [Option.some.injEq, Addr.mk.injEq, and_true] at e'
                  obtain ⟨rfl, rfl⟩ := e'
                  rw [Nat.zero_add, wsL_get, ← HWW.out] at d0 d1 d2 d3
                  exact ⟨HZ.out.1.call H19.out.2.2, HZ.out.2.2.2.2.call H19.out.2.2, ⟨d0, d1, d2, d3⟩, dz, below_call0 HZ.out.2.2.1 H19.out.2.2⟩
                have HD : Hid (∀ w', Below w19.heap.size w19 w' → (w'.cell? ⟨yb, k * 4, none⟩ = some (.int .u64 (limb W 0 : Nat)) ∧ w'.cell? ⟨yb, k * 4 + 1, none⟩ = some (.int .u64 (limb W 1 : Nat)) ∧ w'.cell? ⟨yb, k * 4 + 2, none⟩ = some (.int .u64 (limb W 2 : Nat)) ∧ w'.cell? ⟨yb, k * 4 + 3, none⟩ = some (.int .u64 (limb W 3 : Nat))) ∧ yb < w'.heap.size) := fun w' hb => by
                  obtain ⟨d0, d1, d2, d3⟩ := HS.out.2.2.1
                  have e := fun j => hb.cell (p := ⟨yb, j, none⟩) HS.out.2.2.2.1
                  exact ⟨⟨(e _).trans d0, (e _).trans d1, (e _).trans d2, (e _).trans d3⟩, Nat.lt_of_lt_of_le HS.out.2.2.2.1 hb.size⟩
                clear hkw
                refine wp_region_N (fun w' => Below w19.heap.size w19 w') 11 15 rfl (by kernel_rfl) ?_
                refine wpAnyN_takeF (i := 0) (oi := ?o0zy5r) (v := ?v0zy5r) ?hi0zy5r (by kernel_rfl) (by kernel_rfl) (by kernel_rfl) (by decide) ?hQ0zy5r ?hy0zy5r (Below.drew (Below.refl _ _)) ?more0zy5r
                case hi0zy5r => rw [List.getElem?_toArray]; exact rfl
                case hQ0zy5r => exact fun _ _ _ h => h
                case hy0zy5r =>
                  refine Or.inl ⟨by rfl, ?_⟩
                  intro w' hSw
                  clear hSw
                  go_simp
                  try with_reducible rfl
                simp only [Act.put, List.setIfInBounds_toArray, List.set_cons_zero, List.set_cons_succ]
                refine wpAnyN_take (i := 1) (oi := ?o1zy5r) (v := ?v1zy5r) ?hi1zy5r (by kernel_rfl) (by kernel_rfl) (by kernel_rfl) (by kernel_rfl) (by decide) (by kernel_rfl) ?hQ1zy5r ?hy1zy5r (Below.drew (Below.refl _ _)) ?more1zy5r
                case hi1zy5r => rw [List.getElem?_toArray]; exact rfl
                case hQ1zy5r => exact fun _ _ _ h => h
                case hy1zy5r =>
                  refine Or.inl ⟨by rfl, ?_⟩
                  intro w' hSw
                  obtain ⟨⟨o0, o1, o2, o3⟩, _, oz⟩ := (HS.out.1.call hSw).facts
                  have hF := HS.out.2.1.call hSw
                  obtain ⟨q0, q1, q2, q3⟩ := hF.1.facts
                  obtain ⟨r0, r1, r2, r3⟩ := hF.gap
                  have rz := hF.2.2
                  obtain ⟨⟨d0, d1, d2, d3⟩, dz⟩ := HD.out _ hSw
                  clear hSw hF
                  go_simp
                  try with_reducible rfl
                simp only [Act.put, List.setIfInBounds_toArray, List.set_cons_zero, List.set_cons_succ]
                refine wpAnyN_take (i := 2) (oi := ?o2zy5r) (v := ?v2zy5r) ?hi2zy5r (by kernel_rfl) (by kernel_rfl) (by kernel_rfl) (by kernel_rfl) (by decide) (by kernel_rfl) ?hQ2zy5r ?hy2zy5r (Below.drew (Below.refl _ _)) ?more2zy5r
                case hi2zy5r => rw [List.getElem?_toArray]; exact rfl
                case hQ2zy5r => exact fun _ _ _ h => h
                case hy2zy5r =>
                  refine Or.inl ⟨by rfl, ?_⟩
                  intro w' hSw
                  obtain ⟨⟨o0, o1, o2, o3⟩, _, oz⟩ := (HS.out.1.call hSw).facts
                  have hF := HS.out.2.1.call hSw
                  obtain ⟨q0, q1, q2, q3⟩ := hF.1.facts
                  obtain ⟨r0, r1, r2, r3⟩ := hF.gap
                  have rz := hF.2.2
                  obtain ⟨⟨d0, d1, d2, d3⟩, dz⟩ := HD.out _ hSw
                  clear hSw hF
                  go_simp
                  try with_reducible rfl
                simp only [Act.put, List.setIfInBounds_toArray, List.set_cons_zero, List.set_cons_succ]
                refine wpAnyN_takeL (i := 3) (oi := ?o3zy5r) (v := ?v3zy5r) [10, 11] ?hi3zy5r (by kernel_rfl) (by kernel_rfl) (by kernel_rfl) (by kernel_rfl) (by decide) (by decide) (by kernel_rfl) ?hQ3zy5r ?hy3zy5r (Below.drew (Below.refl _ _)) ?more3zy5r
                case hi3zy5r => rw [List.getElem?_toArray]; exact rfl
                case hQ3zy5r => exact fun _ _ _ h => h
                case hy3zy5r =>
                  refine Or.inl ⟨by rfl, ?_⟩
                  intro w' hSw
                  obtain ⟨⟨o0, o1, o2, o3⟩, _, oz⟩ := (HS.out.1.call hSw).facts
                  have hF := HS.out.2.1.call hSw
                  obtain ⟨q0, q1, q2, q3⟩ := hF.1.facts
                  obtain ⟨r0, r1, r2, r3⟩ := hF.gap
                  have rz := hF.2.2
                  obtain ⟨⟨d0, d1, d2, d3⟩, dz⟩ := HD.out _ hSw
                  clear hSw hF
                  go_simp
                  try with_reducible rfl
                simp only [Act.put, List.setIfInBounds_toArray, List.set_cons_zero, List.set_cons_succ]
                refine wpAnyN_takeF (i := 4) (oi := ?o4zy5r) (v := ?v4zy5r) ?hi4zy5r (by kernel_rfl) (by kernel_rfl) (by kernel_rfl) (by decide) ?hQ4zy5r ?hy4zy5r (Below.drew (Below.refl _ _)) ?more4zy5r
                case hi4zy5r => rw [List.getElem?_toArray]; exact rfl
                case hQ4zy5r => exact fun _ _ _ h => h
                case hy4zy5r =>
                  refine Or.inl ⟨by rfl, ?_⟩
                  intro w' hSw
                  clear hSw
                  go_simp
                  try with_reducible rfl
                simp only [Act.put, List.setIfInBounds_toArray, List.set_cons_zero, List.set_cons_succ]
                refine wpAnyN_takeF (i := 5) (oi := ?o5zy5r) (v := ?v5zy5r) ?hi5zy5r (by kernel_rfl) (by kernel_rfl) (by kernel_rfl) (by decide) ?hQ5zy5r ?hy5zy5r (Below.drew (Below.refl _ _)) ?more5zy5r
                case hi5zy5r => rw [List.getElem?_toArray]; exact rfl
                case hQ5zy5r => exact fun _ _ _ h => h
                case hy5zy5r =>
                  refine Or.inl ⟨by rfl, ?_⟩
                  intro w' hSw
                  clear hSw
                  go_simp
                  try with_reducible rfl
                simp only [Act.put, List.setIfInBounds_toArray, List.set_cons_zero, List.set_cons_succ]
                refine wpAnyN_takeF (i := 6) (oi := ?o6zy5r) (v := ?v6zy5r) ?hi6zy5r (by kernel_rfl) (by kernel_rfl) (by kernel_rfl) (by decide) ?hQ6zy5r ?hy6zy5r (Below.drew (Below.refl _ _)) ?more6zy5r
                case hi6zy5r => rw [List.getElem?_toArray]; exact rfl
                case hQ6zy5r => exact fun _ _ _ h => h
                case hy6zy5r =>
                  refine Or.inl ⟨by rfl, ?_⟩
                  intro w' hSw
                  clear hSw
                  go_simp
                  try with_reducible rfl
                simp only [Act.put, List.setIfInBounds_toArray, List.set_cons_zero, List.set_cons_succ]
                refine wpAnyN_takeF (i := 7) (oi := ?o7zy5r) (v := ?v7zy5r) ?hi7zy5r (by kernel_rfl) (by kernel_rfl) (by kernel_rfl) (by decide) ?hQ7zy5r ?hy7zy5r (Below.drew (Below.refl _ _)) ?more7zy5r
                case hi7zy5r => rw [List.getElem?_toArray]; exact rfl
                case hQ7zy5r => exact fun _ _ _ h => h
                case hy7zy5r =>
                  refine Or.inl ⟨by rfl, ?_⟩
                  intro w' hSw
                  clear hSw
                  go_simp
                  try with_reducible rfl
                simp only [Act.put, List.setIfInBounds_toArray, List.set_cons_zero, List.set_cons_succ]
                refine wpAnyN_takeF (i := 8) (oi := ?o8zy5r) (v := ?v8zy5r) ?hi8zy5r (by kernel_rfl) (by kernel_rfl) (by kernel_rfl) (by decide) ?hQ8zy5r ?hy8zy5r (Below.drew (Below.refl _ _)) ?more8zy5r
                case hi8zy5r => rw [List.getElem?_toArray]; exact rfl
                case hQ8zy5r => exact fun _ _ _ h => h
                case hy8zy5r =>
                  refine Or.inl ⟨by rfl, ?_⟩
                  intro w' hSw
                  clear hSw
                  go_simp
                  try with_reducible rfl
                simp only [Act.put, List.setIfInBounds_toArray, List.set_cons_zero, List.set_cons_succ]
                refine wpAnyN_takeL (i := 9) (oi := ?o9zy5r) (v := ?v9zy5r) [10, 11] ?hi9zy5r (by kernel_rfl) (by kernel_rfl) (by kernel_rfl) (by kernel_rfl) (by decide) (by decide) (by kernel_rfl) ?hQ9zy5r ?hy9zy5r (Below.drew (Below.refl _ _)) ?more9zy5r
                case hi9zy5r => rw [List.getElem?_toArray]; exact rfl
                case hQ9zy5r => exact fun _ _ _ h => h
                case hy9zy5r =>
                  refine Or.inl ⟨by rfl, ?_⟩
                  intro w' hSw
                  obtain ⟨⟨o0, o1, o2, o3⟩, _, oz⟩ := (HS.out.1.call hSw).facts
                  have hF := HS.out.2.1.call hSw
                  obtain ⟨q0, q1, q2, q3⟩ := hF.1.facts
                  obtain ⟨r0, r1, r2, r3⟩ := hF.gap
                  have rz := hF.2.2
                  obtain ⟨⟨d0, d1, d2, d3⟩, dz⟩ := HD.out _ hSw
                  clear hSw hF
                  go_simp
                  try with_reducible rfl
                simp only [Act.put, List.setIfInBounds_toArray, List.set_cons_zero, List.set_cons_succ]
                refine wpAnyN_one (i := 10) (o := ?o10zy5r) (by kernel_rfl) ?hi10zy5r ?hw10zy5r ?st10zy5r
                case hi10zy5r => rw [List.getElem?_toArray]; exact rfl
                case hw10zy5r => exact rfl
                intro K hK
                have HK10 : Hid _ := hK
                clear hK
                go_simp
                refine (KI.out _).mono ?_
                rintro e w20 ⟨rfl, hq⟩
                have H20 : Hid (Below w19.heap.size w19 w20) := below_call0 (Below.drew (Below.refl _ _)) hq
                clear hq
                go_wp2_with fail
                refine HK10.out _ _ ⟨fun _ => H20.out, ?_⟩
                clear HK10 K
                try simp only [Act.put, List.setIfInBounds_toArray, List.set_cons_zero, List.set_cons_succ]
                refine wpAnyN_one (i := 11) (o := ?o11zy5r) (by kernel_rfl) ?hi11zy5r ?hw11zy5r ?st11zy5r
                case hi11zy5r => rw [List.getElem?_toArray]; exact rfl
                case hw11zy5r => exact rfl
                intro K hK
                have HK11 : Hid _ := hK
                clear hK
                go_simp
                refine (KM.out _).mono ?_
                rintro e w21 ⟨rfl, hq⟩
                have H21 : Hid (Below w19.heap.size w19 w21) := below_call0 H20.out hq
                clear hq
                go_wp2_with fail
                refine HK11.out _ _ ⟨fun _ => H21.out, ?_⟩
                clear HK11 K
                try simp only [Act.put, List.setIfInBounds_toArray, List.set_cons_zero, List.set_cons_succ]
                refine wpAnyN_one (i := 12) (o := ?o12zy5r) (by kernel_rfl) ?hi12zy5r ?hw12zy5r ?st12zy5r
                case hi12zy5r => rw [List.getElem?_toArray]; exact rfl
                case hw12zy5r => exact rfl
                intro K hK
                have HK12 : Hid _ := hK
                clear hK
                go_simp
                refine HK12.out _ _ ⟨fun h => absurd h (by decide +kernel), ?_⟩
                clear HK12 K
                try simp only [Act.put, List.setIfInBounds_toArray, List.set_cons_zero, List.set_cons_succ]
                refine wpAnyN_one (i := 13) (o := ?o13zy5r) (by kernel_rfl) ?hi13zy5r ?hw13zy5r ?st13zy5r
                case hi13zy5r => rw [List.getElem?_toArray]; exact rfl
                case hw13zy5r => exact rfl
                intro K hK
                have HK13 : Hid _ := hK
                clear hK
                have HAP : Hid (RowN (w21.alloc (.cells #[.int .u64 (limb v 0 : Nat), .int .u64 (limb v 1 : Nat), .int .u64 (limb v 2 : Nat), .int .u64 (limb v 3 : Nat)] 25)) wz.heap.size a7 (rtL cs) cap7 ∧ Num4 (w21.alloc (.cells #[.int .u64 (limb v 0 : Nat), .int .u64 (limb v 1 : Nat), .int .u64 (limb v 2 : Nat), .int .u64 (limb v 3 : Nat)] 25)) w21.heap.size v ∧ Below wz.heap.size wz (w21.alloc (.cells #[.int .u64 (limb v 0 : Nat), .int .u64 (limb v 1 : Nat), .int .u64 (limb v 2 : Nat), .int .u64 (limb v 3 : Nat)] 25))) := ⟨(H19.out.2.1.call H21.out).alloc, Num4.new _ _ _, below_alloc0 (below_call0 H19.out.2.2 H21.out) _⟩
                refine owp_append_RowN _ (.tmp 116) (.tmp 128) rfl wz.heap.size a7 m7 cap7 (rtL cs) v rfl (by rw [H19.out.1]; exact HNP.out.2.1) HAP.out.1 HAP.out.2.2.size HNP.out.2.2.2 w21.heap.size 1 rfl HAP.out.2.1 ?_
                intro a8 m8 cap8 w22 hm8 hR8 hb8
                have H22 : Hid (RowN w22 wz.heap.size a8 (rtL cs ++ [v]) cap8 ∧ Below wz.heap.size wz w22) := ⟨hR8, HAP.out.2.2.trans hb8⟩
                have hMM : M = m8 := (by rw [hm8, H19.out.1]; exact HA.out.2.1)
                subst hMM
                clear hm8 hR8 hb8
                refine HK13.out _ _ ⟨fun h => absurd h (by decide +kernel), ?_⟩
                clear HK13 K
                try simp only [Act.put, List.setIfInBounds_toArray, List.set_cons_zero, List.set_cons_succ]
                refine wpAnyN_one (i := 14) (o := ?o14zy5r) (by kernel_rfl) ?hi14zy5r ?hw14zy5r ?st14zy5r
                case hi14zy5r => rw [List.getElem?_toArray]; exact rfl
                case hw14zy5r => exact rfl
                intro K hK
                have HK14 : Hid _ := hK
                clear hK
                go_simp
                refine HK14.out _ _ ⟨fun h => absurd h (by decide +kernel), ?_⟩
                clear HK14 K
                try simp only [Act.put, List.setIfInBounds_toArray, List.set_cons_zero, List.set_cons_succ]
                refine wpAnyN_done (by kernel_rfl) ?_ _
                clear m1 m2 m3 m4
                have HY : Hid (Below w13.heap.size w13 w22 ∧ Below w.heap.size w w22) := ⟨below_call0 HZ.out.2.1 H22.out.2, below_call0 HZ.out.2.2.1 H22.out.2⟩
                go_wp2_with fail
                refine (KJ.out _ _ _ _ _ (H0.out.1.call HY.out.2) (H13.out.2.1.call HY.out.1) H22.out.1.nums).mono ?_
                rintro e w23 ⟨rfl, hb23⟩
                have H23 : Hid (Below w.heap.size w (w23.alloc (.cells #[.int .u64 (limb t 0 : Nat), .int .u64 (limb t 1 : Nat), .int .u64 (limb t 2 : Nat), .int .u64 (limb t 3 : Nat)] 25))) := below_alloc0 (below_call0 HY.out.2 hb23) _
                obtain ⟨⟨t0, t1, t2, t3⟩, _, tz⟩ := ((H13.out.2.2.1.call HY.out.1).call hb23).facts
                have g1 := eq4_self' (limb t 0 : Nat) (limb t 1 : Nat) (limb t 2 : Nat) (limb t 3 : Nat)
                clear hb23
                go_wp2_with fail
                refine (KL.out _ (H0.out.1.call H23.out)).mono ?_
                rintro e w31 ⟨rfl, hb31⟩
                have H31 : Hid (Below w.heap.size w w31) := below_call0 H23.out hb31
                clear hb31
                go_wp2_with fail
                go_ret
                exact ⟨rfl, H31.out⟩
  case st11x1 =>
    intro K hK
    have HK11y6 : Hid _ := hK
    clear hK
    go_simp
    refine HK11y6.out _ _ ⟨fun _ => (below_alloc0 (Below.drew (Below.refl _ _)) _), ?_⟩
    clear HK11y6 K
    try simp only [Act.put, List.setIfInBounds_toArray, List.set_cons_zero, List.set_cons_succ]
    refine wpAnyN_one (i := 0) (o := ?o0y6) (by kernel_rfl) ?hi0y6 ?hw0y6 ?st0y6
    case hi0y6 => rw [List.getElem?_toArray]; exact rfl
    case hw0y6 => exact rfl
    intro K hK
    have HK0y6 : Hid _ := hK
    clear hK
    go_simp
    refine (KS.out _).mono ?_
    rintro e w0y6 ⟨rfl, hq⟩
    have H0y6 : Hid (Below w1.heap.size w1 w0y6) := below_call0 (below_alloc0 (Below.drew (Below.refl _ _)) _) hq
    have P0y6 : Hid (Pend w0y6 (w1.heap.size)) := Pend.call (Pend.new' (W := w1.drew) (t := 25) rfl) hq
    clear hq
    go_wp2_with fail
    refine HK0y6.out _ _ ⟨fun _ => H0y6.out, ?_⟩
    clear HK0y6 K
    try simp only [Act.put, List.setIfInBounds_toArray, List.set_cons_zero, List.set_cons_succ]
    refine wpAnyN_one (i := 10) (o := ?o10y6) (by kernel_rfl) ?hi10y6 ?hw10y6 ?st10y6
    case hi10y6 => rw [List.getElem?_toArray]; exact rfl
    case hw10y6 => exact rfl
    intro K hK
    have HK10y6 : Hid _ := hK
    clear hK
    go_simp
    refine (KD.out _).mono ?_
    rintro e w10y6 ⟨rfl, hq⟩
    have H10y6 : Hid (Below w1.heap.size w1 w10y6) := below_call0 H0y6.out hq
    have P10y6 : Hid (Pend w10y6 (w1.heap.size)) := Pend.call P0y6.out hq
    clear hq
    go_wp2_with fail
    refine HK10y6.out _ _ ⟨fun _ => H10y6.out, ?_⟩
    clear HK10y6 K
    try simp only [Act.put, List.setIfInBounds_toArray, List.set_cons_zero, List.set_cons_succ]
    refine wpAnyN_one (i := 12) (o := ?o12y6) (by kernel_rfl) ?hi12y6 ?hw12y6 ?st12y6
    case hi12y6 => rw [List.getElem?_toArray]; exact rfl
    case hw12y6 => exact rfl
    intro K hK
    have HK12y6 : Hid _ := hK
    clear hK
    obtain ⟨⟨o0, o1, o2, o3⟩, ⟨f0, f1, f2, f3⟩, oz⟩ := Pend.facts P10y6.out
    try simp only [World.size_alloc] at o0 o1 o2 o3 f0 f1 f2 f3 oz
    go_simp
    refine HK12y6.out _ _ ⟨fun h => absurd h (by decide +kernel), ?_⟩
    clear HK12y6 K
    try simp only [Act.put, List.setIfInBounds_toArray, List.set_cons_zero, List.set_cons_succ]
    refine wpAnyN_done (by kernel_rfl) ?_ _
    obtain ⟨wS, hwS⟩ : ∃ y, y = ((((w10y6.setCell ⟨w1.heap.size, 0, none⟩ (.int .u64 (limb t 0 : Nat))).setCell ⟨w1.heap.size, 1, none⟩ (.int .u64 (limb t 1 : Nat))).setCell ⟨w1.heap.size, 2, none⟩ (.int .u64 (limb t 2 : Nat))).setCell ⟨w1.heap.size, 3, none⟩ (.int .u64 (limb t 3 : Nat))) := ⟨_, rfl⟩
    have HT : Hid (Own4 wS (w1.heap.size) t ∧ Below w1.heap.size w1 wS) := by rw [hwS]; exact ⟨Pend.own P10y6.out, Below.setCell (Below.setCell (Below.setCell (Below.setCell H10y6.out (Nat.le_refl _) _) (Nat.le_refl _) _) (Nat.le_refl _) _) (Nat.le_refl _) _⟩
    rw [← hwS]
    clear hwS o0 o1 o2 o3 f0 f1 f2 f3 oz
    have HW : Hid (Below w.heap.size w wS ∧ Nums wS pa (rtL cs) ∧ Own4 wS (w1.heap.size) t) := ⟨below_call0 H1.out.1 HT.out.2, H1.out.2.2.1.call HT.out.2, HT.out.1⟩
    clear HT
    go_wp2_with fail
    refine (KA.out _ (H0.out.2.2.1.call HW.out.1)).mono ?_
    rintro e w10 ⟨rfl, hb10⟩
    rw [HI.out.1]
    have H10 : Hid (Below w.heap.size w w10 ∧ Own4 w10 (w1.heap.size) t ∧ Nums w10 pa (rtL cs)) := ⟨below_call0 HW.out.1 hb10, HW.out.2.2.call hb10, HW.out.2.1.call hb10⟩
    clear hb10 HW KA
    have hPn : n = P := by rw [H1.out.2.2.2]; exact HI.out.2.1
    subst hPn
    obtain ⟨B, hB⟩ : ∃ B, B = w1.heap.size := ⟨_, rfl⟩
    rw [← hB] at H10
    rw [← hB]
    clear hB
    go_wp2_with fail
    rename_i Kr hKr
    have HKr : Hid _ := hKr
    clear hKr p9
    go_loopw [9, 10] (fun ov iv wr => ∃ i y : Nat, i ≤ 10 ∧ iv = .int .i64 (i : Nat) ∧ ov = .int .i64 (y : Nat) ∧ (1 ≤ y ∧ y ≤ 1 + 10 * i) ∧ ((y : Int) ∉ l ∨ i + 1 ≤ y) ∧ Below w10.heap.size w10 wr) (fun _ iv _ => 10 - (Go.RowKit.intOf iv).toNat)
    case atStart => exact ⟨0, 1, by decide, rfl, rfl, by decide, .inr (by decide), Below.refl _ _⟩
    case round =>
      obtain ⟨i, y, hi, rfl, rfl, hy, hor, hB⟩ := hrel
      rename World => wr
      have HR : Hid (Below w10.heap.size w10 wr ∧ Below w.heap.size w wr ∧ (1 ≤ y ∧ y ≤ 1 + 10 * i) ∧ ((y : Int) ∉ l ∨ i + 1 ≤ y) ∧ i ≤ 10) := ⟨hB, below_call0 H10.out.1 hB, hy, hor, hi⟩
      clear hor hB
      by_cases hlt : i < 10
      · clear HKr
        have hlt' : (i : Int) < 10 := by omega
        have y100 : (y : Int) ≤ 100 := by omega
        clear hy hi
        go_wp2_with fail
        rename_i Kq hKq
        have HKq : Hid _ := hKq
        clear hKq
        go_loopw [9, 57] (fun ov jv wi => ∃ j z : Nat, j ≤ n ∧ jv = .int .i64 (j : Nat) ∧ ov = .int .i64 (z : Nat) ∧ (y ≤ z ∧ z ≤ y + j) ∧ ((y : Int) ∉ l → z = y) ∧ (z = y → (y : Int) ∉ l.take j) ∧ Below w10.heap.size w10 wi) (fun _ jv _ => n - (Go.RowKit.intOf jv).toNat)
        case atStart => exact ⟨0, y, Nat.zero_le _, rfl, rfl, ⟨Nat.le_refl _, Nat.le_refl _⟩, fun _ => rfl, fun _ h => (List.not_mem_nil h).elim, HR.out.1⟩
        case round =>
          obtain ⟨j, z, hj, rfl, rfl, hz, hz1, hz2, hB⟩ := hrel
          rename World => wi
          have HJ : Hid (Below w10.heap.size w10 wi ∧ Below w.heap.size w wi ∧ (y ≤ z ∧ z ≤ y + j) ∧ ((y : Int) ∉ l → z = y) ∧ (z = y → (y : Int) ∉ l.take j)) := ⟨hB, below_call0 H10.out.1 hB, hz, hz1, hz2⟩
          clear hz1 hz2 hB
          by_cases hjt : j < n
          · clear HKq
            have hjl : j < l.length := by rw [← H0.out.2.2.2.1]; exact hjt
            have hjt' : (j : Int) < (n : Int) := Int.ofNat_lt.2 hjt
            have z200 : (z : Int) ≤ 200 := by omega
            obtain ⟨p, o, rfl, c0, pz⟩ := (H0.out.2.2.1.call HJ.out.2.1).get hjl
            obtain ⟨u, hu⟩ : ∃ u, u = (l[j]'hjl) := ⟨_, rfl⟩
            rw [← hu] at c0
            by_cases huz : u = (z : Int)
            · have HE : Hid ((y ≤ z + 1 ∧ z + 1 ≤ y + (j + 1)) ∧ ((y : Int) ∉ l → z + 1 = y) ∧ (z + 1 = y → (y : Int) ∉ l.take (j + 1)) ∧ Below w10.heap.size w10 wi) := by
                refine ⟨by omega, fun h => ?_, fun h => by omega, HJ.out.1⟩
                have e := HJ.out.2.2.2.1 h
                exact absurd (by rw [← e, ← huz, hu]; exact List.getElem_mem hjl) h
              subst huz
              clear hu hz
              go_wp2_with fail
              go_roundw
              case rel => first | exact ⟨j + 1, z + 1, hjt, by go_num, by go_num, HE.out⟩ | ((repeat apply Exists.intro); exact ⟨⟨j + 1, z + 1, hjt, by go_num, by go_num, HE.out⟩, rfl⟩)
              case measure => simp [intOf]; omega
            · have HE : Hid ((y ≤ z ∧ z ≤ y + (j + 1)) ∧ ((y : Int) ∉ l → z = y) ∧ (z = y → (y : Int) ∉ l.take (j + 1)) ∧ Below w10.heap.size w10 wi) := by
                refine ⟨by omega, HJ.out.2.2.2.1, fun h => ?_, HJ.out.1⟩
                rw [List.take_succ_eq_append_getElem hjl, ← hu]
                intro hm
                rcases List.mem_append.1 hm with g | g
                · exact HJ.out.2.2.2.2 h g
                · exact huz (by rw [h]; exact (List.mem_singleton.1 g).symm)
              have e1 : (u == (z : Int)) = false := by simpa using huz
              clear hu hz
              go_wp2_with fail
              go_roundw
              case rel => first | exact ⟨j + 1, z, hjt, by go_num, rfl, HE.out⟩ | ((repeat apply Exists.intro); exact ⟨⟨j + 1, z, hjt, by go_num, rfl, HE.out⟩, rfl⟩)
              case measure => simp [intOf]; omega
          · obtain rfl : j = n := by omega
            have hnl : ¬ ((j : Int) < (j : Int)) := Int.lt_irrefl _
            have HE : Hid ((1 ≤ z ∧ z ≤ 1 + 10 * (i + 1)) ∧ ((z : Int) ∉ l ∨ i + 1 + 1 ≤ z) ∧ Below w10.heap.size w10 wi) := by
              have e1 : l.take j = l := List.take_of_length_le (by rw [← H0.out.2.2.2.1]; exact Nat.le_refl _)
              have h1 := HJ.out
              rw [e1] at h1
              have h2 := HR.out.2.2.1
              have h9 := HI.out.2.2
              refine ⟨by omega, ?_, h1.1⟩
              by_cases hzy : z = y
              · left; rw [hzy]; exact h1.2.2.2.2 hzy
              · right
                rcases HR.out.2.2.2.1 with g | g
                · exact absurd (h1.2.2.2.1 g) hzy
                · omega
            clear hjt hj hz
            go_wp2_with fail
            refine HKq.out _ _ ?_
            clear HKq
            go_wp2_with fail
            go_roundw
            case rel => first | exact ⟨i + 1, z, hlt, by go_num, rfl, HE.out⟩ | ((repeat apply Exists.intro); exact ⟨⟨i + 1, z, hlt, by go_num, rfl, HE.out⟩, rfl⟩)
            case measure => simp [intOf]; omega
      · obtain rfl : i = 10 := by omega
        clear hlt hi
        by_cases hy10 : 10 < y
        · have hy' : (10 : Int) < (y : Int) := by omega
          clear hy hy10
          go_wp2_with fail
          refine HKr.out _ _ ?_
          clear HKr
          go_wp2_with fail
          refine (KL.out _ (H0.out.1.call HR.out.2.1)).mono ?_
          rintro e w30 ⟨rfl, hb30⟩
          have H30 : Hid (Below w.heap.size w w30) := below_call0 HR.out.2.1 hb30
          clear hb30
          go_wp2_with fail
          go_ret
          exact ⟨rfl, H30.out⟩
        · have hy' : ¬ ((10 : Int) < (y : Int)) := by omega
          have hynl : (y : Int) ∉ l := by rcases HR.out.2.2.2.1 with g | g; exact g; omega
          have hPA := nodes_more (nodes_ok HI.out.1).1 hy.1 (by omega) hynl
          obtain ⟨A, hA⟩ : ∃ A, A = l ++ [(y : Int)] := ⟨_, rfl⟩
          rw [← hA] at hPA
          have hAl : A.length = n + 1 := by rw [hA, List.length_append, ← H0.out.2.2.2.1]; rfl
          have hAok : nodesOk A = true := decide_eq_true ⟨hPA, by omega⟩
          obtain ⟨M, hM⟩ : ∃ M, M = n + 1 := ⟨_, rfl⟩
          have KW : Hid (∀ (a5 : Option Addr) (c5 : Nat) (w : World), GlobQ w → IntsAt w a5 A → Calls Tryd.prog 14 #[.slice a5 M c5, .agg #[.int .u64 0, .int .u64 0, .int .u64 0, .int .u64 0]] w fun e w' => ∃ b, e = .returned (.tuple #[.slice (some ⟨b, 0, none⟩) M M, .int .i64 0]) ∧ Nums w' (some ⟨b, 0, none⟩) (wsL A 0) ∧ Below w.heap.size w w') := fun a5 c5 w h1 h2 => by
            have h := weights_in a5 A c5 0 (by omega) hAok QQ_pos w h1 h2
            rw [limb_nought, limb_nought, limb_nought, limb_nought, hAl, ← hM] at h
            exact h.mono fun e w' ⟨b, h, g, _, k⟩ => ⟨b, h, g, k⟩
          obtain ⟨v, hv⟩ : ∃ v, v = reK t (wAt A 0) (fun i => (rtL cs)[i]?.getD 0) n * (wAt A 0 n ^ (QQ - 2) % QQ) % QQ := ⟨_, rfl⟩
          have KJ : Hid (∀ (a5 b5 : Option Addr) (c5 d5 : Nat) (w : World), GlobQ w → IntsAt w a5 A → Nums w b5 (rtL cs ++ [v]) → Calls Tryd.prog 18 #[.slice a5 M c5, .slice b5 M d5, .agg #[.int .u64 0, .int .u64 0, .int .u64 0, .int .u64 0]] w fun e w' => e = .returned (.tuple #[.agg #[.int .u64 (limb (t) 0 : Nat), .int .u64 (limb (t) 1 : Nat), .int .u64 (limb (t) 2 : Nat), .int .u64 (limb (t) 3 : Nat)], .int .i64 0]) ∧ Below w.heap.size w w') := fun a5 b5 c5 d5 w h1 h2 h3 => by
            have hlv : (rtL cs ++ [v]).length = A.length := by rw [List.length_append, ← HI.out.2.1, hAl]; rfl
            have hav : allQ (rtL cs ++ [v]) = true := by
              have h := rtL_all cs
              unfold allQ at h ⊢
              rw [List.all_append, h]
              have hvq : v < QQ := by rw [hv]; exact Nat.mod_lt _ QQ_pos
              simp [hvq]
            have h := join_in a5 b5 A (rtL cs ++ [v]) c5 d5 0 (by omega) hAok QQ_pos hlv hav w h1 h2 h3
            rw [hides hPA hAl HI.out.2.1.symm H0.out.2.2.2.2.1 hv, hlv, hAl, ← hM, limb_nought, limb_nought, limb_nought, limb_nought] at h
            exact h
          have HA : Hid (A = l ++ [(y : Int)] ∧ M = n + 1 ∧ v = reK t (wAt A 0) (fun i => (rtL cs)[i]?.getD 0) n * (wAt A 0 n ^ (QQ - 2) % QQ) % QQ ∧ A.length = n + 1) := ⟨hA, hM, hv, hAl⟩
          have m1 : (M : Int) - 1 = (n : Int) := by omega
          have m2 : IntKind.i64.wrap ((M : Int) - 1) = (n : Int) := by rw [IntKind.wrap_i64]; omega
          have m3 : (n : Int) < (M : Int) := by omega
          have m4 : n < M := by omega
          have HM : Hid ((M : Int) - 1 = (n : Int) ∧ IntKind.i64.wrap ((M : Int) - 1) = (n : Int) ∧ (n : Int) < (M : Int)) := ⟨m1, m2, m3⟩
          clear hy hynl hPA hA hAl hAok hM hv hy10 m1 m2 m3 m4
          obtain ⟨b0, bo, rfl⟩ : ∃ b0 bo, b = some ⟨b0, bo, none⟩ := by
            obtain ⟨p, o, e, _, _⟩ := H0.out.2.2.1.get (nodes_ok HI.out.1).2
            exact ⟨p, o, e⟩
          have HNN : Hid (IntsAt wr (some ⟨b0, bo, none⟩) l ∧ n = l.length ∧ n ≤ 9) := ⟨H0.out.2.2.1.call HR.out.2.1, H0.out.2.2.2.1, HI.out.2.2⟩
          have HL1 : Hid (([] : List Int).length + l.length ≤ 1000000) := by
            have h1 := HNN.out.2
            show 0 + l.length ≤ _
            omega
          have HL2 : Hid (l.length + 1 ≤ 1000000) := by
            have h1 := HNN.out.2
            unfold Hid
            omega
          go_wp2_with fail
          refine HKr.out _ _ ?_
          clear HKr
          go_wp2_with (at_builtin; first | (refine wpList_append_RowJ _ rfl (.tmp 70) (.tmp 71) rfl wr.heap.size none 0 0 [] l rfl rfl (RowJ.nil _ _) (Nat.le_refl _) HL1.out b0 bo n d rfl HNN.out.2.1 HNN.out.1 ?_; intro a5 m5 cap5 w5 hm5 hR5 hb5; have H5 : Hid (m5 = n ∧ RowJ w5 wr.heap.size a5 l cap5 ∧ Below wr.heap.size wr w5) := ⟨by rw [hm5, Nat.zero_add], hR5, hb5⟩; clear hm5 hR5 hb5) | ((refine wpList_append_RowJ _ rfl (.tmp 73) (.tmp 75) rfl wr.heap.size a5 m5 cap5 l [(y : Int)] rfl (by rw [H5.out.1]; exact HNN.out.2.1) H5.out.2.1.alloc (Nat.le_trans H5.out.2.2.size (by simp)) HL2.out w5.heap.size 0 1 1 rfl rfl (IntsAt.one' rfl) ?_; intro a6 m6 cap6 w6 hm6 hR6 hb6; have H6 : Hid (RowJ w6 wr.heap.size a6 A cap6 ∧ Below wr.heap.size wr w6) := ⟨by rw [HA.out.1]; exact hR6, (below_alloc0 H5.out.2.2 _).trans hb6⟩; have hMM : M = m6 := (by rw [hm6, H5.out.1]; exact HA.out.2.1); subst hMM; clear hm6 hR6 hb6)))
          clear hy'
          have H7 : Hid (Below w.heap.size w w6 ∧ IntsAt w6 a6 A ∧ Own4 w6 B t ∧ Nums w6 pa (rtL cs)) := ⟨below_call0 HR.out.2.1 H6.out.2, H6.out.1.ints, (H10.out.2.1.call HR.out.1).call H6.out.2, (H10.out.2.2.call HR.out.1).call H6.out.2⟩
          clear H5 H6 HL1 HL2 HNN
          refine (KW.out _ _ _ (H0.out.1.call H7.out.1) H7.out.2.1).mono ?_
          rintro e w11 ⟨yb, rfl, hqq, hb11⟩
          have H11 : Hid (Below w.heap.size w w11 ∧ IntsAt w11 a6 A ∧ Own4 w11 B t ∧ Nums w11 pa (rtL cs) ∧ Nums w11 (some ⟨yb, 0, none⟩) (wsL A 0)) := ⟨below_call0 H7.out.1 hb11, H7.out.2.1.call hb11, H7.out.2.2.1.call hb11, H7.out.2.2.2.call hb11, hqq⟩
          clear hqq hb11 H7 KW
          skip
          go_wp2_with fail
          skip
          refine (KS.out _).mono ?_
          rintro e w12 ⟨rfl, hb12⟩
          obtain ⟨w13, hw13⟩ : ∃ y, y = w12.alloc (.cells #[.int .u64 (limb q 0 : Nat), .int .u64 (limb q 1 : Nat), .int .u64 (limb q 2 : Nat), .int .u64 (limb q 3 : Nat), .int .u64 (limb (R256 - q) 0 : Nat), .int .u64 (limb (R256 - q) 1 : Nat), .int .u64 (limb (R256 - q) 2 : Nat), .int .u64 (limb (R256 - q) 3 : Nat)] 55) := ⟨_, rfl⟩
          have H13 : Hid (Below w.heap.size w w13 ∧ IntsAt w13 a6 A ∧ Own4 w13 B t ∧ Nums w13 pa (rtL cs) ∧ Nums w13 (some ⟨yb, 0, none⟩) (wsL A 0) ∧ FieldB w13 w12.heap.size q ∧ w12.heap.size + 1 = w13.heap.size ∧ w13 = w12.alloc (.cells #[.int .u64 (limb q 0 : Nat), .int .u64 (limb q 1 : Nat), .int .u64 (limb q 2 : Nat), .int .u64 (limb q 3 : Nat), .int .u64 (limb (R256 - q) 0 : Nat), .int .u64 (limb (R256 - q) 1 : Nat), .int .u64 (limb (R256 - q) 2 : Nat), .int .u64 (limb (R256 - q) 3 : Nat)] 55)) := by
            have hb : Below w11.heap.size w11 w13 := by rw [hw13]; exact below_alloc0 hb12 _
            refine ⟨below_call0 H11.out.1 hb, H11.out.2.1.call hb, H11.out.2.2.1.call hb, H11.out.2.2.2.1.call hb, H11.out.2.2.2.2.call hb, ?_, ?_, hw13⟩
            · rw [hw13]; exact FieldB.new _ _ _
            · rw [hw13]; simp
          clear hb12 hw13 H11
          obtain ⟨⟨t0, t1, t2, t3⟩, _, tz⟩ := H13.out.2.2.1.facts
          rw [H13.out.2.2.2.2.2.2.2] at t0 t1 t2 t3 tz
          go_wp2_with fail
          rw [← H13.out.2.2.2.2.2.2.2]
          try rw [H13.out.2.2.2.2.2.2.1]
          clear t0 t1 t2 t3 tz
          obtain ⟨w14, hw14⟩ : ∃ y, y = w13.alloc (.cells #[.int .u64 (limb t 0 : Nat), .int .u64 (limb t 1 : Nat), .int .u64 (limb t 2 : Nat), .int .u64 (limb t 3 : Nat)] 25) := ⟨_, rfl⟩
          have H14 : Hid (Below w13.heap.size w13 w14 ∧ Own4 w14 w13.heap.size t) := by rw [hw14]; exact ⟨below_alloc0 (Below.refl _ _) _, Own4.new _ _ _⟩
          rw [← hw14]
          clear hw14
          rename_i Kz hKz
          have HKz : Hid _ := hKz
          clear hKz
          go_loopw [96] (fun iv wz => ∃ k : Nat, k ≤ n ∧ iv = .int .i64 (k : Nat) ∧ Own4 wz w13.heap.size (reK t (wAt A 0) (fun i => (rtL cs)[i]?.getD 0) k) ∧ Below w13.heap.size w13 wz) (fun iv _ => n - (Go.RowKit.intOf iv).toNat)
          case atStart => exact ⟨0, Nat.zero_le _, rfl, H14.out.2, H14.out.1⟩
          case round =>
            obtain ⟨k, hk, rfl, hO, hB⟩ := hrel
            rename World => wz
            obtain ⟨r, hr⟩ : ∃ r, r = reK t (wAt A 0) (fun i => (rtL cs)[i]?.getD 0) k := ⟨_, rfl⟩
            rw [← hr] at hO
            have HZ : Hid (Own4 wz w13.heap.size r ∧ Below w13.heap.size w13 wz ∧ Below w.heap.size w wz ∧ r = reK t (wAt A 0) (fun i => (rtL cs)[i]?.getD 0) k ∧ FieldB wz w12.heap.size q) := ⟨hO, hB, below_call0 H13.out.1 hB, hr, H13.out.2.2.2.2.2.1.call hB⟩
            clear hO hB hr
            by_cases hlt : k < n
            · clear HKz
              have hkp : k < (rtL cs).length := by rw [← HI.out.2.1]; exact hlt
              have hkw : k < (wsL A 0).length := by rw [wsL_length, HA.out.2.2.2]; omega
              have hlt' : (k : Int) < (n : Int) := Int.ofNat_lt.2 hlt
              have hltM : (k : Int) < (M : Int) := by have := HM.out.2.2; omega
              obtain ⟨p', o', e', ⟨d0, d1, d2, d3⟩, dz⟩ := (H13.out.2.2.2.2.1.call HZ.out.2.1).get hkw
              simp only [Option.some.injEq, Addr.mk.injEq, and_true] at e'
              obtain ⟨rfl, rfl⟩ := e'
              rw [Nat.zero_add, wsL_get] at d0 d1 d2 d3
              obtain ⟨p, o, hpa, ⟨c0, c1, c2, c3⟩, cz⟩ := (H13.out.2.2.2.1.call HZ.out.2.1).get hkp
              subst hpa
              obtain ⟨W, hW⟩ : ∃ W, W = wAt A 0 k := ⟨_, rfl⟩
              obtain ⟨s, hs⟩ : ∃ s, s = ((rtL cs)[k]'hkp) := ⟨_, rfl⟩
              rw [← hW] at d0 d1 d2 d3
              rw [← hs] at c0 c1 c2 c3
              obtain ⟨f, hf⟩ : ∃ f, f = W * s % QQ := ⟨_, rfl⟩
              obtain ⟨u, hu⟩ : ∃ u, u = subM QQ r f := ⟨_, rfl⟩
              have KM : Hid (∀ w, Calls Tryd.prog 29 #[.agg #[.int .u64 (limb (q) 0 : Nat), .int .u64 (limb (q) 1 : Nat), .int .u64 (limb (q) 2 : Nat), .int .u64 (limb (q) 3 : Nat), .int .u64 (limb (R256 - (q)) 0 : Nat), .int .u64 (limb (R256 - (q)) 1 : Nat), .int .u64 (limb (R256 - (q)) 2 : Nat), .int .u64 (limb (R256 - (q)) 3 : Nat)], .agg #[.int .u64 (limb (W) 0 : Nat), .int .u64 (limb (W) 1 : Nat), .int .u64 (limb (W) 2 : Nat), .int .u64 (limb (W) 3 : Nat)], .agg #[.int .u64 (limb (s) 0 : Nat), .int .u64 (limb (s) 1 : Nat), .int .u64 (limb (s) 2 : Nat), .int .u64 (limb (s) 3 : Nat)]] w fun e w' => e = .returned (.agg #[.int .u64 (limb (f) 0 : Nat), .int .u64 (limb (f) 1 : Nat), .int .u64 (limb (f) 2 : Nat), .int .u64 (limb (f) 3 : Nat)]) ∧ Below w.heap.size w w') := fun w => by rw [H0.out.2.2.2.2.2, hf]; exact mul2_any QQ W s FM_Q FS_Q (by rw [hW]; exact Nat.lt_trans (wAt_lt _ _ _) FM_Q.2.1) (by rw [hs]; exact Nat.lt_trans (allQ_get (rtL_all cs) hkp) FM_Q.2.1) w
              have KU : Hid (∀ w, Calls Tryd.prog 28 #[.agg #[.int .u64 (limb (q) 0 : Nat), .int .u64 (limb (q) 1 : Nat), .int .u64 (limb (q) 2 : Nat), .int .u64 (limb (q) 3 : Nat), .int .u64 (limb (R256 - (q)) 0 : Nat), .int .u64 (limb (R256 - (q)) 1 : Nat), .int .u64 (limb (R256 - (q)) 2 : Nat), .int .u64 (limb (R256 - (q)) 3 : Nat)], .agg #[.int .u64 (limb (r) 0 : Nat), .int .u64 (limb (r) 1 : Nat), .int .u64 (limb (r) 2 : Nat), .int .u64 (limb (r) 3 : Nat)], .agg #[.int .u64 (limb (f) 0 : Nat), .int .u64 (limb (f) 1 : Nat), .int .u64 (limb (f) 2 : Nat), .int .u64 (limb (f) 3 : Nat)]] w fun e w' => e = .returned (.agg #[.int .u64 (limb (u) 0 : Nat), .int .u64 (limb (u) 1 : Nat), .int .u64 (limb (u) 2 : Nat), .int .u64 (limb (u) 3 : Nat)]) ∧ Below w.heap.size w w') := fun w => by rw [H0.out.2.2.2.2.2, hu]; exact sub2_any QQ r f FM_Q.2.1 (by rw [HZ.out.2.2.2.1]; exact reK_lt H0.out.2.2.2.2.1 _ _ _) (by rw [hf]; exact Nat.mod_lt _ QQ_pos) w
              have HU : Hid (u = reK t (wAt A 0) (fun i => (rtL cs)[i]?.getD 0) (k + 1)) := by
                show u = subM QQ (reK t (wAt A 0) (fun i => (rtL cs)[i]?.getD 0) k) (wAt A 0 k * (rtL cs)[k]?.getD 0 % QQ)
                rw [List.getElem?_eq_getElem hkp, ← HZ.out.2.2.2.1, ← hW]
                show u = subM QQ r (W * ((rtL cs)[k]'hkp) % QQ)
                rw [← hs, ← hf]; exact hu
              have HD : Hid (∀ w', Below wz.heap.size wz w' → (w'.cell? ⟨yb, k * 4, none⟩ = some (.int .u64 (limb W 0 : Nat)) ∧ w'.cell? ⟨yb, k * 4 + 1, none⟩ = some (.int .u64 (limb W 1 : Nat)) ∧ w'.cell? ⟨yb, k * 4 + 2, none⟩ = some (.int .u64 (limb W 2 : Nat)) ∧ w'.cell? ⟨yb, k * 4 + 3, none⟩ = some (.int .u64 (limb W 3 : Nat))) ∧ yb < w'.heap.size) := fun w' hb => by
                have e := fun j => hb.cell (p := ⟨yb, j, none⟩) dz
                exact ⟨⟨(e _).trans d0, (e _).trans d1, (e _).trans d2, (e _).trans d3⟩, Nat.lt_of_lt_of_le dz hb.size⟩
              have HC : Hid (∀ w', Below wz.heap.size wz w' → (w'.cell? ⟨p, o + k * 4, none⟩ = some (.int .u64 (limb s 0 : Nat)) ∧ w'.cell? ⟨p, o + k * 4 + 1, none⟩ = some (.int .u64 (limb s 1 : Nat)) ∧ w'.cell? ⟨p, o + k * 4 + 2, none⟩ = some (.int .u64 (limb s 2 : Nat)) ∧ w'.cell? ⟨p, o + k * 4 + 3, none⟩ = some (.int .u64 (limb s 3 : Nat))) ∧ p < w'.heap.size) := fun w' hb => by
                have e := fun j => hb.cell (p := ⟨p, j, none⟩) cz
                exact ⟨⟨(e _).trans c0, (e _).trans c1, (e _).trans c2, (e _).trans c3⟩, Nat.lt_of_lt_of_le cz hb.size⟩
              clear hW hs hf hu d0 d1 d2 d3 dz c0 c1 c2 c3 cz
              go_wp2_with fail
              refine wp_region_N (fun w' => Below wz.heap.size wz w') 13 14 rfl (by kernel_rfl) ?_
              refine wpAnyN_take (i := 0) (oi := ?o0zy6p) (v := ?v0zy6p) ?hi0zy6p (by kernel_rfl) (by kernel_rfl) (by kernel_rfl) (by kernel_rfl) (by decide) (by kernel_rfl) ?hQ0zy6p ?hy0zy6p (Below.drew (Below.refl _ _)) ?more0zy6p
              case hi0zy6p => rw [List.getElem?_toArray]; exact rfl
              case hQ0zy6p => exact fun _ _ _ h => h
              case hy0zy6p =>
                refine Or.inl ⟨by rfl, ?_⟩
                intro w' hSw
                obtain ⟨⟨o0, o1, o2, o3⟩, _, oz⟩ := (HZ.out.1.call hSw).facts
                have hF := HZ.out.2.2.2.2.call hSw
                obtain ⟨q0, q1, q2, q3⟩ := hF.1.facts
                obtain ⟨r0, r1, r2, r3⟩ := hF.gap
                have rz := hF.2.2
                obtain ⟨⟨d0, d1, d2, d3⟩, dz⟩ := HD.out _ hSw
                obtain ⟨⟨c0, c1, c2, c3⟩, cz⟩ := HC.out _ hSw
                clear hSw hF
                go_simp
                try with_reducible rfl
              simp only [Act.put, List.setIfInBounds_toArray, List.set_cons_zero, List.set_cons_succ]
              refine wpAnyN_take (i := 1) (oi := ?o1zy6p) (v := ?v1zy6p) ?hi1zy6p (by kernel_rfl) (by kernel_rfl) (by kernel_rfl) (by kernel_rfl) (by decide) (by kernel_rfl) ?hQ1zy6p ?hy1zy6p (Below.drew (Below.refl _ _)) ?more1zy6p
              case hi1zy6p => rw [List.getElem?_toArray]; exact rfl
              case hQ1zy6p => exact fun _ _ _ h => h
              case hy1zy6p =>
                refine Or.inl ⟨by rfl, ?_⟩
                intro w' hSw
                obtain ⟨⟨o0, o1, o2, o3⟩, _, oz⟩ := (HZ.out.1.call hSw).facts
                have hF := HZ.out.2.2.2.2.call hSw
                obtain ⟨q0, q1, q2, q3⟩ := hF.1.facts
                obtain ⟨r0, r1, r2, r3⟩ := hF.gap
                have rz := hF.2.2
                obtain ⟨⟨d0, d1, d2, d3⟩, dz⟩ := HD.out _ hSw
                obtain ⟨⟨c0, c1, c2, c3⟩, cz⟩ := HC.out _ hSw
                clear hSw hF
                go_simp
                try with_reducible rfl
              simp only [Act.put, List.setIfInBounds_toArray, List.set_cons_zero, List.set_cons_succ]
              refine wpAnyN_take (i := 2) (oi := ?o2zy6p) (v := ?v2zy6p) ?hi2zy6p (by kernel_rfl) (by kernel_rfl) (by kernel_rfl) (by kernel_rfl) (by decide) (by kernel_rfl) ?hQ2zy6p ?hy2zy6p (Below.drew (Below.refl _ _)) ?more2zy6p
              case hi2zy6p => rw [List.getElem?_toArray]; exact rfl
              case hQ2zy6p => exact fun _ _ _ h => h
              case hy2zy6p =>
                refine Or.inl ⟨by rfl, ?_⟩
                intro w' hSw
                obtain ⟨⟨o0, o1, o2, o3⟩, _, oz⟩ := (HZ.out.1.call hSw).facts
                have hF := HZ.out.2.2.2.2.call hSw
                obtain ⟨q0, q1, q2, q3⟩ := hF.1.facts
                obtain ⟨r0, r1, r2, r3⟩ := hF.gap
                have rz := hF.2.2
                obtain ⟨⟨d0, d1, d2, d3⟩, dz⟩ := HD.out _ hSw
                obtain ⟨⟨c0, c1, c2, c3⟩, cz⟩ := HC.out _ hSw
                clear hSw hF
                go_simp
                try with_reducible rfl
              simp only [Act.put, List.setIfInBounds_toArray, List.set_cons_zero, List.set_cons_succ]
              refine wpAnyN_takeF (i := 3) (oi := ?o3zy6p) (v := ?v3zy6p) ?hi3zy6p (by kernel_rfl) (by kernel_rfl) (by kernel_rfl) (by decide) ?hQ3zy6p ?hy3zy6p (Below.drew (Below.refl _ _)) ?more3zy6p
              case hi3zy6p => rw [List.getElem?_toArray]; exact rfl
              case hQ3zy6p => exact fun _ _ _ h => h
              case hy3zy6p =>
                refine Or.inl ⟨by rfl, ?_⟩
                intro w' hSw
                clear hSw
                go_simp
                try with_reducible rfl
              simp only [Act.put, List.setIfInBounds_toArray, List.set_cons_zero, List.set_cons_succ]
              refine wpAnyN_takeF (i := 4) (oi := ?o4zy6p) (v := ?v4zy6p) ?hi4zy6p (by kernel_rfl) (by kernel_rfl) (by kernel_rfl) (by decide) ?hQ4zy6p ?hy4zy6p (Below.drew (Below.refl _ _)) ?more4zy6p
              case hi4zy6p => rw [List.getElem?_toArray]; exact rfl
              case hQ4zy6p => exact fun _ _ _ h => h
              case hy4zy6p =>
                refine Or.inl ⟨by rfl, ?_⟩
                intro w' hSw
                clear hSw
                go_simp
                try with_reducible rfl
              simp only [Act.put, List.setIfInBounds_toArray, List.set_cons_zero, List.set_cons_succ]
              refine wpAnyN_takeF (i := 5) (oi := ?o5zy6p) (v := ?v5zy6p) ?hi5zy6p (by kernel_rfl) (by kernel_rfl) (by kernel_rfl) (by decide) ?hQ5zy6p ?hy5zy6p (Below.drew (Below.refl _ _)) ?more5zy6p
              case hi5zy6p => rw [List.getElem?_toArray]; exact rfl
              case hQ5zy6p => exact fun _ _ _ h => h
              case hy5zy6p =>
                refine Or.inl ⟨by rfl, ?_⟩
                intro w' hSw
                clear hSw
                go_simp
                try with_reducible rfl
              simp only [Act.put, List.setIfInBounds_toArray, List.set_cons_zero, List.set_cons_succ]
              refine wpAnyN_take (i := 6) (oi := ?o6zy6p) (v := ?v6zy6p) ?hi6zy6p (by kernel_rfl) (by kernel_rfl) (by kernel_rfl) (by kernel_rfl) (by decide) (by kernel_rfl) ?hQ6zy6p ?hy6zy6p (Below.drew (Below.refl _ _)) ?more6zy6p
              case hi6zy6p => rw [List.getElem?_toArray]; exact rfl
              case hQ6zy6p => exact fun _ _ _ h => h
              case hy6zy6p =>
                refine Or.inl ⟨by rfl, ?_⟩
                intro w' hSw
                obtain ⟨⟨o0, o1, o2, o3⟩, _, oz⟩ := (HZ.out.1.call hSw).facts
                have hF := HZ.out.2.2.2.2.call hSw
                obtain ⟨q0, q1, q2, q3⟩ := hF.1.facts
                obtain ⟨r0, r1, r2, r3⟩ := hF.gap
                have rz := hF.2.2
                obtain ⟨⟨d0, d1, d2, d3⟩, dz⟩ := HD.out _ hSw
                obtain ⟨⟨c0, c1, c2, c3⟩, cz⟩ := HC.out _ hSw
                clear hSw hF
                go_simp
                try with_reducible rfl
              simp only [Act.put, List.setIfInBounds_toArray, List.set_cons_zero, List.set_cons_succ]
              refine wpAnyN_takeF (i := 7) (oi := ?o7zy6p) (v := ?v7zy6p) ?hi7zy6p (by kernel_rfl) (by kernel_rfl) (by kernel_rfl) (by decide) ?hQ7zy6p ?hy7zy6p (Below.drew (Below.refl _ _)) ?more7zy6p
              case hi7zy6p => rw [List.getElem?_toArray]; exact rfl
              case hQ7zy6p => exact fun _ _ _ h => h
              case hy7zy6p =>
                refine Or.inl ⟨by rfl, ?_⟩
                intro w' hSw
                clear hSw
                go_simp
                try with_reducible rfl
              simp only [Act.put, List.setIfInBounds_toArray, List.set_cons_zero, List.set_cons_succ]
              refine wpAnyN_takeF (i := 8) (oi := ?o8zy6p) (v := ?v8zy6p) ?hi8zy6p (by kernel_rfl) (by kernel_rfl) (by kernel_rfl) (by decide) ?hQ8zy6p ?hy8zy6p (Below.drew (Below.refl _ _)) ?more8zy6p
              case hi8zy6p => rw [List.getElem?_toArray]; exact rfl
              case hQ8zy6p => exact fun _ _ _ h => h
              case hy8zy6p =>
                refine Or.inl ⟨by rfl, ?_⟩
                intro w' hSw
                clear hSw
                go_simp
                try with_reducible rfl
              simp only [Act.put, List.setIfInBounds_toArray, List.set_cons_zero, List.set_cons_succ]
              refine wpAnyN_takeF (i := 9) (oi := ?o9zy6p) (v := ?v9zy6p) ?hi9zy6p (by kernel_rfl) (by kernel_rfl) (by kernel_rfl) (by decide) ?hQ9zy6p ?hy9zy6p (Below.drew (Below.refl _ _)) ?more9zy6p
              case hi9zy6p => rw [List.getElem?_toArray]; exact rfl
              case hQ9zy6p => exact fun _ _ _ h => h
              case hy9zy6p =>
                refine Or.inl ⟨by rfl, ?_⟩
                intro w' hSw
                clear hSw
                go_simp
                try with_reducible rfl
              simp only [Act.put, List.setIfInBounds_toArray, List.set_cons_zero, List.set_cons_succ]
              refine wpAnyN_takeL (i := 10) (oi := ?o10zy6p) (v := ?v10zy6p) [11, 12, 13] ?hi10zy6p (by kernel_rfl) (by kernel_rfl) (by kernel_rfl) (by kernel_rfl) (by decide) (by decide) (by kernel_rfl) ?hQ10zy6p ?hy10zy6p (Below.drew (Below.refl _ _)) ?more10zy6p
              case hi10zy6p => rw [List.getElem?_toArray]; exact rfl
              case hQ10zy6p => exact fun _ _ _ h => h
              case hy10zy6p =>
                refine Or.inl ⟨by rfl, ?_⟩
                intro w' hSw
                obtain ⟨⟨o0, o1, o2, o3⟩, _, oz⟩ := (HZ.out.1.call hSw).facts
                have hF := HZ.out.2.2.2.2.call hSw
                obtain ⟨q0, q1, q2, q3⟩ := hF.1.facts
                obtain ⟨r0, r1, r2, r3⟩ := hF.gap
                have rz := hF.2.2
                obtain ⟨⟨d0, d1, d2, d3⟩, dz⟩ := HD.out _ hSw
                obtain ⟨⟨c0, c1, c2, c3⟩, cz⟩ := HC.out _ hSw
                clear hSw hF
                go_simp
                try with_reducible rfl
              simp only [Act.put, List.setIfInBounds_toArray, List.set_cons_zero, List.set_cons_succ]
              refine wpAnyN_one (i := 11) (o := ?o11zy6p) (by kernel_rfl) ?hi11zy6p ?hw11zy6p ?st11zy6p
              case hi11zy6p => rw [List.getElem?_toArray]; exact rfl
              case hw11zy6p => exact rfl
              intro K hK
              have HK11 : Hid _ := hK
              clear hK
              go_simp
              refine (KM.out _).mono ?_
              rintro e w15 ⟨rfl, hq⟩
              have H15 : Hid (Below wz.heap.size wz w15) := below_call0 (Below.drew (Below.refl _ _)) hq
              clear hq
              go_wp2_with fail
              refine HK11.out _ _ ⟨fun _ => H15.out, ?_⟩
              clear HK11 K
              try simp only [Act.put, List.setIfInBounds_toArray, List.set_cons_zero, List.set_cons_succ]
              refine wpAnyN_one (i := 12) (o := ?o12zy6p) (by kernel_rfl) ?hi12zy6p ?hw12zy6p ?st12zy6p
              case hi12zy6p => rw [List.getElem?_toArray]; exact rfl
              case hw12zy6p => exact rfl
              intro K hK
              have HK12 : Hid _ := hK
              clear hK
              go_simp
              refine (KU.out _).mono ?_
              rintro e w16 ⟨rfl, hq⟩
              have H16 : Hid (Below wz.heap.size wz w16) := below_call0 H15.out hq
              obtain ⟨⟨o0, o1, o2, o3⟩, ⟨f0, f1, f2, f3⟩, oz⟩ := (HZ.out.1.call H16.out).facts
              clear hq
              go_wp2_with fail
              refine HK12.out _ _ ⟨fun _ => H16.out, ?_⟩
              clear HK12 K
              try simp only [Act.put, List.setIfInBounds_toArray, List.set_cons_zero, List.set_cons_succ]
              refine wpAnyN_one (i := 13) (o := ?o13zy6p) (by kernel_rfl) ?hi13zy6p ?hw13zy6p ?st13zy6p
              case hi13zy6p => rw [List.getElem?_toArray]; exact rfl
              case hw13zy6p => exact rfl
              intro K hK
              have HK13 : Hid _ := hK
              clear hK
              go_simp
              refine HK13.out _ _ ⟨fun h => absurd h (by decide +kernel), ?_⟩
              clear HK13 K
              try simp only [Act.put, List.setIfInBounds_toArray, List.set_cons_zero, List.set_cons_succ]
              refine wpAnyN_done (by kernel_rfl) ?_ _
              have HE : Hid (Own4 ((((w16.setCell ⟨w13.heap.size, 0, none⟩ (.int .u64 (limb u 0 : Nat))).setCell ⟨w13.heap.size, 1, none⟩ (.int .u64 (limb u 1 : Nat))).setCell ⟨w13.heap.size, 2, none⟩ (.int .u64 (limb u 2 : Nat))).setCell ⟨w13.heap.size, 3, none⟩ (.int .u64 (limb u 3 : Nat))) w13.heap.size (reK t (wAt A 0) (fun i => (rtL cs)[i]?.getD 0) (k + 1)) ∧ Below w13.heap.size w13 ((((w16.setCell ⟨w13.heap.size, 0, none⟩ (.int .u64 (limb u 0 : Nat))).setCell ⟨w13.heap.size, 1, none⟩ (.int .u64 (limb u 1 : Nat))).setCell ⟨w13.heap.size, 2, none⟩ (.int .u64 (limb u 2 : Nat))).setCell ⟨w13.heap.size, 3, none⟩ (.int .u64 (limb u 3 : Nat)))) := by
                refine ⟨?_, Below.setCell (Below.setCell (Below.setCell (Below.setCell (below_call0 HZ.out.2.1 H16.out) (Nat.le_refl _) _) (Nat.le_refl _) _) (Nat.le_refl _) _) (Nat.le_refl _) _⟩
                rw [← HU.out]; exact (HZ.out.1.call H16.out).put
              clear o0 o1 o2 o3 f0 f1 f2 f3 oz
              go_wp2_with fail
              go_roundw
              case rel => first | exact ⟨k + 1, hlt, by go_num, HE.out⟩ | ((repeat apply Exists.intro); exact ⟨⟨k + 1, hlt, by go_num, HE.out⟩, rfl⟩)
              case measure => simp [intOf]; omega
            · obtain rfl : k = n := by omega
              have hnl : ¬ ((k : Int) < (k : Int)) := Int.lt_irrefl _
              clear hlt hk
              obtain ⟨p0, po, rfl⟩ : ∃ p0 po, pa = some ⟨p0, po, none⟩ := by
                obtain ⟨p, o, e, _, _⟩ := H13.out.2.2.2.1.get (show 0 < (rtL cs).length by rw [← HI.out.2.1, H0.out.2.2.2.1]; exact (nodes_ok HI.out.1).2)
                exact ⟨p, o, e⟩
              have HNP : Hid (Nums wz (some ⟨p0, po, none⟩) (rtL cs) ∧ k = (rtL cs).length ∧ ([] : List Nat).length + (rtL cs).length ≤ 1000000 ∧ (rtL cs).length ≤ 1000000) := ⟨H13.out.2.2.2.1.call HZ.out.2.1, HI.out.2.1, by have := rtL_length cs; show 0 + _ ≤ _; omega, by have := rtL_length cs; omega⟩
              obtain ⟨W, hW⟩ : ∃ W, W = wAt A 0 k := ⟨_, rfl⟩
              obtain ⟨f, hf⟩ : ∃ f, f = W ^ (QQ - 2) % QQ := ⟨_, rfl⟩
              have KI : Hid (∀ w, Calls Tryd.prog 30 #[.agg #[.int .u64 (limb (q) 0 : Nat), .int .u64 (limb (q) 1 : Nat), .int .u64 (limb (q) 2 : Nat), .int .u64 (limb (q) 3 : Nat), .int .u64 (limb (R256 - (q)) 0 : Nat), .int .u64 (limb (R256 - (q)) 1 : Nat), .int .u64 (limb (R256 - (q)) 2 : Nat), .int .u64 (limb (R256 - (q)) 3 : Nat)], .agg #[.int .u64 (limb (W) 0 : Nat), .int .u64 (limb (W) 1 : Nat), .int .u64 (limb (W) 2 : Nat), .int .u64 (limb (W) 3 : Nat)]] w fun e w' => e = .returned (.agg #[.int .u64 (limb (f) 0 : Nat), .int .u64 (limb (f) 1 : Nat), .int .u64 (limb (f) 2 : Nat), .int .u64 (limb (f) 3 : Nat)]) ∧ Below w.heap.size w w') := fun w => by rw [H0.out.2.2.2.2.2, hf]; exact inv2_any QQ W FM_Q FS_Q (by rw [hW]; exact Nat.lt_trans (wAt_lt _ _ _) FM_Q.2.1) w
              have KM : Hid (∀ w, Calls Tryd.prog 29 #[.agg #[.int .u64 (limb (q) 0 : Nat), .int .u64 (limb (q) 1 : Nat), .int .u64 (limb (q) 2 : Nat), .int .u64 (limb (q) 3 : Nat), .int .u64 (limb (R256 - (q)) 0 : Nat), .int .u64 (limb (R256 - (q)) 1 : Nat), .int .u64 (limb (R256 - (q)) 2 : Nat), .int .u64 (limb (R256 - (q)) 3 : Nat)], .agg #[.int .u64 (limb (r) 0 : Nat), .int .u64 (limb (r) 1 : Nat), .int .u64 (limb (r) 2 : Nat), .int .u64 (limb (r) 3 : Nat)], .agg #[.int .u64 (limb (f) 0 : Nat), .int .u64 (limb (f) 1 : Nat), .int .u64 (limb (f) 2 : Nat), .int .u64 (limb (f) 3 : Nat)]] w fun e w' => e = .returned (.agg #[.int .u64 (limb (v) 0 : Nat), .int .u64 (limb (v) 1 : Nat), .int .u64 (limb (v) 2 : Nat), .int .u64 (limb (v) 3 : Nat)]) ∧ Below w.heap.size w w') := fun w => by
                have e : v = r * f % QQ := by rw [HA.out.2.2.1, ← HZ.out.2.2.2.1, ← hW, ← hf]
                rw [H0.out.2.2.2.2.2, e]
                exact mul2_any QQ r f FM_Q FS_Q (by rw [HZ.out.2.2.2.1]; exact Nat.lt_trans (reK_lt H0.out.2.2.2.2.1 _ _ _) FM_Q.2.1) (by rw [hf]; exact Nat.lt_trans (Nat.mod_lt _ QQ_pos) FM_Q.2.1) w
              have HWW : Hid (W = wAt A 0 k) := hW
              clear hW hf
              go_wp2_with fail
              refine HKz.out _ _ ?_
              clear HKz
              go_wp2_with (at_builtin; refine wpList_append_RowNs _ rfl (.tmp 113) (.tmp 114) rfl wz.heap.size none 0 0 [] (rtL cs) rfl rfl (RowN.nil _ _) (Nat.le_refl _) HNP.out.2.2.1 p0 po k pc rfl HNP.out.2.1 HNP.out.1 ?_; intro a7 m7 cap7 w19 hm7 hR7 hb7; have H19 : Hid (m7 = k ∧ RowN w19 wz.heap.size a7 (rtL cs) cap7 ∧ Below wz.heap.size wz w19) := ⟨by rw [hm7, Nat.zero_add], hR7, hb7⟩; clear hm7 hR7 hb7)
              obtain ⟨m1, m2, m3⟩ := HM.out
              have m4 : IntKind.i64.wrap (k : Int) = (k : Int) := by rw [IntKind.wrap_i64]; omega
              have hkw : k < (wsL A 0).length := by rw [wsL_length, HA.out.2.2.2]; omega
              have HS : Hid (Own4 w19 w13.heap.size r ∧ FieldB w19 w12.heap.size q ∧ (w19.cell? ⟨yb, k * 4, none⟩ = some (.int .u64 (limb W 0 : Nat)) ∧ w19.cell? ⟨yb, k * 4 + 1, none⟩ = some (.int .u64 (limb W 1 : Nat)) ∧ w19.cell? ⟨yb, k * 4 + 2, none⟩ = some (.int .u64 (limb W 2 : Nat)) ∧ w19.cell? ⟨yb, k * 4 + 3, none⟩ = some (.int .u64 (limb W 3 : Nat))) ∧ yb < w19.heap.size ∧ Below w.heap.size w w19) := by
                obtain ⟨p', o', e', ⟨d0, d1, d2, d3⟩, dz⟩ := ((H13.out.2.2.2.2.1.call HZ.out.2.1).call H19.out.2.2).get hkw
                simp only [Option.some.injEq, Addr.mk.injEq, and_true] at e'
                obtain ⟨rfl, rfl⟩ := e'
                rw [Nat.zero_add, wsL_get, ← HWW.out] at d0 d1 d2 d3
                exact ⟨HZ.out.1.call H19.out.2.2, HZ.out.2.2.2.2.call H19.out.2.2, ⟨d0, d1, d2, d3⟩, dz, below_call0 HZ.out.2.2.1 H19.out.2.2⟩
              have HD : Hid (∀ w', Below w19.heap.size w19 w' → (w'.cell? ⟨yb, k * 4, none⟩ = some (.int .u64 (limb W 0 : Nat)) ∧ w'.cell? ⟨yb, k * 4 + 1, none⟩ = some (.int .u64 (limb W 1 : Nat)) ∧ w'.cell? ⟨yb, k * 4 + 2, none⟩ = some (.int .u64 (limb W 2 : Nat)) ∧ w'.cell? ⟨yb, k * 4 + 3, none⟩ = some (.int .u64 (limb W 3 : Nat))) ∧ yb < w'.heap.size) := fun w' hb => by
                obtain ⟨d0, d1, d2, d3⟩ := HS.out.2.2.1
                have e := fun j => hb.cell (p := ⟨yb, j, none⟩) HS.out.2.2.2.1
                exact ⟨⟨(e _).trans d0, (e _).trans d1, (e _).trans d2, (e _).trans d3⟩, Nat.lt_of_lt_of_le HS.out.2.2.2.1 hb.size⟩
              clear hkw
              refine wp_region_N (fun w' => Below w19.heap.size w19 w') 11 15 rfl (by kernel_rfl) ?_
              refine wpAnyN_takeF (i := 0) (oi := ?o0zy6r) (v := ?v0zy6r) ?hi0zy6r (by kernel_rfl) (by kernel_rfl) (by kernel_rfl) (by decide) ?hQ0zy6r ?hy0zy6r (Below.drew (Below.refl _ _)) ?more0zy6r
              case hi0zy6r => rw [List.getElem?_toArray]; exact rfl
              case hQ0zy6r => exact fun _ _ _ h => h
              case hy0zy6r =>
                refine Or.inl ⟨by rfl, ?_⟩
                intro w' hSw
                clear hSw
                go_simp
                try with_reducible rfl
              simp only [Act.put, List.setIfInBounds_toArray, List.set_cons_zero, List.set_cons_succ]
              refine wpAnyN_take (i := 1) (oi := ?o1zy6r) (v := ?v1zy6r) ?hi1zy6r (by kernel_rfl) (by kernel_rfl) (by kernel_rfl) (by kernel_rfl) (by decide) (by kernel_rfl) ?hQ1zy6r ?hy1zy6r (Below.drew (Below.refl _ _)) ?more1zy6r
              case hi1zy6r => rw [List.getElem?_toArray]; exact rfl
              case hQ1zy6r => exact fun _ _ _ h => h
              case hy1zy6r =>
                refine Or.inl ⟨by rfl, ?_⟩
                intro w' hSw
                obtain ⟨⟨o0, o1, o2, o3⟩, _, oz⟩ := (HS.out.1.call hSw).facts
                have hF := HS.out.2.1.call hSw
                obtain ⟨q0, q1, q2, q3⟩ := hF.1.facts
                obtain ⟨r0, r1, r2, r3⟩ := hF.gap
                have rz := hF.2.2
                obtain ⟨⟨d0, d1, d2, d3⟩, dz⟩ := HD.out _ hSw
                clear hSw hF
                go_simp
                try with_reducible rfl
              simp only [Act.put, List.setIfInBounds_toArray, List.set_cons_zero, List.set_cons_succ]
              refine wpAnyN_take (i := 2) (oi := ?o2zy6r) (v := ?v2zy6r) ?hi2zy6r (by kernel_rfl) (by kernel_rfl) (by kernel_rfl) (by kernel_rfl) (by decide) (by kernel_rfl) ?hQ2zy6r ?hy2zy6r (Below.drew (Below.refl _ _)) ?more2zy6r
              case hi2zy6r => rw [List.getElem?_toArray]; exact rfl
              case hQ2zy6r => exact fun _ _ _ h => h
              case hy2zy6r =>
                refine Or.inl ⟨by rfl, ?_⟩
                intro w' hSw
                obtain ⟨⟨o0, o1, o2, o3⟩, _, oz⟩ := (HS.out.1.call hSw).facts
                have hF := HS.out.2.1.call hSw
                obtain ⟨q0, q1, q2, q3⟩ := hF.1.facts
                obtain ⟨r0, r1, r2, r3⟩ := hF.gap
                have rz := hF.2.2
                obtain ⟨⟨d0, d1, d2, d3⟩, dz⟩ := HD.out _ hSw
                clear hSw hF
                go_simp
                try with_reducible rfl
              simp only [Act.put, List.setIfInBounds_toArray, List.set_cons_zero, List.set_cons_succ]
              refine wpAnyN_takeL (i := 3) (oi := ?o3zy6r) (v := ?v3zy6r) [10, 11] ?hi3zy6r (by kernel_rfl) (by kernel_rfl) (by kernel_rfl) (by kernel_rfl) (by decide) (by decide) (by kernel_rfl) ?hQ3zy6r ?hy3zy6r (Below.drew (Below.refl _ _)) ?more3zy6r
              case hi3zy6r => rw [List.getElem?_toArray]; exact rfl
              case hQ3zy6r => exact fun _ _ _ h => h
              case hy3zy6r =>
                refine Or.inl ⟨by rfl, ?_⟩
                intro w' hSw
                obtain ⟨⟨o0, o1, o2, o3⟩, _, oz⟩ := (HS.out.1.call hSw).facts
                have hF := HS.out.2.1.call hSw
                obtain ⟨q0, q1, q2, q3⟩ := hF.1.facts
                obtain ⟨r0, r1, r2, r3⟩ := hF.gap
                have rz := hF.2.2
                obtain ⟨⟨d0, d1, d2, d3⟩, dz⟩ := HD.out _ hSw
                clear hSw hF
                go_simp
                try with_reducible rfl
              simp only [Act.put, List.setIfInBounds_toArray, List.set_cons_zero, List.set_cons_succ]
              refine wpAnyN_takeF (i := 4) (oi := ?o4zy6r) (v := ?v4zy6r) ?hi4zy6r (by kernel_rfl) (by kernel_rfl) (by kernel_rfl) (by decide) ?hQ4zy6r ?hy4zy6r (Below.drew (Below.refl _ _)) ?more4zy6r
              case hi4zy6r => rw [List.getElem?_toArray]; exact rfl
              case hQ4zy6r => exact fun _ _ _ h => h
              case hy4zy6r =>
                refine Or.inl ⟨by rfl, ?_⟩
                intro w' hSw
                clear hSw
                go_simp
                try with_reducible rfl
              simp only [Act.put, List.setIfInBounds_toArray, List.set_cons_zero, List.set_cons_succ]
              refine wpAnyN_takeF (i := 5) (oi := ?o5zy6r) (v := ?v5zy6r) ?hi5zy6r (by kernel_rfl) (by kernel_rfl) (by kernel_rfl) (by decide) ?hQ5zy6r ?hy5zy6r (Below.drew (Below.refl _ _)) ?more5zy6r
              case hi5zy6r => rw [List.getElem?_toArray]; exact rfl
              case hQ5zy6r => exact fun _ _ _ h => h
              case hy5zy6r =>
                refine Or.inl ⟨by rfl, ?_⟩
                intro w' hSw
                clear hSw
                go_simp
                try with_reducible rfl
              simp only [Act.put, List.setIfInBounds_toArray, List.set_cons_zero, List.set_cons_succ]
              refine wpAnyN_takeF (i := 6) (oi := ?o6zy6r) (v := ?v6zy6r) ?hi6zy6r (by kernel_rfl) (by kernel_rfl) (by kernel_rfl) (by decide) ?hQ6zy6r ?hy6zy6r (Below.drew (Below.refl _ _)) ?more6zy6r
              case hi6zy6r => rw [List.getElem?_toArray]; exact rfl
              case hQ6zy6r => exact fun _ _ _ h => h
              case hy6zy6r =>
                refine Or.inl ⟨by rfl, ?_⟩
                intro w' hSw
                clear hSw
                go_simp
                try with_reducible rfl
              simp only [Act.put, List.setIfInBounds_toArray, List.set_cons_zero, List.set_cons_succ]
              refine wpAnyN_takeF (i := 7) (oi := ?o7zy6r) (v := ?v7zy6r) ?hi7zy6r (by kernel_rfl) (by kernel_rfl) (by kernel_rfl) (by decide) ?hQ7zy6r ?hy7zy6r (Below.drew (Below.refl _ _)) ?more7zy6r
              case hi7zy6r => rw [List.getElem?_toArray]; exact rfl
              case hQ7zy6r => exact fun _ _ _ h => h
              case hy7zy6r =>
                refine Or.inl ⟨by rfl, ?_⟩
                intro w' hSw
                clear hSw
                go_simp
                try with_reducible rfl
              simp only [Act.put, List.setIfInBounds_toArray, List.set_cons_zero, List.set_cons_succ]
              refine wpAnyN_takeF (i := 8) (oi := ?o8zy6r) (v := ?v8zy6r) ?hi8zy6r (by kernel_rfl) (by kernel_rfl) (by kernel_rfl) (by decide) ?hQ8zy6r ?hy8zy6r (Below.drew (Below.refl _ _)) ?more8zy6r
              case hi8zy6r => rw [List.getElem?_toArray]; exact rfl
              case hQ8zy6r => exact fun _ _ _ h => h
              case hy8zy6r =>
                refine Or.inl ⟨by rfl, ?_⟩
                intro w' hSw
                clear hSw
                go_simp
                try with_reducible rfl
              simp only [Act.put, List.setIfInBounds_toArray, List.set_cons_zero, List.set_cons_succ]
              refine wpAnyN_takeL (i := 9) (oi := ?o9zy6r) (v := ?v9zy6r) [10, 11] ?hi9zy6r (by kernel_rfl) (by kernel_rfl) (by kernel_rfl) (by kernel_rfl) (by decide) (by decide) (by kernel_rfl) ?hQ9zy6r ?hy9zy6r (Below.drew (Below.refl _ _)) ?more9zy6r
              case hi9zy6r => rw [List.getElem?_toArray]; exact rfl
              case hQ9zy6r => exact fun _ _ _ h => h
              case hy9zy6r =>
                refine Or.inl ⟨by rfl, ?_⟩
                intro w' hSw
                obtain ⟨⟨o0, o1, o2, o3⟩, _, oz⟩ := (HS.out.1.call hSw).facts
                have hF := HS.out.2.1.call hSw
                obtain ⟨q0, q1, q2, q3⟩ := hF.1.facts
                obtain ⟨r0, r1, r2, r3⟩ := hF.gap
                have rz := hF.2.2
                obtain ⟨⟨d0, d1, d2, d3⟩, dz⟩ := HD.out _ hSw
                clear hSw hF
                go_simp
                try with_reducible rfl
              simp only [Act.put, List.setIfInBounds_toArray, List.set_cons_zero, List.set_cons_succ]
              refine wpAnyN_one (i := 10) (o := ?o10zy6r) (by kernel_rfl) ?hi10zy6r ?hw10zy6r ?st10zy6r
              case hi10zy6r => rw [List.getElem?_toArray]; exact rfl
              case hw10zy6r => exact rfl
              intro K hK
              have HK10 : Hid _ := hK
              clear hK
              go_simp
              refine (KI.out _).mono ?_
              rintro e w20 ⟨rfl, hq⟩
              have H20 : Hid (Below w19.heap.size w19 w20) := below_call0 (Below.drew (Below.refl _ _)) hq
              clear hq
              go_wp2_with fail
              refine HK10.out _ _ ⟨fun _ => H20.out, ?_⟩
              clear HK10 K
              try simp only [Act.put, List.setIfInBounds_toArray, List.set_cons_zero, List.set_cons_succ]
              refine wpAnyN_one (i := 11) (o := ?o11zy6r) (by kernel_rfl) ?hi11zy6r ?hw11zy6r ?st11zy6r
              case hi11zy6r => rw [List.getElem?_toArray]; exact rfl
              case hw11zy6r => exact rfl
              intro K hK
              have HK11 : Hid _ := hK
              clear hK
              go_simp
              refine (KM.out _).mono ?_
              rintro e w21 ⟨rfl, hq⟩
              have H21 : Hid (Below w19.heap.size w19 w21) := below_call0 H20.out hq
              clear hq
              go_wp2_with fail
              refine HK11.out _ _ ⟨fun _ => H21.out, ?_⟩
              clear HK11 K
              try simp only [Act.put, List.setIfInBounds_toArray, List.set_cons_zero, List.set_cons_succ]
              refine wpAnyN_one (i := 12) (o := ?o12zy6r) (by kernel_rfl) ?hi12zy6r ?hw12zy6r ?st12zy6r
              case hi12zy6r => rw [List.getElem?_toArray]; exact rfl
              case hw12zy6r => exact rfl
              intro K hK
              have HK12 : Hid _ := hK
              clear hK
              go_simp
              refine HK12.out _ _ ⟨fun h => absurd h (by decide +kernel), ?_⟩
              clear HK12 K
              try simp only [Act.put, List.setIfInBounds_toArray, List.set_cons_zero, List.set_cons_succ]
              refine wpAnyN_one (i := 13) (o := ?o13zy6r) (by kernel_rfl) ?hi13zy6r ?hw13zy6r ?st13zy6r
              case hi13zy6r => rw [List.getElem?_toArray]; exact rfl
              case hw13zy6r => exact rfl
              intro K hK
              have HK13 : Hid _ := hK
              clear hK
              have HAP : Hid (RowN (w21.alloc (.cells #[.int .u64 (limb v 0 : Nat), .int .u64 (limb v 1 : Nat), .int .u64 (limb v 2 : Nat), .int .u64 (limb v 3 : Nat)] 25)) wz.heap.size a7 (rtL cs) cap7 ∧ Num4 (w21.alloc (.cells #[.int .u64 (limb v 0 : Nat), .int .u64 (limb v 1 : Nat), .int .u64 (limb v 2 : Nat), .int .u64 (limb v 3 : Nat)] 25)) w21.heap.size v ∧ Below wz.heap.size wz (w21.alloc (.cells #[.int .u64 (limb v 0 : Nat), .int .u64 (limb v 1 : Nat), .int .u64 (limb v 2 : Nat), .int .u64 (limb v 3 : Nat)] 25))) := ⟨(H19.out.2.1.call H21.out).alloc, Num4.new _ _ _, below_alloc0 (below_call0 H19.out.2.2 H21.out) _⟩
              refine owp_append_RowN _ (.tmp 116) (.tmp 128) rfl wz.heap.size a7 m7 cap7 (rtL cs) v rfl (by rw [H19.out.1]; exact HNP.out.2.1) HAP.out.1 HAP.out.2.2.size HNP.out.2.2.2 w21.heap.size 1 rfl HAP.out.2.1 ?_
              intro a8 m8 cap8 w22 hm8 hR8 hb8
              have H22 : Hid (RowN w22 wz.heap.size a8 (rtL cs ++ [v]) cap8 ∧ Below wz.heap.size wz w22) := ⟨hR8, HAP.out.2.2.trans hb8⟩
              have hMM : M = m8 := (by rw [hm8, H19.out.1]; exact HA.out.2.1)
              subst hMM
              clear hm8 hR8 hb8
              refine HK13.out _ _ ⟨fun h => absurd h (by decide +kernel), ?_⟩
              clear HK13 K
              try simp only [Act.put, List.setIfInBounds_toArray, List.set_cons_zero, List.set_cons_succ]
              refine wpAnyN_one (i := 14) (o := ?o14zy6r) (by kernel_rfl) ?hi14zy6r ?hw14zy6r ?st14zy6r
              case hi14zy6r => rw [List.getElem?_toArray]; exact rfl
              case hw14zy6r => exact rfl
              intro K hK
              have HK14 : Hid _ := hK
              clear hK
              go_simp
              refine HK14.out _ _ ⟨fun h => absurd h (by decide +kernel), ?_⟩
              clear HK14 K
              try simp only [Act.put, List.setIfInBounds_toArray, List.set_cons_zero, List.set_cons_succ]
              refine wpAnyN_done (by kernel_rfl) ?_ _
              clear m1 m2 m3 m4
              have HY : Hid (Below w13.heap.size w13 w22 ∧ Below w.heap.size w w22) := ⟨below_call0 HZ.out.2.1 H22.out.2, below_call0 HZ.out.2.2.1 H22.out.2⟩
              go_wp2_with fail
              refine (KJ.out _ _ _ _ _ (H0.out.1.call HY.out.2) (H13.out.2.1.call HY.out.1) H22.out.1.nums).mono ?_
              rintro e w23 ⟨rfl, hb23⟩
              have H23 : Hid (Below w.heap.size w (w23.alloc (.cells #[.int .u64 (limb t 0 : Nat), .int .u64 (limb t 1 : Nat), .int .u64 (limb t 2 : Nat), .int .u64 (limb t 3 : Nat)] 25))) := below_alloc0 (below_call0 HY.out.2 hb23) _
              obtain ⟨⟨t0, t1, t2, t3⟩, _, tz⟩ := ((H13.out.2.2.1.call HY.out.1).call hb23).facts
              have g1 := eq4_self' (limb t 0 : Nat) (limb t 1 : Nat) (limb t 2 : Nat) (limb t 3 : Nat)
              clear hb23
              go_wp2_with fail
              refine (KL.out _ (H0.out.1.call H23.out)).mono ?_
              rintro e w31 ⟨rfl, hb31⟩
              have H31 : Hid (Below w.heap.size w w31) := below_call0 H23.out hb31
              clear hb31
              go_wp2_with fail
              go_ret
              exact ⟨rfl, H31.out⟩
theorem shareHides_any (a b : Option Addr) (l : List Int) (cs : List Nat) (c d x : Nat) (hc : cs.length ≤ 4398046511104) (hR : ∀ n ∈ cs, n < R256) (hl : l.length ≤ 17592186044416) (hxR : x < R256) (w : World) (hG : GlobQ w) (hS : Nums w a cs) (hN : IntsAt w b l) :
    Calls Tryd.prog 8 #[.slice b l.length d, .slice a cs.length c, .agg #[.int .u64 (limb (x) 0 : Nat), .int .u64 (limb (x) 1 : Nat), .int .u64 (limb (x) 2 : Nat), .int .u64 (limb (x) 3 : Nat)]] w fun e w' => e = .returned (.bool true) ∧ Below w.heap.size w w' := by
  by_cases hb : nodesOk l = true
  · by_cases hf : l.length = (rtL cs).length
    · rcases Nat.lt_or_ge 9 l.length with h9 | h9
      · exact sh_many a b l cs c d x hc hR hl hxR hb hf h9 w hG hS hN
      · exact sh_in a b l cs c d x hc hR hl hxR hb hf h9 w hG hS hN
    · exact sh_len a b l cs c d x hc hR hl hxR hb hf w hG hS hN
  · exact sh_bad a b l cs c d x hc hR hl hxR (by simpa using hb) w hG hS hN
end Go.Proofs.YtcdiehnkknmbeaaDoor
