/- The law ShareBack. -/
import Derived.Test.YtcdiehnkknmbeaaDoorShZ
namespace Go.Proofs.YtcdiehnkknmbeaaDoor
open Go Go.RowKit Go.Lib
attribute [local go_sem] run_eq4

theorem hoN_nought {q : Nat} : ∀ (p : List Nat) (h : 0 < p.length), (p[0]'h) < q → hoN q 0 p = (p[0]'h)
  | c :: r, _, hc => by
    show (hoN q 0 r * 0 % q + c) % q = c
    rw [Nat.mul_zero, Nat.zero_mod, Nat.zero_add]
    exact Nat.mod_eq_of_lt hc
theorem atV_in {p : List Nat} {x : Nat} (h : 1 ≤ p.length ∧ p.length ≤ 10) (hq : allQ p = true) (hx : x < QQ) : atV p x = hoN QQ x p ∧ atE p x = 0 := by
  unfold atV atE
  rw [if_pos ⟨h.1, h.2, hq, hx⟩, if_pos h, if_pos ⟨hq, hx⟩]
  exact ⟨rfl, rfl⟩
theorem shL_get {l : List Int} {p : List Nat} {k : Nat} (hk : k < l.length) (hk' : k < (shL l p).length) : ((shL l p)[k]'hk') = hoN QQ (l[k]'hk).toNat p := by simp [shL]
theorem shL_length (l : List Int) (p : List Nat) : (shL l p).length = l.length := by simp [shL]
theorem shL_all (l : List Int) (p : List Nat) : allQ (shL l p) = true := by
  unfold allQ shL
  rw [List.all_eq_true]
  intro x hx
  obtain ⟨y, _, rfl⟩ := List.mem_map.1 hx
  exact decide_eq_true (hoN_lt _ _ QQ_pos _)
set_option maxRecDepth 100000 in
set_option maxHeartbeats 16000000 in
theorem sb_nil (a b : Option Addr) (cs : List Nat) (l : List Int) (c d x : Nat) (hc : cs.length ≤ 4398046511104) (hR : ∀ n ∈ cs, n < R256) (hl : l.length ≤ 17592186044416) (hxR : x < R256) (h0 : (rtL cs).length = 0) (w : World) (hG : GlobQ w) (hS : Nums w a cs) (hN : IntsAt w b l) :
    Calls Tryd.prog 7 #[.slice a cs.length c, .slice b l.length d, .agg #[.int .u64 (limb (x) 0 : Nat), .int .u64 (limb (x) 1 : Nat), .int .u64 (limb (x) 2 : Nat), .int .u64 (limb (x) 3 : Nat)]] w fun e w' => e = .returned (.bool true) ∧ Below w.heap.size w w' := by
  obtain ⟨q, hq⟩ : ∃ q, q = QQ := ⟨_, rfl⟩
  obtain ⟨m, hm⟩ : ∃ m, m = cs.length := ⟨_, rfl⟩
  obtain ⟨n, hn⟩ : ∃ n, n = l.length := ⟨_, rfl⟩
  obtain ⟨t, ht⟩ : ∃ t, t = x % QQ := ⟨_, rfl⟩
  have K1 : Hid (∀ w, Nums w a cs → Calls Tryd.prog 24 #[.slice a m c] w fun e w' => ∃ a' n' cap', e = .returned (.slice a' n' cap') ∧ n' = (rtL cs).length ∧ RowN w' w.heap.size a' (rtL cs) cap' ∧ Below w.heap.size w w') := fun w h => by rw [hm]; exact right_any a cs c hc hR w h
  have KS : Hid (∀ w, Calls Tryd.prog 25 #[] w fun e w' => e = .returned (.agg #[.int .u64 (limb (q) 0 : Nat), .int .u64 (limb (q) 1 : Nat), .int .u64 (limb (q) 2 : Nat), .int .u64 (limb (q) 3 : Nat), .int .u64 (limb (R256 - (q)) 0 : Nat), .int .u64 (limb (R256 - (q)) 1 : Nat), .int .u64 (limb (R256 - (q)) 2 : Nat), .int .u64 (limb (R256 - (q)) 3 : Nat)]) ∧ Below w.heap.size w w') := fun w => by rw [hq]; exact scalars2_any w
  have KD : Hid (∀ w, Calls Tryd.prog 26 #[.agg #[.int .u64 (limb (q) 0 : Nat), .int .u64 (limb (q) 1 : Nat), .int .u64 (limb (q) 2 : Nat), .int .u64 (limb (q) 3 : Nat), .int .u64 (limb (R256 - (q)) 0 : Nat), .int .u64 (limb (R256 - (q)) 1 : Nat), .int .u64 (limb (R256 - (q)) 2 : Nat), .int .u64 (limb (R256 - (q)) 3 : Nat)], .agg #[.int .u64 (limb x 0 : Nat), .int .u64 (limb x 1 : Nat), .int .u64 (limb x 2 : Nat), .int .u64 (limb x 3 : Nat), .int .u64 0, .int .u64 0, .int .u64 0, .int .u64 0]] w fun e w' => e = .returned (.agg #[.int .u64 (limb (t) 0 : Nat), .int .u64 (limb (t) 1 : Nat), .int .u64 (limb (t) 2 : Nat), .int .u64 (limb (t) 3 : Nat)]) ∧ Below w.heap.size w w') := fun w => by rw [hq, ht]; exact reduce4 x hxR w
  have KA : Hid (∀ w, IntsAt w b l → Calls Tryd.prog 27 #[.slice b n d] w fun e w' => e = .returned (.bool (nodesOk l)) ∧ Below w.heap.size w w') := fun w h => by rw [hn]; exact among_any b l d hl w h
  have KL : Hid (∀ w, GlobQ w → Calls Tryd.prog 13 #[] w fun e w' => e = .returned (.bool true) ∧ Below w.heap.size w w') := fun w h => line_any w h
  have H0 : Hid (GlobQ w ∧ Nums w a cs ∧ IntsAt w b l ∧ n = l.length ∧ t < QQ) := ⟨hG, hS, hN, hn, by rw [ht]; exact Nat.mod_lt _ QQ_pos⟩
  have HB : Hid (Below w.heap.size w (w.alloc (.cells #[.int .u64 (limb x 0 : Nat), .int .u64 (limb x 1 : Nat), .int .u64 (limb x 2 : Nat), .int .u64 (limb x 3 : Nat)] 25)) ∧ Own4 (w.alloc (.cells #[.int .u64 (limb x 0 : Nat), .int .u64 (limb x 1 : Nat), .int .u64 (limb x 2 : Nat), .int .u64 (limb x 3 : Nat)] 25)) w.heap.size x) := ⟨below_alloc0 (Below.refl _ _) _, Own4.new _ _ _⟩
  have HI : Hid ((rtL cs).length = 0) := h0
  clear h0
  rw [← hm, ← hn]
  clear hc hR hxR hG hS hN hq hm ht hn hl
  go_enter Tryd.func7, Tryd.ntmps7
  go_wp2_with fail
  refine (K1.out _ (H0.out.2.1.call HB.out.1)).mono ?_
  rintro e w1 ⟨pa, P, pc, rfl, hP, hRow, hb1⟩
  have H1 : Hid (Below w.heap.size w w1 ∧ Own4 w1 w.heap.size x ∧ Nums w1 pa (rtL cs) ∧ P = (rtL cs).length) := ⟨below_call0 HB.out.1 hb1, HB.out.2.call hb1, hRow.nums, hP⟩
  clear hb1 hRow hP HB K1
  go_wp2_with fail
  refine wp_region_N (fun w' => Below w1.heap.size w1 w') 12 13 rfl (by kernel_rfl) ?_
  refine wpAnyN_take (i := 1) (oi := ?o1) (v := ?v1) ?hi1 (by kernel_rfl) (by kernel_rfl) (by kernel_rfl) (by kernel_rfl) (by decide) (by kernel_rfl) ?hQ1 ?hy1 (Below.drew (Below.refl _ _)) ?more1
  case hi1 => rw [List.getElem?_toArray]; exact rfl
  case hQ1 => exact fun _ _ _ h => h
  case hy1 =>
    refine Or.inl ⟨by rfl, ?_⟩
    intro w' hSw
    obtain ⟨⟨x0, x1, x2, x3⟩, _, xz⟩ := (H1.out.2.1.call hSw).facts
    clear hSw
    go_simp
    try with_reducible rfl
  simp only [Act.put, List.setIfInBounds_toArray, List.set_cons_zero, List.set_cons_succ]
  refine wpAnyN_take (i := 2) (oi := ?o2) (v := ?v2) ?hi2 (by kernel_rfl) (by kernel_rfl) (by kernel_rfl) (by kernel_rfl) (by decide) (by kernel_rfl) ?hQ2 ?hy2 (Below.drew (Below.refl _ _)) ?more2
  case hi2 => rw [List.getElem?_toArray]; exact rfl
  case hQ2 => exact fun _ _ _ h => h
  case hy2 =>
    refine Or.inl ⟨by rfl, ?_⟩
    intro w' hSw
    obtain ⟨⟨x0, x1, x2, x3⟩, _, xz⟩ := (H1.out.2.1.call hSw).facts
    clear hSw
    go_simp
    try with_reducible rfl
  simp only [Act.put, List.setIfInBounds_toArray, List.set_cons_zero, List.set_cons_succ]
  refine wpAnyN_take (i := 3) (oi := ?o3) (v := ?v3) ?hi3 (by kernel_rfl) (by kernel_rfl) (by kernel_rfl) (by kernel_rfl) (by decide) (by kernel_rfl) ?hQ3 ?hy3 (Below.drew (Below.refl _ _)) ?more3
  case hi3 => rw [List.getElem?_toArray]; exact rfl
  case hQ3 => exact fun _ _ _ h => h
  case hy3 =>
    refine Or.inl ⟨by rfl, ?_⟩
    intro w' hSw
    obtain ⟨⟨x0, x1, x2, x3⟩, _, xz⟩ := (H1.out.2.1.call hSw).facts
    clear hSw
    go_simp
    try with_reducible rfl
  simp only [Act.put, List.setIfInBounds_toArray, List.set_cons_zero, List.set_cons_succ]
  refine wpAnyN_take (i := 4) (oi := ?o4) (v := ?v4) ?hi4 (by kernel_rfl) (by kernel_rfl) (by kernel_rfl) (by kernel_rfl) (by decide) (by kernel_rfl) ?hQ4 ?hy4 (Below.drew (Below.refl _ _)) ?more4
  case hi4 => rw [List.getElem?_toArray]; exact rfl
  case hQ4 => exact fun _ _ _ h => h
  case hy4 =>
    refine Or.inl ⟨by rfl, ?_⟩
    intro w' hSw
    obtain ⟨⟨x0, x1, x2, x3⟩, _, xz⟩ := (H1.out.2.1.call hSw).facts
    clear hSw
    go_simp
    try with_reducible rfl
  simp only [Act.put, List.setIfInBounds_toArray, List.set_cons_zero, List.set_cons_succ]
  refine wpAnyN_take (i := 5) (oi := ?o5) (v := ?v5) ?hi5 (by kernel_rfl) (by kernel_rfl) (by kernel_rfl) (by kernel_rfl) (by decide) (by kernel_rfl) ?hQ5 ?hy5 (Below.drew (Below.refl _ _)) ?more5
  case hi5 => rw [List.getElem?_toArray]; exact rfl
  case hQ5 => exact fun _ _ _ h => h
  case hy5 =>
    refine Or.inl ⟨by rfl, ?_⟩
    intro w' hSw
    obtain ⟨⟨x0, x1, x2, x3⟩, _, xz⟩ := (H1.out.2.1.call hSw).facts
    clear hSw
    go_simp
    try with_reducible rfl
  simp only [Act.put, List.setIfInBounds_toArray, List.set_cons_zero, List.set_cons_succ]
  refine wpAnyN_take (i := 6) (oi := ?o6) (v := ?v6) ?hi6 (by kernel_rfl) (by kernel_rfl) (by kernel_rfl) (by kernel_rfl) (by decide) (by kernel_rfl) ?hQ6 ?hy6 (Below.drew (Below.refl _ _)) ?more6
  case hi6 => rw [List.getElem?_toArray]; exact rfl
  case hQ6 => exact fun _ _ _ h => h
  case hy6 =>
    refine Or.inl ⟨by rfl, ?_⟩
    intro w' hSw
    obtain ⟨⟨x0, x1, x2, x3⟩, _, xz⟩ := (H1.out.2.1.call hSw).facts
    clear hSw
    go_simp
    try with_reducible rfl
  simp only [Act.put, List.setIfInBounds_toArray, List.set_cons_zero, List.set_cons_succ]
  refine wpAnyN_take (i := 7) (oi := ?o7) (v := ?v7) ?hi7 (by kernel_rfl) (by kernel_rfl) (by kernel_rfl) (by kernel_rfl) (by decide) (by kernel_rfl) ?hQ7 ?hy7 (Below.drew (Below.refl _ _)) ?more7
  case hi7 => rw [List.getElem?_toArray]; exact rfl
  case hQ7 => exact fun _ _ _ h => h
  case hy7 =>
    refine Or.inl ⟨by rfl, ?_⟩
    intro w' hSw
    obtain ⟨⟨x0, x1, x2, x3⟩, _, xz⟩ := (H1.out.2.1.call hSw).facts
    clear hSw
    go_simp
    try with_reducible rfl
  simp only [Act.put, List.setIfInBounds_toArray, List.set_cons_zero, List.set_cons_succ]
  refine wpAnyN_take (i := 8) (oi := ?o8) (v := ?v8) ?hi8 (by kernel_rfl) (by kernel_rfl) (by kernel_rfl) (by kernel_rfl) (by decide) (by kernel_rfl) ?hQ8 ?hy8 (Below.drew (Below.refl _ _)) ?more8
  case hi8 => rw [List.getElem?_toArray]; exact rfl
  case hQ8 => exact fun _ _ _ h => h
  case hy8 =>
    refine Or.inl ⟨by rfl, ?_⟩
    intro w' hSw
    obtain ⟨⟨x0, x1, x2, x3⟩, _, xz⟩ := (H1.out.2.1.call hSw).facts
    clear hSw
    go_simp
    try with_reducible rfl
  simp only [Act.put, List.setIfInBounds_toArray, List.set_cons_zero, List.set_cons_succ]
  refine wpAnyN_take (i := 9) (oi := ?o9) (v := ?v9) ?hi9 (by kernel_rfl) (by kernel_rfl) (by kernel_rfl) (by kernel_rfl) (by decide) (by kernel_rfl) ?hQ9 ?hy9 (Below.drew (Below.refl _ _)) ?more9
  case hi9 => rw [List.getElem?_toArray]; exact rfl
  case hQ9 => exact fun _ _ _ h => h
  case hy9 =>
    refine Or.inl ⟨by rfl, ?_⟩
    intro w' hSw
    obtain ⟨⟨x0, x1, x2, x3⟩, _, xz⟩ := (H1.out.2.1.call hSw).facts
    clear hSw
    go_simp
    try with_reducible rfl
  simp only [Act.put, List.setIfInBounds_toArray, List.set_cons_zero, List.set_cons_succ]
  refine wpAnyN_two (i := 0) (j := 11) (o := ?o0x1) (p := ?o11x1) (by kernel_rfl) ?hi0x1 ?hi11x1 ?hw0x1 ?hw11x1 ?st0x1 ?st11x1
  case hi0x1 => rw [List.getElem?_toArray]; exact rfl
  case hw0x1 => exact rfl
  case hi11x1 => rw [List.getElem?_toArray]; exact rfl
  case hw11x1 => exact rfl
  case st0x1 =>
    intro K hK
    have HK0y2 : Hid _ := hK
    clear hK
    go_simp
    refine (KS.out _).mono ?_
    rintro e w0y2 ⟨rfl, hq⟩
    have H0y2 : Hid (Below w1.heap.size w1 w0y2) := below_call0 (Below.drew (Below.refl _ _)) hq
    clear hq
    go_wp2_with fail
    refine HK0y2.out _ _ ⟨fun _ => H0y2.out, ?_⟩
    clear HK0y2 K
    try simp only [Act.put, List.setIfInBounds_toArray, List.set_cons_zero, List.set_cons_succ]
    refine wpAnyN_two (i := 10) (j := 11) (o := ?o10y2x3) (p := ?o11y2x3) (by kernel_rfl) ?hi10y2x3 ?hi11y2x3 ?hw10y2x3 ?hw11y2x3 ?st10y2x3 ?st11y2x3
    case hi10y2x3 => rw [List.getElem?_toArray]; exact rfl
    case hw10y2x3 => exact rfl
    case hi11y2x3 => rw [List.getElem?_toArray]; exact rfl
    case hw11y2x3 => exact rfl
    case st10y2x3 =>
      intro K hK
      have HK10y4 : Hid _ := hK
      clear hK
      go_simp
      refine (KD.out _).mono ?_
      rintro e w10y4 ⟨rfl, hq⟩
      have H10y4 : Hid (Below w1.heap.size w1 w10y4) := below_call0 H0y2.out hq
      clear hq
      go_wp2_with fail
      refine HK10y4.out _ _ ⟨fun _ => H10y4.out, ?_⟩
      clear HK10y4 K
      try simp only [Act.put, List.setIfInBounds_toArray, List.set_cons_zero, List.set_cons_succ]
      refine wpAnyN_one (i := 11) (o := ?o11y4) (by kernel_rfl) ?hi11y4 ?hw11y4 ?st11y4
      case hi11y4 => rw [List.getElem?_toArray]; exact rfl
      case hw11y4 => exact rfl
      intro K hK
      have HK11y4 : Hid _ := hK
      clear hK
      go_simp
      refine HK11y4.out _ _ ⟨fun _ => (below_alloc0 H10y4.out _), ?_⟩
      clear HK11y4 K
      try simp only [Act.put, List.setIfInBounds_toArray, List.set_cons_zero, List.set_cons_succ]
      refine wpAnyN_one (i := 12) (o := ?o12y4) (by kernel_rfl) ?hi12y4 ?hw12y4 ?st12y4
      case hi12y4 => rw [List.getElem?_toArray]; exact rfl
      case hw12y4 => exact rfl
      intro K hK
      have HK12y4 : Hid _ := hK
      clear hK
      obtain ⟨⟨o0, o1, o2, o3⟩, ⟨f0, f1, f2, f3⟩, oz⟩ := Pend.facts (Pend.new' (W := w10y4) (t := 25) rfl)
      try simp only [World.size_alloc] at o0 o1 o2 o3 f0 f1 f2 f3 oz
      go_simp
      refine HK12y4.out _ _ ⟨fun h => absurd h (by decide +kernel), ?_⟩
      clear HK12y4 K
      try simp only [Act.put, List.setIfInBounds_toArray, List.set_cons_zero, List.set_cons_succ]
      refine wpAnyN_done (by kernel_rfl) ?_ _
      obtain ⟨wS, hwS⟩ : ∃ y, y = w10y4.alloc (.cells #[.int .u64 (limb t 0 : Nat), .int .u64 (limb t 1 : Nat), .int .u64 (limb t 2 : Nat), .int .u64 (limb t 3 : Nat)] 25) := ⟨_, rfl⟩
      have HT : Hid (Own4 wS (w10y4.heap.size) t ∧ Below w1.heap.size w1 wS) := by rw [hwS]; exact ⟨Own4.new' rfl, below_alloc0 H10y4.out _⟩
      rw [← hwS]
      clear hwS o0 o1 o2 o3 f0 f1 f2 f3 oz
      have HW : Hid (Below w.heap.size w wS ∧ Nums wS pa (rtL cs) ∧ Own4 wS (w10y4.heap.size) t) := ⟨below_call0 H1.out.1 HT.out.2, H1.out.2.2.1.call HT.out.2, HT.out.1⟩
      clear HT
      obtain rfl : P = 0 := by rw [H1.out.2.2.2]; exact HI.out
      go_wp2_with fail
      refine (KL.out _ (H0.out.1.call HW.out.1)).mono ?_
      rintro e w30 ⟨rfl, hb30⟩
      have H30 : Hid (Below w.heap.size w w30) := below_call0 HW.out.1 hb30
      clear hb30
      go_wp2_with fail
      go_ret
      exact ⟨rfl, H30.out⟩
    case st11y2x3 =>
      intro K hK
      have HK11y5 : Hid _ := hK
      clear hK
      go_simp
      refine HK11y5.out _ _ ⟨fun _ => (below_alloc0 H0y2.out _), ?_⟩
      clear HK11y5 K
      try simp only [Act.put, List.setIfInBounds_toArray, List.set_cons_zero, List.set_cons_succ]
      refine wpAnyN_one (i := 10) (o := ?o10y5) (by kernel_rfl) ?hi10y5 ?hw10y5 ?st10y5
      case hi10y5 => rw [List.getElem?_toArray]; exact rfl
      case hw10y5 => exact rfl
      intro K hK
      have HK10y5 : Hid _ := hK
      clear hK
      go_simp
      refine (KD.out _).mono ?_
      rintro e w10y5 ⟨rfl, hq⟩
      have H10y5 : Hid (Below w1.heap.size w1 w10y5) := below_call0 (below_alloc0 H0y2.out _) hq
      have P10y5 : Hid (Pend w10y5 (w0y2.heap.size)) := Pend.call (Pend.new' (W := w0y2) (t := 25) rfl) hq
      clear hq
      go_wp2_with fail
      refine HK10y5.out _ _ ⟨fun _ => H10y5.out, ?_⟩
      clear HK10y5 K
      try simp only [Act.put, List.setIfInBounds_toArray, List.set_cons_zero, List.set_cons_succ]
      refine wpAnyN_one (i := 12) (o := ?o12y5) (by kernel_rfl) ?hi12y5 ?hw12y5 ?st12y5
      case hi12y5 => rw [List.getElem?_toArray]; exact rfl
      case hw12y5 => exact rfl
      intro K hK
      have HK12y5 : Hid _ := hK
      clear hK
      obtain ⟨⟨o0, o1, o2, o3⟩, ⟨f0, f1, f2, f3⟩, oz⟩ := Pend.facts P10y5.out
      try simp only [World.size_alloc] at o0 o1 o2 o3 f0 f1 f2 f3 oz
      go_simp
      refine HK12y5.out _ _ ⟨fun h => absurd h (by decide +kernel), ?_⟩
      clear HK12y5 K
      try simp only [Act.put, List.setIfInBounds_toArray, List.set_cons_zero, List.set_cons_succ]
      refine wpAnyN_done (by kernel_rfl) ?_ _
      obtain ⟨wS, hwS⟩ : ∃ y, y = ((((w10y5.setCell ⟨w0y2.heap.size, 0, none⟩ (.int .u64 (limb t 0 : Nat))).setCell ⟨w0y2.heap.size, 1, none⟩ (.int .u64 (limb t 1 : Nat))).setCell ⟨w0y2.heap.size, 2, none⟩ (.int .u64 (limb t 2 : Nat))).setCell ⟨w0y2.heap.size, 3, none⟩ (.int .u64 (limb t 3 : Nat))) := ⟨_, rfl⟩
      have HT : Hid (Own4 wS (w0y2.heap.size) t ∧ Below w1.heap.size w1 wS) := by rw [hwS]; exact ⟨Pend.own P10y5.out, Below.setCell (Below.setCell (Below.setCell (Below.setCell H10y5.out (Below.size H0y2.out) _) (Below.size H0y2.out) _) (Below.size H0y2.out) _) (Below.size H0y2.out) _⟩
      rw [← hwS]
      clear hwS o0 o1 o2 o3 f0 f1 f2 f3 oz
      have HW : Hid (Below w.heap.size w wS ∧ Nums wS pa (rtL cs) ∧ Own4 wS (w0y2.heap.size) t) := ⟨below_call0 H1.out.1 HT.out.2, H1.out.2.2.1.call HT.out.2, HT.out.1⟩
      clear HT
      obtain rfl : P = 0 := by rw [H1.out.2.2.2]; exact HI.out
      go_wp2_with fail
      refine (KL.out _ (H0.out.1.call HW.out.1)).mono ?_
      rintro e w30 ⟨rfl, hb30⟩
      have H30 : Hid (Below w.heap.size w w30) := below_call0 HW.out.1 hb30
      clear hb30
      go_wp2_with fail
      go_ret
      exact ⟨rfl, H30.out⟩
  case st11x1 =>
    intro K hK
    have HK11y6 : Hid _ := hK
    clear hK
    go_simp
    refine HK11y6.out _ _ ⟨fun _ => (below_alloc0 (Below.drew (Below.refl _ _)) _), ?_⟩
    clear HK11y6 K
    try simp only [Act.put, List.setIfInBounds_toArray, List.set_cons_zero, List.set_cons_succ]
    refine wpAnyN_one (i := 0) (o := ?o0y6) (by kernel_rfl) ?hi0y6 ?hw0y6 ?st0y6
    case hi0y6 => rw [List.getElem?_toArray]; exact rfl
    case hw0y6 => exact rfl
    intro K hK
    have HK0y6 : Hid _ := hK
    clear hK
    go_simp
    refine (KS.out _).mono ?_
    rintro e w0y6 ⟨rfl, hq⟩
    have H0y6 : Hid (Below w1.heap.size w1 w0y6) := below_call0 (below_alloc0 (Below.drew (Below.refl _ _)) _) hq
    have P0y6 : Hid (Pend w0y6 (w1.heap.size)) := Pend.call (Pend.new' (W := w1.drew) (t := 25) rfl) hq
    clear hq
    go_wp2_with fail
    refine HK0y6.out _ _ ⟨fun _ => H0y6.out, ?_⟩
    clear HK0y6 K
    try simp only [Act.put, List.setIfInBounds_toArray, List.set_cons_zero, List.set_cons_succ]
    refine wpAnyN_one (i := 10) (o := ?o10y6) (by kernel_rfl) ?hi10y6 ?hw10y6 ?st10y6
    case hi10y6 => rw [List.getElem?_toArray]; exact rfl
    case hw10y6 => exact rfl
    intro K hK
    have HK10y6 : Hid _ := hK
    clear hK
    go_simp
    refine (KD.out _).mono ?_
    rintro e w10y6 ⟨rfl, hq⟩
    have H10y6 : Hid (Below w1.heap.size w1 w10y6) := below_call0 H0y6.out hq
    have P10y6 : Hid (Pend w10y6 (w1.heap.size)) := Pend.call P0y6.out hq
    clear hq
    go_wp2_with fail
    refine HK10y6.out _ _ ⟨fun _ => H10y6.out, ?_⟩
    clear HK10y6 K
    try simp only [Act.put, List.setIfInBounds_toArray, List.set_cons_zero, List.set_cons_succ]
    refine wpAnyN_one (i := 12) (o := ?o12y6) (by kernel_rfl) ?hi12y6 ?hw12y6 ?st12y6
    case hi12y6 => rw [List.getElem?_toArray]; exact rfl
    case hw12y6 => exact rfl
    intro K hK
    have HK12y6 : Hid _ := hK
    clear hK
    obtain ⟨⟨o0, o1, o2, o3⟩, ⟨f0, f1, f2, f3⟩, oz⟩ := Pend.facts P10y6.out
    try simp only [World.size_alloc] at o0 o1 o2 o3 f0 f1 f2 f3 oz
    go_simp
    refine HK12y6.out _ _ ⟨fun h => absurd h (by decide +kernel), ?_⟩
    clear HK12y6 K
    try simp only [Act.put, List.setIfInBounds_toArray, List.set_cons_zero, List.set_cons_succ]
    refine wpAnyN_done (by kernel_rfl) ?_ _
    obtain ⟨wS, hwS⟩ : ∃ y, y = ((((w10y6.setCell ⟨w1.heap.size, 0, none⟩ (.int .u64 (limb t 0 : Nat))).setCell ⟨w1.heap.size, 1, none⟩ (.int .u64 (limb t 1 : Nat))).setCell ⟨w1.heap.size, 2, none⟩ (.int .u64 (limb t 2 : Nat))).setCell ⟨w1.heap.size, 3, none⟩ (.int .u64 (limb t 3 : Nat))) := ⟨_, rfl⟩
    have HT : Hid (Own4 wS (w1.heap.size) t ∧ Below w1.heap.size w1 wS) := by rw [hwS]; exact ⟨Pend.own P10y6.out, Below.setCell (Below.setCell (Below.setCell (Below.setCell H10y6.out (Nat.le_refl _) _) (Nat.le_refl _) _) (Nat.le_refl _) _) (Nat.le_refl _) _⟩
    rw [← hwS]
    clear hwS o0 o1 o2 o3 f0 f1 f2 f3 oz
    have HW : Hid (Below w.heap.size w wS ∧ Nums wS pa (rtL cs) ∧ Own4 wS (w1.heap.size) t) := ⟨below_call0 H1.out.1 HT.out.2, H1.out.2.2.1.call HT.out.2, HT.out.1⟩
    clear HT
    obtain rfl : P = 0 := by rw [H1.out.2.2.2]; exact HI.out
    go_wp2_with fail
    refine (KL.out _ (H0.out.1.call HW.out.1)).mono ?_
    rintro e w30 ⟨rfl, hb30⟩
    have H30 : Hid (Below w.heap.size w w30) := below_call0 HW.out.1 hb30
    clear hb30
    go_wp2_with fail
    go_ret
    exact ⟨rfl, H30.out⟩
set_option maxRecDepth 100000 in
set_option maxHeartbeats 16000000 in
theorem sb_bad (a b : Option Addr) (cs : List Nat) (l : List Int) (c d x : Nat) (hc : cs.length ≤ 4398046511104) (hR : ∀ n ∈ cs, n < R256) (hl : l.length ≤ 17592186044416) (hxR : x < R256) (h0 : 0 < (rtL cs).length) (hb : nodesOk l = false) (w : World) (hG : GlobQ w) (hS : Nums w a cs) (hN : IntsAt w b l) :
    Calls Tryd.prog 7 #[.slice a cs.length c, .slice b l.length d, .agg #[.int .u64 (limb (x) 0 : Nat), .int .u64 (limb (x) 1 : Nat), .int .u64 (limb (x) 2 : Nat), .int .u64 (limb (x) 3 : Nat)]] w fun e w' => e = .returned (.bool true) ∧ Below w.heap.size w w' := by
  obtain ⟨q, hq⟩ : ∃ q, q = QQ := ⟨_, rfl⟩
  obtain ⟨m, hm⟩ : ∃ m, m = cs.length := ⟨_, rfl⟩
  obtain ⟨n, hn⟩ : ∃ n, n = l.length := ⟨_, rfl⟩
  obtain ⟨t, ht⟩ : ∃ t, t = x % QQ := ⟨_, rfl⟩
  have K1 : Hid (∀ w, Nums w a cs → Calls Tryd.prog 24 #[.slice a m c] w fun e w' => ∃ a' n' cap', e = .returned (.slice a' n' cap') ∧ n' = (rtL cs).length ∧ RowN w' w.heap.size a' (rtL cs) cap' ∧ Below w.heap.size w w') := fun w h => by rw [hm]; exact right_any a cs c hc hR w h
  have KS : Hid (∀ w, Calls Tryd.prog 25 #[] w fun e w' => e = .returned (.agg #[.int .u64 (limb (q) 0 : Nat), .int .u64 (limb (q) 1 : Nat), .int .u64 (limb (q) 2 : Nat), .int .u64 (limb (q) 3 : Nat), .int .u64 (limb (R256 - (q)) 0 : Nat), .int .u64 (limb (R256 - (q)) 1 : Nat), .int .u64 (limb (R256 - (q)) 2 : Nat), .int .u64 (limb (R256 - (q)) 3 : Nat)]) ∧ Below w.heap.size w w') := fun w => by rw [hq]; exact scalars2_any w
  have KD : Hid (∀ w, Calls Tryd.prog 26 #[.agg #[.int .u64 (limb (q) 0 : Nat), .int .u64 (limb (q) 1 : Nat), .int .u64 (limb (q) 2 : Nat), .int .u64 (limb (q) 3 : Nat), .int .u64 (limb (R256 - (q)) 0 : Nat), .int .u64 (limb (R256 - (q)) 1 : Nat), .int .u64 (limb (R256 - (q)) 2 : Nat), .int .u64 (limb (R256 - (q)) 3 : Nat)], .agg #[.int .u64 (limb x 0 : Nat), .int .u64 (limb x 1 : Nat), .int .u64 (limb x 2 : Nat), .int .u64 (limb x 3 : Nat), .int .u64 0, .int .u64 0, .int .u64 0, .int .u64 0]] w fun e w' => e = .returned (.agg #[.int .u64 (limb (t) 0 : Nat), .int .u64 (limb (t) 1 : Nat), .int .u64 (limb (t) 2 : Nat), .int .u64 (limb (t) 3 : Nat)]) ∧ Below w.heap.size w w') := fun w => by rw [hq, ht]; exact reduce4 x hxR w
  have KA : Hid (∀ w, IntsAt w b l → Calls Tryd.prog 27 #[.slice b n d] w fun e w' => e = .returned (.bool (nodesOk l)) ∧ Below w.heap.size w w') := fun w h => by rw [hn]; exact among_any b l d hl w h
  have KL : Hid (∀ w, GlobQ w → Calls Tryd.prog 13 #[] w fun e w' => e = .returned (.bool true) ∧ Below w.heap.size w w') := fun w h => line_any w h
  have H0 : Hid (GlobQ w ∧ Nums w a cs ∧ IntsAt w b l ∧ n = l.length ∧ t < QQ) := ⟨hG, hS, hN, hn, by rw [ht]; exact Nat.mod_lt _ QQ_pos⟩
  have HB : Hid (Below w.heap.size w (w.alloc (.cells #[.int .u64 (limb x 0 : Nat), .int .u64 (limb x 1 : Nat), .int .u64 (limb x 2 : Nat), .int .u64 (limb x 3 : Nat)] 25)) ∧ Own4 (w.alloc (.cells #[.int .u64 (limb x 0 : Nat), .int .u64 (limb x 1 : Nat), .int .u64 (limb x 2 : Nat), .int .u64 (limb x 3 : Nat)] 25)) w.heap.size x) := ⟨below_alloc0 (Below.refl _ _) _, Own4.new _ _ _⟩
  have HI : Hid (0 < (rtL cs).length ∧ nodesOk l = false) := ⟨h0, hb⟩
  clear h0 hb
  rw [← hm, ← hn]
  clear hc hR hxR hG hS hN hq hm ht hn hl
  go_enter Tryd.func7, Tryd.ntmps7
  go_wp2_with fail
  refine (K1.out _ (H0.out.2.1.call HB.out.1)).mono ?_
  rintro e w1 ⟨pa, P, pc, rfl, hP, hRow, hb1⟩
  have H1 : Hid (Below w.heap.size w w1 ∧ Own4 w1 w.heap.size x ∧ Nums w1 pa (rtL cs) ∧ P = (rtL cs).length) := ⟨below_call0 HB.out.1 hb1, HB.out.2.call hb1, hRow.nums, hP⟩
  clear hb1 hRow hP HB K1
  go_wp2_with fail
  refine wp_region_N (fun w' => Below w1.heap.size w1 w') 12 13 rfl (by kernel_rfl) ?_
  refine wpAnyN_take (i := 1) (oi := ?o1) (v := ?v1) ?hi1 (by kernel_rfl) (by kernel_rfl) (by kernel_rfl) (by kernel_rfl) (by decide) (by kernel_rfl) ?hQ1 ?hy1 (Below.drew (Below.refl _ _)) ?more1
  case hi1 => rw [List.getElem?_toArray]; exact rfl
  case hQ1 => exact fun _ _ _ h => h
  case hy1 =>
    refine Or.inl ⟨by rfl, ?_⟩
    intro w' hSw
    obtain ⟨⟨x0, x1, x2, x3⟩, _, xz⟩ := (H1.out.2.1.call hSw).facts
    clear hSw
    go_simp
    try with_reducible rfl
  simp only [Act.put, List.setIfInBounds_toArray, List.set_cons_zero, List.set_cons_succ]
  refine wpAnyN_take (i := 2) (oi := ?o2) (v := ?v2) ?hi2 (by kernel_rfl) (by kernel_rfl) (by kernel_rfl) (by kernel_rfl) (by decide) (by kernel_rfl) ?hQ2 ?hy2 (Below.drew (Below.refl _ _)) ?more2
  case hi2 => rw [List.getElem?_toArray]; exact rfl
  case hQ2 => exact fun _ _ _ h => h
  case hy2 =>
    refine Or.inl ⟨by rfl, ?_⟩
    intro w' hSw
    obtain ⟨⟨x0, x1, x2, x3⟩, _, xz⟩ := (H1.out.2.1.call hSw).facts
    clear hSw
    go_simp
    try with_reducible rfl
  simp only [Act.put, List.setIfInBounds_toArray, List.set_cons_zero, List.set_cons_succ]
  refine wpAnyN_take (i := 3) (oi := ?o3) (v := ?v3) ?hi3 (by kernel_rfl) (by kernel_rfl) (by kernel_rfl) (by kernel_rfl) (by decide) (by kernel_rfl) ?hQ3 ?hy3 (Below.drew (Below.refl _ _)) ?more3
  case hi3 => rw [List.getElem?_toArray]; exact rfl
  case hQ3 => exact fun _ _ _ h => h
  case hy3 =>
    refine Or.inl ⟨by rfl, ?_⟩
    intro w' hSw
    obtain ⟨⟨x0, x1, x2, x3⟩, _, xz⟩ := (H1.out.2.1.call hSw).facts
    clear hSw
    go_simp
    try with_reducible rfl
  simp only [Act.put, List.setIfInBounds_toArray, List.set_cons_zero, List.set_cons_succ]
  refine wpAnyN_take (i := 4) (oi := ?o4) (v := ?v4) ?hi4 (by kernel_rfl) (by kernel_rfl) (by kernel_rfl) (by kernel_rfl) (by decide) (by kernel_rfl) ?hQ4 ?hy4 (Below.drew (Below.refl _ _)) ?more4
  case hi4 => rw [List.getElem?_toArray]; exact rfl
  case hQ4 => exact fun _ _ _ h => h
  case hy4 =>
    refine Or.inl ⟨by rfl, ?_⟩
    intro w' hSw
    obtain ⟨⟨x0, x1, x2, x3⟩, _, xz⟩ := (H1.out.2.1.call hSw).facts
    clear hSw
    go_simp
    try with_reducible rfl
  simp only [Act.put, List.setIfInBounds_toArray, List.set_cons_zero, List.set_cons_succ]
  refine wpAnyN_take (i := 5) (oi := ?o5) (v := ?v5) ?hi5 (by kernel_rfl) (by kernel_rfl) (by kernel_rfl) (by kernel_rfl) (by decide) (by kernel_rfl) ?hQ5 ?hy5 (Below.drew (Below.refl _ _)) ?more5
  case hi5 => rw [List.getElem?_toArray]; exact rfl
  case hQ5 => exact fun _ _ _ h => h
  case hy5 =>
    refine Or.inl ⟨by rfl, ?_⟩
    intro w' hSw
    obtain ⟨⟨x0, x1, x2, x3⟩, _, xz⟩ := (H1.out.2.1.call hSw).facts
    clear hSw
    go_simp
    try with_reducible rfl
  simp only [Act.put, List.setIfInBounds_toArray, List.set_cons_zero, List.set_cons_succ]
  refine wpAnyN_take (i := 6) (oi := ?o6) (v := ?v6) ?hi6 (by kernel_rfl) (by kernel_rfl) (by kernel_rfl) (by kernel_rfl) (by decide) (by kernel_rfl) ?hQ6 ?hy6 (Below.drew (Below.refl _ _)) ?more6
  case hi6 => rw [List.getElem?_toArray]; exact rfl
  case hQ6 => exact fun _ _ _ h => h
  case hy6 =>
    refine Or.inl ⟨by rfl, ?_⟩
    intro w' hSw
    obtain ⟨⟨x0, x1, x2, x3⟩, _, xz⟩ := (H1.out.2.1.call hSw).facts
    clear hSw
    go_simp
    try with_reducible rfl
  simp only [Act.put, List.setIfInBounds_toArray, List.set_cons_zero, List.set_cons_succ]
  refine wpAnyN_take (i := 7) (oi := ?o7) (v := ?v7) ?hi7 (by kernel_rfl) (by kernel_rfl) (by kernel_rfl) (by kernel_rfl) (by decide) (by kernel_rfl) ?hQ7 ?hy7 (Below.drew (Below.refl _ _)) ?more7
  case hi7 => rw [List.getElem?_toArray]; exact rfl
  case hQ7 => exact fun _ _ _ h => h
  case hy7 =>
    refine Or.inl ⟨by rfl, ?_⟩
    intro w' hSw
    obtain ⟨⟨x0, x1, x2, x3⟩, _, xz⟩ := (H1.out.2.1.call hSw).facts
    clear hSw
    go_simp
    try with_reducible rfl
  simp only [Act.put, List.setIfInBounds_toArray, List.set_cons_zero, List.set_cons_succ]
  refine wpAnyN_take (i := 8) (oi := ?o8) (v := ?v8) ?hi8 (by kernel_rfl) (by kernel_rfl) (by kernel_rfl) (by kernel_rfl) (by decide) (by kernel_rfl) ?hQ8 ?hy8 (Below.drew (Below.refl _ _)) ?more8
  case hi8 => rw [List.getElem?_toArray]; exact rfl
  case hQ8 => exact fun _ _ _ h => h
  case hy8 =>
    refine Or.inl ⟨by rfl, ?_⟩
    intro w' hSw
    obtain ⟨⟨x0, x1, x2, x3⟩, _, xz⟩ := (H1.out.2.1.call hSw).facts
    clear hSw
    go_simp
    try with_reducible rfl
  simp only [Act.put, List.setIfInBounds_toArray, List.set_cons_zero, List.set_cons_succ]
  refine wpAnyN_take (i := 9) (oi := ?o9) (v := ?v9) ?hi9 (by kernel_rfl) (by kernel_rfl) (by kernel_rfl) (by kernel_rfl) (by decide) (by kernel_rfl) ?hQ9 ?hy9 (Below.drew (Below.refl _ _)) ?more9
  case hi9 => rw [List.getElem?_toArray]; exact rfl
  case hQ9 => exact fun _ _ _ h => h
  case hy9 =>
    refine Or.inl ⟨by rfl, ?_⟩
    intro w' hSw
    obtain ⟨⟨x0, x1, x2, x3⟩, _, xz⟩ := (H1.out.2.1.call hSw).facts
    clear hSw
    go_simp
    try with_reducible rfl
  simp only [Act.put, List.setIfInBounds_toArray, List.set_cons_zero, List.set_cons_succ]
  refine wpAnyN_two (i := 0) (j := 11) (o := ?o0x1) (p := ?o11x1) (by kernel_rfl) ?hi0x1 ?hi11x1 ?hw0x1 ?hw11x1 ?st0x1 ?st11x1
  case hi0x1 => rw [List.getElem?_toArray]; exact rfl
  case hw0x1 => exact rfl
  case hi11x1 => rw [List.getElem?_toArray]; exact rfl
  case hw11x1 => exact rfl
  case st0x1 =>
    intro K hK
    have HK0y2 : Hid _ := hK
    clear hK
    go_simp
    refine (KS.out _).mono ?_
    rintro e w0y2 ⟨rfl, hq⟩
    have H0y2 : Hid (Below w1.heap.size w1 w0y2) := below_call0 (Below.drew (Below.refl _ _)) hq
    clear hq
    go_wp2_with fail
    refine HK0y2.out _ _ ⟨fun _ => H0y2.out, ?_⟩
    clear HK0y2 K
    try simp only [Act.put, List.setIfInBounds_toArray, List.set_cons_zero, List.set_cons_succ]
    refine wpAnyN_two (i := 10) (j := 11) (o := ?o10y2x3) (p := ?o11y2x3) (by kernel_rfl) ?hi10y2x3 ?hi11y2x3 ?hw10y2x3 ?hw11y2x3 ?st10y2x3 ?st11y2x3
    case hi10y2x3 => rw [List.getElem?_toArray]; exact rfl
    case hw10y2x3 => exact rfl
    case hi11y2x3 => rw [List.getElem?_toArray]; exact rfl
    case hw11y2x3 => exact rfl
    case st10y2x3 =>
      intro K hK
      have HK10y4 : Hid _ := hK
      clear hK
      go_simp
      refine (KD.out _).mono ?_
      rintro e w10y4 ⟨rfl, hq⟩
      have H10y4 : Hid (Below w1.heap.size w1 w10y4) := below_call0 H0y2.out hq
      clear hq
      go_wp2_with fail
      refine HK10y4.out _ _ ⟨fun _ => H10y4.out, ?_⟩
      clear HK10y4 K
      try simp only [Act.put, List.setIfInBounds_toArray, List.set_cons_zero, List.set_cons_succ]
      refine wpAnyN_one (i := 11) (o := ?o11y4) (by kernel_rfl) ?hi11y4 ?hw11y4 ?st11y4
      case hi11y4 => rw [List.getElem?_toArray]; exact rfl
      case hw11y4 => exact rfl
      intro K hK
      have HK11y4 : Hid _ := hK
      clear hK
      go_simp
      refine HK11y4.out _ _ ⟨fun _ => (below_alloc0 H10y4.out _), ?_⟩
      clear HK11y4 K
      try simp only [Act.put, List.setIfInBounds_toArray, List.set_cons_zero, List.set_cons_succ]
      refine wpAnyN_one (i := 12) (o := ?o12y4) (by kernel_rfl) ?hi12y4 ?hw12y4 ?st12y4
      case hi12y4 => rw [List.getElem?_toArray]; exact rfl
      case hw12y4 => exact rfl
      intro K hK
      have HK12y4 : Hid _ := hK
      clear hK
      obtain ⟨⟨o0, o1, o2, o3⟩, ⟨f0, f1, f2, f3⟩, oz⟩ := Pend.facts (Pend.new' (W := w10y4) (t := 25) rfl)
      try simp only [World.size_alloc] at o0 o1 o2 o3 f0 f1 f2 f3 oz
      go_simp
      refine HK12y4.out _ _ ⟨fun h => absurd h (by decide +kernel), ?_⟩
      clear HK12y4 K
      try simp only [Act.put, List.setIfInBounds_toArray, List.set_cons_zero, List.set_cons_succ]
      refine wpAnyN_done (by kernel_rfl) ?_ _
      obtain ⟨wS, hwS⟩ : ∃ y, y = w10y4.alloc (.cells #[.int .u64 (limb t 0 : Nat), .int .u64 (limb t 1 : Nat), .int .u64 (limb t 2 : Nat), .int .u64 (limb t 3 : Nat)] 25) := ⟨_, rfl⟩
      have HT : Hid (Own4 wS (w10y4.heap.size) t ∧ Below w1.heap.size w1 wS) := by rw [hwS]; exact ⟨Own4.new' rfl, below_alloc0 H10y4.out _⟩
      rw [← hwS]
      clear hwS o0 o1 o2 o3 f0 f1 f2 f3 oz
      have HW : Hid (Below w.heap.size w wS ∧ Nums wS pa (rtL cs) ∧ Own4 wS (w10y4.heap.size) t) := ⟨below_call0 H1.out.1 HT.out.2, H1.out.2.2.1.call HT.out.2, HT.out.1⟩
      clear HT
      have p0 : ((P : Int) == 0) = false := by
        have := H1.out.2.2.2
        have := HI.out.1
        simp
        omega
      have p1 : ¬ ((P : Int) = 0) := by simpa using p0
      go_wp2_with fail
      refine (KA.out _ (H0.out.2.2.1.call HW.out.1)).mono ?_
      rintro e w10 ⟨rfl, hb10⟩
      rw [HI.out.2]
      have H10 : Hid (Below w.heap.size w w10 ∧ Below wS.heap.size wS w10) := ⟨below_call0 HW.out.1 hb10, hb10⟩
      clear hb10
      go_wp2_with fail
      refine (KL.out _ (H0.out.1.call H10.out.1)).mono ?_
      rintro e w30 ⟨rfl, hb30⟩
      have H30 : Hid (Below w.heap.size w w30) := below_call0 H10.out.1 hb30
      clear hb30
      go_wp2_with fail
      go_ret
      exact ⟨rfl, H30.out⟩
    case st11y2x3 =>
      intro K hK
      have HK11y5 : Hid _ := hK
      clear hK
      go_simp
      refine HK11y5.out _ _ ⟨fun _ => (below_alloc0 H0y2.out _), ?_⟩
      clear HK11y5 K
      try simp only [Act.put, List.setIfInBounds_toArray, List.set_cons_zero, List.set_cons_succ]
      refine wpAnyN_one (i := 10) (o := ?o10y5) (by kernel_rfl) ?hi10y5 ?hw10y5 ?st10y5
      case hi10y5 => rw [List.getElem?_toArray]; exact rfl
      case hw10y5 => exact rfl
      intro K hK
      have HK10y5 : Hid _ := hK
      clear hK
      go_simp
      refine (KD.out _).mono ?_
      rintro e w10y5 ⟨rfl, hq⟩
      have H10y5 : Hid (Below w1.heap.size w1 w10y5) := below_call0 (below_alloc0 H0y2.out _) hq
      have P10y5 : Hid (Pend w10y5 (w0y2.heap.size)) := Pend.call (Pend.new' (W := w0y2) (t := 25) rfl) hq
      clear hq
      go_wp2_with fail
      refine HK10y5.out _ _ ⟨fun _ => H10y5.out, ?_⟩
      clear HK10y5 K
      try simp only [Act.put, List.setIfInBounds_toArray, List.set_cons_zero, List.set_cons_succ]
      refine wpAnyN_one (i := 12) (o := ?o12y5) (by kernel_rfl) ?hi12y5 ?hw12y5 ?st12y5
      case hi12y5 => rw [List.getElem?_toArray]; exact rfl
      case hw12y5 => exact rfl
      intro K hK
      have HK12y5 : Hid _ := hK
      clear hK
      obtain ⟨⟨o0, o1, o2, o3⟩, ⟨f0, f1, f2, f3⟩, oz⟩ := Pend.facts P10y5.out
      try simp only [World.size_alloc] at o0 o1 o2 o3 f0 f1 f2 f3 oz
      go_simp
      refine HK12y5.out _ _ ⟨fun h => absurd h (by decide +kernel), ?_⟩
      clear HK12y5 K
      try simp only [Act.put, List.setIfInBounds_toArray, List.set_cons_zero, List.set_cons_succ]
      refine wpAnyN_done (by kernel_rfl) ?_ _
      obtain ⟨wS, hwS⟩ : ∃ y, y = ((((w10y5.setCell ⟨w0y2.heap.size, 0, none⟩ (.int .u64 (limb t 0 : Nat))).setCell ⟨w0y2.heap.size, 1, none⟩ (.int .u64 (limb t 1 : Nat))).setCell ⟨w0y2.heap.size, 2, none⟩ (.int .u64 (limb t 2 : Nat))).setCell ⟨w0y2.heap.size, 3, none⟩ (.int .u64 (limb t 3 : Nat))) := ⟨_, rfl⟩
      have HT : Hid (Own4 wS (w0y2.heap.size) t ∧ Below w1.heap.size w1 wS) := by rw [hwS]; exact ⟨Pend.own P10y5.out, Below.setCell (Below.setCell (Below.setCell (Below.setCell H10y5.out (Below.size H0y2.out) _) (Below.size H0y2.out) _) (Below.size H0y2.out) _) (Below.size H0y2.out) _⟩
      rw [← hwS]
      clear hwS o0 o1 o2 o3 f0 f1 f2 f3 oz
      have HW : Hid (Below w.heap.size w wS ∧ Nums wS pa (rtL cs) ∧ Own4 wS (w0y2.heap.size) t) := ⟨below_call0 H1.out.1 HT.out.2, H1.out.2.2.1.call HT.out.2, HT.out.1⟩
      clear HT
      have p0 : ((P : Int) == 0) = false := by
        have := H1.out.2.2.2
        have := HI.out.1
        simp
        omega
      have p1 : ¬ ((P : Int) = 0) := by simpa using p0
      go_wp2_with fail
      refine (KA.out _ (H0.out.2.2.1.call HW.out.1)).mono ?_
      rintro e w10 ⟨rfl, hb10⟩
      rw [HI.out.2]
      have H10 : Hid (Below w.heap.size w w10 ∧ Below wS.heap.size wS w10) := ⟨below_call0 HW.out.1 hb10, hb10⟩
      clear hb10
      go_wp2_with fail
      refine (KL.out _ (H0.out.1.call H10.out.1)).mono ?_
      rintro e w30 ⟨rfl, hb30⟩
      have H30 : Hid (Below w.heap.size w w30) := below_call0 H10.out.1 hb30
      clear hb30
      go_wp2_with fail
      go_ret
      exact ⟨rfl, H30.out⟩
  case st11x1 =>
    intro K hK
    have HK11y6 : Hid _ := hK
    clear hK
    go_simp
    refine HK11y6.out _ _ ⟨fun _ => (below_alloc0 (Below.drew (Below.refl _ _)) _), ?_⟩
    clear HK11y6 K
    try simp only [Act.put, List.setIfInBounds_toArray, List.set_cons_zero, List.set_cons_succ]
    refine wpAnyN_one (i := 0) (o := ?o0y6) (by kernel_rfl) ?hi0y6 ?hw0y6 ?st0y6
    case hi0y6 => rw [List.getElem?_toArray]; exact rfl
    case hw0y6 => exact rfl
    intro K hK
    have HK0y6 : Hid _ := hK
    clear hK
    go_simp
    refine (KS.out _).mono ?_
    rintro e w0y6 ⟨rfl, hq⟩
    have H0y6 : Hid (Below w1.heap.size w1 w0y6) := below_call0 (below_alloc0 (Below.drew (Below.refl _ _)) _) hq
    have P0y6 : Hid (Pend w0y6 (w1.heap.size)) := Pend.call (Pend.new' (W := w1.drew) (t := 25) rfl) hq
    clear hq
    go_wp2_with fail
    refine HK0y6.out _ _ ⟨fun _ => H0y6.out, ?_⟩
    clear HK0y6 K
    try simp only [Act.put, List.setIfInBounds_toArray, List.set_cons_zero, List.set_cons_succ]
    refine wpAnyN_one (i := 10) (o := ?o10y6) (by kernel_rfl) ?hi10y6 ?hw10y6 ?st10y6
    case hi10y6 => rw [List.getElem?_toArray]; exact rfl
    case hw10y6 => exact rfl
    intro K hK
    have HK10y6 : Hid _ := hK
    clear hK
    go_simp
    refine (KD.out _).mono ?_
    rintro e w10y6 ⟨rfl, hq⟩
    have H10y6 : Hid (Below w1.heap.size w1 w10y6) := below_call0 H0y6.out hq
    have P10y6 : Hid (Pend w10y6 (w1.heap.size)) := Pend.call P0y6.out hq
    clear hq
    go_wp2_with fail
    refine HK10y6.out _ _ ⟨fun _ => H10y6.out, ?_⟩
    clear HK10y6 K
    try simp only [Act.put, List.setIfInBounds_toArray, List.set_cons_zero, List.set_cons_succ]
    refine wpAnyN_one (i := 12) (o := ?o12y6) (by kernel_rfl) ?hi12y6 ?hw12y6 ?st12y6
    case hi12y6 => rw [List.getElem?_toArray]; exact rfl
    case hw12y6 => exact rfl
    intro K hK
    have HK12y6 : Hid _ := hK
    clear hK
    obtain ⟨⟨o0, o1, o2, o3⟩, ⟨f0, f1, f2, f3⟩, oz⟩ := Pend.facts P10y6.out
    try simp only [World.size_alloc] at o0 o1 o2 o3 f0 f1 f2 f3 oz
    go_simp
    refine HK12y6.out _ _ ⟨fun h => absurd h (by decide +kernel), ?_⟩
    clear HK12y6 K
    try simp only [Act.put, List.setIfInBounds_toArray, List.set_cons_zero, List.set_cons_succ]
    refine wpAnyN_done (by kernel_rfl) ?_ _
    obtain ⟨wS, hwS⟩ : ∃ y, y = ((((w10y6.setCell ⟨w1.heap.size, 0, none⟩ (.int .u64 (limb t 0 : Nat))).setCell ⟨w1.heap.size, 1, none⟩ (.int .u64 (limb t 1 : Nat))).setCell ⟨w1.heap.size, 2, none⟩ (.int .u64 (limb t 2 : Nat))).setCell ⟨w1.heap.size, 3, none⟩ (.int .u64 (limb t 3 : Nat))) := ⟨_, rfl⟩
    have HT : Hid (Own4 wS (w1.heap.size) t ∧ Below w1.heap.size w1 wS) := by rw [hwS]; exact ⟨Pend.own P10y6.out, Below.setCell (Below.setCell (Below.setCell (Below.setCell H10y6.out (Nat.le_refl _) _) (Nat.le_refl _) _) (Nat.le_refl _) _) (Nat.le_refl _) _⟩
    rw [← hwS]
    clear hwS o0 o1 o2 o3 f0 f1 f2 f3 oz
    have HW : Hid (Below w.heap.size w wS ∧ Nums wS pa (rtL cs) ∧ Own4 wS (w1.heap.size) t) := ⟨below_call0 H1.out.1 HT.out.2, H1.out.2.2.1.call HT.out.2, HT.out.1⟩
    clear HT
    have p0 : ((P : Int) == 0) = false := by
      have := H1.out.2.2.2
      have := HI.out.1
      simp
      omega
    have p1 : ¬ ((P : Int) = 0) := by simpa using p0
    go_wp2_with fail
    refine (KA.out _ (H0.out.2.2.1.call HW.out.1)).mono ?_
    rintro e w10 ⟨rfl, hb10⟩
    rw [HI.out.2]
    have H10 : Hid (Below w.heap.size w w10 ∧ Below wS.heap.size wS w10) := ⟨below_call0 HW.out.1 hb10, hb10⟩
    clear hb10
    go_wp2_with fail
    refine (KL.out _ (H0.out.1.call H10.out.1)).mono ?_
    rintro e w30 ⟨rfl, hb30⟩
    have H30 : Hid (Below w.heap.size w w30) := below_call0 H10.out.1 hb30
    clear hb30
    go_wp2_with fail
    go_ret
    exact ⟨rfl, H30.out⟩
set_option maxRecDepth 100000 in
set_option maxHeartbeats 16000000 in
theorem sb_few (a b : Option Addr) (cs : List Nat) (l : List Int) (c d x : Nat) (hc : cs.length ≤ 4398046511104) (hR : ∀ n ∈ cs, n < R256) (hl : l.length ≤ 17592186044416) (hxR : x < R256) (h0 : 0 < (rtL cs).length) (hb : nodesOk l = true) (hf : l.length < (rtL cs).length) (w : World) (hG : GlobQ w) (hS : Nums w a cs) (hN : IntsAt w b l) :
    Calls Tryd.prog 7 #[.slice a cs.length c, .slice b l.length d, .agg #[.int .u64 (limb (x) 0 : Nat), .int .u64 (limb (x) 1 : Nat), .int .u64 (limb (x) 2 : Nat), .int .u64 (limb (x) 3 : Nat)]] w fun e w' => e = .returned (.bool true) ∧ Below w.heap.size w w' := by
  obtain ⟨q, hq⟩ : ∃ q, q = QQ := ⟨_, rfl⟩
  obtain ⟨m, hm⟩ : ∃ m, m = cs.length := ⟨_, rfl⟩
  obtain ⟨n, hn⟩ : ∃ n, n = l.length := ⟨_, rfl⟩
  obtain ⟨t, ht⟩ : ∃ t, t = x % QQ := ⟨_, rfl⟩
  have K1 : Hid (∀ w, Nums w a cs → Calls Tryd.prog 24 #[.slice a m c] w fun e w' => ∃ a' n' cap', e = .returned (.slice a' n' cap') ∧ n' = (rtL cs).length ∧ RowN w' w.heap.size a' (rtL cs) cap' ∧ Below w.heap.size w w') := fun w h => by rw [hm]; exact right_any a cs c hc hR w h
  have KS : Hid (∀ w, Calls Tryd.prog 25 #[] w fun e w' => e = .returned (.agg #[.int .u64 (limb (q) 0 : Nat), .int .u64 (limb (q) 1 : Nat), .int .u64 (limb (q) 2 : Nat), .int .u64 (limb (q) 3 : Nat), .int .u64 (limb (R256 - (q)) 0 : Nat), .int .u64 (limb (R256 - (q)) 1 : Nat), .int .u64 (limb (R256 - (q)) 2 : Nat), .int .u64 (limb (R256 - (q)) 3 : Nat)]) ∧ Below w.heap.size w w') := fun w => by rw [hq]; exact scalars2_any w
  have KD : Hid (∀ w, Calls Tryd.prog 26 #[.agg #[.int .u64 (limb (q) 0 : Nat), .int .u64 (limb (q) 1 : Nat), .int .u64 (limb (q) 2 : Nat), .int .u64 (limb (q) 3 : Nat), .int .u64 (limb (R256 - (q)) 0 : Nat), .int .u64 (limb (R256 - (q)) 1 : Nat), .int .u64 (limb (R256 - (q)) 2 : Nat), .int .u64 (limb (R256 - (q)) 3 : Nat)], .agg #[.int .u64 (limb x 0 : Nat), .int .u64 (limb x 1 : Nat), .int .u64 (limb x 2 : Nat), .int .u64 (limb x 3 : Nat), .int .u64 0, .int .u64 0, .int .u64 0, .int .u64 0]] w fun e w' => e = .returned (.agg #[.int .u64 (limb (t) 0 : Nat), .int .u64 (limb (t) 1 : Nat), .int .u64 (limb (t) 2 : Nat), .int .u64 (limb (t) 3 : Nat)]) ∧ Below w.heap.size w w') := fun w => by rw [hq, ht]; exact reduce4 x hxR w
  have KA : Hid (∀ w, IntsAt w b l → Calls Tryd.prog 27 #[.slice b n d] w fun e w' => e = .returned (.bool (nodesOk l)) ∧ Below w.heap.size w w') := fun w h => by rw [hn]; exact among_any b l d hl w h
  have KL : Hid (∀ w, GlobQ w → Calls Tryd.prog 13 #[] w fun e w' => e = .returned (.bool true) ∧ Below w.heap.size w w') := fun w h => line_any w h
  have H0 : Hid (GlobQ w ∧ Nums w a cs ∧ IntsAt w b l ∧ n = l.length ∧ t < QQ) := ⟨hG, hS, hN, hn, by rw [ht]; exact Nat.mod_lt _ QQ_pos⟩
  have HB : Hid (Below w.heap.size w (w.alloc (.cells #[.int .u64 (limb x 0 : Nat), .int .u64 (limb x 1 : Nat), .int .u64 (limb x 2 : Nat), .int .u64 (limb x 3 : Nat)] 25)) ∧ Own4 (w.alloc (.cells #[.int .u64 (limb x 0 : Nat), .int .u64 (limb x 1 : Nat), .int .u64 (limb x 2 : Nat), .int .u64 (limb x 3 : Nat)] 25)) w.heap.size x) := ⟨below_alloc0 (Below.refl _ _) _, Own4.new _ _ _⟩
  have HI : Hid (0 < (rtL cs).length ∧ nodesOk l = true ∧ n < (rtL cs).length) := ⟨h0, hb, by omega⟩
  clear h0 hb hf
  rw [← hm, ← hn]
  clear hc hR hxR hG hS hN hq hm ht hn hl
  go_enter Tryd.func7, Tryd.ntmps7
  go_wp2_with fail
  refine (K1.out _ (H0.out.2.1.call HB.out.1)).mono ?_
  rintro e w1 ⟨pa, P, pc, rfl, hP, hRow, hb1⟩
  have H1 : Hid (Below w.heap.size w w1 ∧ Own4 w1 w.heap.size x ∧ Nums w1 pa (rtL cs) ∧ P = (rtL cs).length) := ⟨below_call0 HB.out.1 hb1, HB.out.2.call hb1, hRow.nums, hP⟩
  clear hb1 hRow hP HB K1
  go_wp2_with fail
  refine wp_region_N (fun w' => Below w1.heap.size w1 w') 12 13 rfl (by kernel_rfl) ?_
  refine wpAnyN_take (i := 1) (oi := ?o1) (v := ?v1) ?hi1 (by kernel_rfl) (by kernel_rfl) (by kernel_rfl) (by kernel_rfl) (by decide) (by kernel_rfl) ?hQ1 ?hy1 (Below.drew (Below.refl _ _)) ?more1
  case hi1 => rw [List.getElem?_toArray]; exact rfl
  case hQ1 => exact fun _ _ _ h => h
  case hy1 =>
    refine Or.inl ⟨by rfl, ?_⟩
    intro w' hSw
    obtain ⟨⟨x0, x1, x2, x3⟩, _, xz⟩ := (H1.out.2.1.call hSw).facts
    clear hSw
    go_simp
    try with_reducible rfl
  simp only [Act.put, List.setIfInBounds_toArray, List.set_cons_zero, List.set_cons_succ]
  refine wpAnyN_take (i := 2) (oi := ?o2) (v := ?v2) ?hi2 (by kernel_rfl) (by kernel_rfl) (by kernel_rfl) (by kernel_rfl) (by decide) (by kernel_rfl) ?hQ2 ?hy2 (Below.drew (Below.refl _ _)) ?more2
  case hi2 => rw [List.getElem?_toArray]; exact rfl
  case hQ2 => exact fun _ _ _ h => h
  case hy2 =>
    refine Or.inl ⟨by rfl, ?_⟩
    intro w' hSw
    obtain ⟨⟨x0, x1, x2, x3⟩, _, xz⟩ := (H1.out.2.1.call hSw).facts
    clear hSw
    go_simp
    try with_reducible rfl
  simp only [Act.put, List.setIfInBounds_toArray, List.set_cons_zero, List.set_cons_succ]
  refine wpAnyN_take (i := 3) (oi := ?o3) (v := ?v3) ?hi3 (by kernel_rfl) (by kernel_rfl) (by kernel_rfl) (by kernel_rfl) (by decide) (by kernel_rfl) ?hQ3 ?hy3 (Below.drew (Below.refl _ _)) ?more3
  case hi3 => rw [List.getElem?_toArray]; exact rfl
  case hQ3 => exact fun _ _ _ h => h
  case hy3 =>
    refine Or.inl ⟨by rfl, ?_⟩
    intro w' hSw
    obtain ⟨⟨x0, x1, x2, x3⟩, _, xz⟩ := (H1.out.2.1.call hSw).facts
    clear hSw
    go_simp
    try with_reducible rfl
  simp only [Act.put, List.setIfInBounds_toArray, List.set_cons_zero, List.set_cons_succ]
  refine wpAnyN_take (i := 4) (oi := ?o4) (v := ?v4) ?hi4 (by kernel_rfl) (by kernel_rfl) (by kernel_rfl) (by kernel_rfl) (by decide) (by kernel_rfl) ?hQ4 ?hy4 (Below.drew (Below.refl _ _)) ?more4
  case hi4 => rw [List.getElem?_toArray]; exact rfl
  case hQ4 => exact fun _ _ _ h => h
  case hy4 =>
    refine Or.inl ⟨by rfl, ?_⟩
    intro w' hSw
    obtain ⟨⟨x0, x1, x2, x3⟩, _, xz⟩ := (H1.out.2.1.call hSw).facts
    clear hSw
    go_simp
    try with_reducible rfl
  simp only [Act.put, List.setIfInBounds_toArray, List.set_cons_zero, List.set_cons_succ]
  refine wpAnyN_take (i := 5) (oi := ?o5) (v := ?v5) ?hi5 (by kernel_rfl) (by kernel_rfl) (by kernel_rfl) (by kernel_rfl) (by decide) (by kernel_rfl) ?hQ5 ?hy5 (Below.drew (Below.refl _ _)) ?more5
  case hi5 => rw [List.getElem?_toArray]; exact rfl
  case hQ5 => exact fun _ _ _ h => h
  case hy5 =>
    refine Or.inl ⟨by rfl, ?_⟩
    intro w' hSw
    obtain ⟨⟨x0, x1, x2, x3⟩, _, xz⟩ := (H1.out.2.1.call hSw).facts
    clear hSw
    go_simp
    try with_reducible rfl
  simp only [Act.put, List.setIfInBounds_toArray, List.set_cons_zero, List.set_cons_succ]
  refine wpAnyN_take (i := 6) (oi := ?o6) (v := ?v6) ?hi6 (by kernel_rfl) (by kernel_rfl) (by kernel_rfl) (by kernel_rfl) (by decide) (by kernel_rfl) ?hQ6 ?hy6 (Below.drew (Below.refl _ _)) ?more6
  case hi6 => rw [List.getElem?_toArray]; exact rfl
  case hQ6 => exact fun _ _ _ h => h
  case hy6 =>
    refine Or.inl ⟨by rfl, ?_⟩
    intro w' hSw
    obtain ⟨⟨x0, x1, x2, x3⟩, _, xz⟩ := (H1.out.2.1.call hSw).facts
    clear hSw
    go_simp
    try with_reducible rfl
  simp only [Act.put, List.setIfInBounds_toArray, List.set_cons_zero, List.set_cons_succ]
  refine wpAnyN_take (i := 7) (oi := ?o7) (v := ?v7) ?hi7 (by kernel_rfl) (by kernel_rfl) (by kernel_rfl) (by kernel_rfl) (by decide) (by kernel_rfl) ?hQ7 ?hy7 (Below.drew (Below.refl _ _)) ?more7
  case hi7 => rw [List.getElem?_toArray]; exact rfl
  case hQ7 => exact fun _ _ _ h => h
  case hy7 =>
    refine Or.inl ⟨by rfl, ?_⟩
    intro w' hSw
    obtain ⟨⟨x0, x1, x2, x3⟩, _, xz⟩ := (H1.out.2.1.call hSw).facts
    clear hSw
    go_simp
    try with_reducible rfl
  simp only [Act.put, List.setIfInBounds_toArray, List.set_cons_zero, List.set_cons_succ]
  refine wpAnyN_take (i := 8) (oi := ?o8) (v := ?v8) ?hi8 (by kernel_rfl) (by kernel_rfl) (by kernel_rfl) (by kernel_rfl) (by decide) (by kernel_rfl) ?hQ8 ?hy8 (Below.drew (Below.refl _ _)) ?more8
  case hi8 => rw [List.getElem?_toArray]; exact rfl
  case hQ8 => exact fun _ _ _ h => h
  case hy8 =>
    refine Or.inl ⟨by rfl, ?_⟩
    intro w' hSw
    obtain ⟨⟨x0, x1, x2, x3⟩, _, xz⟩ := (H1.out.2.1.call hSw).facts
    clear hSw
    go_simp
    try with_reducible rfl
  simp only [Act.put, List.setIfInBounds_toArray, List.set_cons_zero, List.set_cons_succ]
  refine wpAnyN_take (i := 9) (oi := ?o9) (v := ?v9) ?hi9 (by kernel_rfl) (by kernel_rfl) (by kernel_rfl) (by kernel_rfl) (by decide) (by kernel_rfl) ?hQ9 ?hy9 (Below.drew (Below.refl _ _)) ?more9
  case hi9 => rw [List.getElem?_toArray]; exact rfl
  case hQ9 => exact fun _ _ _ h => h
  case hy9 =>
    refine Or.inl ⟨by rfl, ?_⟩
    intro w' hSw
    obtain ⟨⟨x0, x1, x2, x3⟩, _, xz⟩ := (H1.out.2.1.call hSw).facts
    clear hSw
    go_simp
    try with_reducible rfl
  simp only [Act.put, List.setIfInBounds_toArray, List.set_cons_zero, List.set_cons_succ]
  refine wpAnyN_two (i := 0) (j := 11) (o := ?o0x1) (p := ?o11x1) (by kernel_rfl) ?hi0x1 ?hi11x1 ?hw0x1 ?hw11x1 ?st0x1 ?st11x1
  case hi0x1 => rw [List.getElem?_toArray]; exact rfl
  case hw0x1 => exact rfl
  case hi11x1 => rw [List.getElem?_toArray]; exact rfl
  case hw11x1 => exact rfl
  case st0x1 =>
    intro K hK
    have HK0y2 : Hid _ := hK
    clear hK
    go_simp
    refine (KS.out _).mono ?_
    rintro e w0y2 ⟨rfl, hq⟩
    have H0y2 : Hid (Below w1.heap.size w1 w0y2) := below_call0 (Below.drew (Below.refl _ _)) hq
    clear hq
    go_wp2_with fail
    refine HK0y2.out _ _ ⟨fun _ => H0y2.out, ?_⟩
    clear HK0y2 K
    try simp only [Act.put, List.setIfInBounds_toArray, List.set_cons_zero, List.set_cons_succ]
    refine wpAnyN_two (i := 10) (j := 11) (o := ?o10y2x3) (p := ?o11y2x3) (by kernel_rfl) ?hi10y2x3 ?hi11y2x3 ?hw10y2x3 ?hw11y2x3 ?st10y2x3 ?st11y2x3
    case hi10y2x3 => rw [List.getElem?_toArray]; exact rfl
    case hw10y2x3 => exact rfl
    case hi11y2x3 => rw [List.getElem?_toArray]; exact rfl
    case hw11y2x3 => exact rfl
    case st10y2x3 =>
      intro K hK
      have HK10y4 : Hid _ := hK
      clear hK
      go_simp
      refine (KD.out _).mono ?_
      rintro e w10y4 ⟨rfl, hq⟩
      have H10y4 : Hid (Below w1.heap.size w1 w10y4) := below_call0 H0y2.out hq
      clear hq
      go_wp2_with fail
      refine HK10y4.out _ _ ⟨fun _ => H10y4.out, ?_⟩
      clear HK10y4 K
      try simp only [Act.put, List.setIfInBounds_toArray, List.set_cons_zero, List.set_cons_succ]
      refine wpAnyN_one (i := 11) (o := ?o11y4) (by kernel_rfl) ?hi11y4 ?hw11y4 ?st11y4
      case hi11y4 => rw [List.getElem?_toArray]; exact rfl
      case hw11y4 => exact rfl
      intro K hK
      have HK11y4 : Hid _ := hK
      clear hK
      go_simp
      refine HK11y4.out _ _ ⟨fun _ => (below_alloc0 H10y4.out _), ?_⟩
      clear HK11y4 K
      try simp only [Act.put, List.setIfInBounds_toArray, List.set_cons_zero, List.set_cons_succ]
      refine wpAnyN_one (i := 12) (o := ?o12y4) (by kernel_rfl) ?hi12y4 ?hw12y4 ?st12y4
      case hi12y4 => rw [List.getElem?_toArray]; exact rfl
      case hw12y4 => exact rfl
      intro K hK
      have HK12y4 : Hid _ := hK
      clear hK
      obtain ⟨⟨o0, o1, o2, o3⟩, ⟨f0, f1, f2, f3⟩, oz⟩ := Pend.facts (Pend.new' (W := w10y4) (t := 25) rfl)
      try simp only [World.size_alloc] at o0 o1 o2 o3 f0 f1 f2 f3 oz
      go_simp
      refine HK12y4.out _ _ ⟨fun h => absurd h (by decide +kernel), ?_⟩
      clear HK12y4 K
      try simp only [Act.put, List.setIfInBounds_toArray, List.set_cons_zero, List.set_cons_succ]
      refine wpAnyN_done (by kernel_rfl) ?_ _
      obtain ⟨wS, hwS⟩ : ∃ y, y = w10y4.alloc (.cells #[.int .u64 (limb t 0 : Nat), .int .u64 (limb t 1 : Nat), .int .u64 (limb t 2 : Nat), .int .u64 (limb t 3 : Nat)] 25) := ⟨_, rfl⟩
      have HT : Hid (Own4 wS (w10y4.heap.size) t ∧ Below w1.heap.size w1 wS) := by rw [hwS]; exact ⟨Own4.new' rfl, below_alloc0 H10y4.out _⟩
      rw [← hwS]
      clear hwS o0 o1 o2 o3 f0 f1 f2 f3 oz
      have HW : Hid (Below w.heap.size w wS ∧ Nums wS pa (rtL cs) ∧ Own4 wS (w10y4.heap.size) t) := ⟨below_call0 H1.out.1 HT.out.2, H1.out.2.2.1.call HT.out.2, HT.out.1⟩
      clear HT
      have p0 : ((P : Int) == 0) = false := by
        have := H1.out.2.2.2
        have := HI.out.1
        simp
        omega
      have p1 : ¬ ((P : Int) = 0) := by simpa using p0
      go_wp2_with fail
      refine (KA.out _ (H0.out.2.2.1.call HW.out.1)).mono ?_
      rintro e w10 ⟨rfl, hb10⟩
      rw [HI.out.2.1]
      have H10 : Hid (Below w.heap.size w w10 ∧ Below wS.heap.size wS w10) := ⟨below_call0 HW.out.1 hb10, hb10⟩
      clear hb10
      have p2 : (n : Int) < (P : Int) := by
        have := H1.out.2.2.2
        have := HI.out.2.2
        omega
      have p3 : decide ((n : Int) < (P : Int)) = true := decide_eq_true p2
      have p4 : decide (n < P) = true := decide_eq_true (by omega)
      clear p0 p1
      go_wp2_with fail
      refine (KL.out _ (H0.out.1.call H10.out.1)).mono ?_
      rintro e w30 ⟨rfl, hb30⟩
      have H30 : Hid (Below w.heap.size w w30) := below_call0 H10.out.1 hb30
      clear hb30
      go_wp2_with fail
      go_ret
      exact ⟨rfl, H30.out⟩
    case st11y2x3 =>
      intro K hK
      have HK11y5 : Hid _ := hK
      clear hK
      go_simp
      refine HK11y5.out _ _ ⟨fun _ => (below_alloc0 H0y2.out _), ?_⟩
      clear HK11y5 K
      try simp only [Act.put, List.setIfInBounds_toArray, List.set_cons_zero, List.set_cons_succ]
      refine wpAnyN_one (i := 10) (o := ?o10y5) (by kernel_rfl) ?hi10y5 ?hw10y5 ?st10y5
      case hi10y5 => rw [List.getElem?_toArray]; exact rfl
      case hw10y5 => exact rfl
      intro K hK
      have HK10y5 : Hid _ := hK
      clear hK
      go_simp
      refine (KD.out _).mono ?_
      rintro e w10y5 ⟨rfl, hq⟩
      have H10y5 : Hid (Below w1.heap.size w1 w10y5) := below_call0 (below_alloc0 H0y2.out _) hq
      have P10y5 : Hid (Pend w10y5 (w0y2.heap.size)) := Pend.call (Pend.new' (W := w0y2) (t := 25) rfl) hq
      clear hq
      go_wp2_with fail
      refine HK10y5.out _ _ ⟨fun _ => H10y5.out, ?_⟩
      clear HK10y5 K
      try simp only [Act.put, List.setIfInBounds_toArray, List.set_cons_zero, List.set_cons_succ]
      refine wpAnyN_one (i := 12) (o := ?o12y5) (by kernel_rfl) ?hi12y5 ?hw12y5 ?st12y5
      case hi12y5 => rw [List.getElem?_toArray]; exact rfl
      case hw12y5 => exact rfl
      intro K hK
      have HK12y5 : Hid _ := hK
      clear hK
      obtain ⟨⟨o0, o1, o2, o3⟩, ⟨f0, f1, f2, f3⟩, oz⟩ := Pend.facts P10y5.out
      try simp only [World.size_alloc] at o0 o1 o2 o3 f0 f1 f2 f3 oz
      go_simp
      refine HK12y5.out _ _ ⟨fun h => absurd h (by decide +kernel), ?_⟩
      clear HK12y5 K
      try simp only [Act.put, List.setIfInBounds_toArray, List.set_cons_zero, List.set_cons_succ]
      refine wpAnyN_done (by kernel_rfl) ?_ _
      obtain ⟨wS, hwS⟩ : ∃ y, y = ((((w10y5.setCell ⟨w0y2.heap.size, 0, none⟩ (.int .u64 (limb t 0 : Nat))).setCell ⟨w0y2.heap.size, 1, none⟩ (.int .u64 (limb t 1 : Nat))).setCell ⟨w0y2.heap.size, 2, none⟩ (.int .u64 (limb t 2 : Nat))).setCell ⟨w0y2.heap.size, 3, none⟩ (.int .u64 (limb t 3 : Nat))) := ⟨_, rfl⟩
      have HT : Hid (Own4 wS (w0y2.heap.size) t ∧ Below w1.heap.size w1 wS) := by rw [hwS]; exact ⟨Pend.own P10y5.out, Below.setCell (Below.setCell (Below.setCell (Below.setCell H10y5.out (Below.size H0y2.out) _) (Below.size H0y2.out) _) (Below.size H0y2.out) _) (Below.size H0y2.out) _⟩
      rw [← hwS]
      clear hwS o0 o1 o2 o3 f0 f1 f2 f3 oz
      have HW : Hid (Below w.heap.size w wS ∧ Nums wS pa (rtL cs) ∧ Own4 wS (w0y2.heap.size) t) := ⟨below_call0 H1.out.1 HT.out.2, H1.out.2.2.1.call HT.out.2, HT.out.1⟩
      clear HT
      have p0 : ((P : Int) == 0) = false := by
        have := H1.out.2.2.2
        have := HI.out.1
        simp
        omega
      have p1 : ¬ ((P : Int) = 0) := by simpa using p0
      go_wp2_with fail
      refine (KA.out _ (H0.out.2.2.1.call HW.out.1)).mono ?_
      rintro e w10 ⟨rfl, hb10⟩
      rw [HI.out.2.1]
      have H10 : Hid (Below w.heap.size w w10 ∧ Below wS.heap.size wS w10) := ⟨below_call0 HW.out.1 hb10, hb10⟩
      clear hb10
      have p2 : (n : Int) < (P : Int) := by
        have := H1.out.2.2.2
        have := HI.out.2.2
        omega
      have p3 : decide ((n : Int) < (P : Int)) = true := decide_eq_true p2
      have p4 : decide (n < P) = true := decide_eq_true (by omega)
      clear p0 p1
      go_wp2_with fail
      refine (KL.out _ (H0.out.1.call H10.out.1)).mono ?_
      rintro e w30 ⟨rfl, hb30⟩
      have H30 : Hid (Below w.heap.size w w30) := below_call0 H10.out.1 hb30
      clear hb30
      go_wp2_with fail
      go_ret
      exact ⟨rfl, H30.out⟩
  case st11x1 =>
    intro K hK
    have HK11y6 : Hid _ := hK
    clear hK
    go_simp
    refine HK11y6.out _ _ ⟨fun _ => (below_alloc0 (Below.drew (Below.refl _ _)) _), ?_⟩
    clear HK11y6 K
    try simp only [Act.put, List.setIfInBounds_toArray, List.set_cons_zero, List.set_cons_succ]
    refine wpAnyN_one (i := 0) (o := ?o0y6) (by kernel_rfl) ?hi0y6 ?hw0y6 ?st0y6
    case hi0y6 => rw [List.getElem?_toArray]; exact rfl
    case hw0y6 => exact rfl
    intro K hK
    have HK0y6 : Hid _ := hK
    clear hK
    go_simp
    refine (KS.out _).mono ?_
    rintro e w0y6 ⟨rfl, hq⟩
    have H0y6 : Hid (Below w1.heap.size w1 w0y6) := below_call0 (below_alloc0 (Below.drew (Below.refl _ _)) _) hq
    have P0y6 : Hid (Pend w0y6 (w1.heap.size)) := Pend.call (Pend.new' (W := w1.drew) (t := 25) rfl) hq
    clear hq
    go_wp2_with fail
    refine HK0y6.out _ _ ⟨fun _ => H0y6.out, ?_⟩
    clear HK0y6 K
    try simp only [Act.put, List.setIfInBounds_toArray, List.set_cons_zero, List.set_cons_succ]
    refine wpAnyN_one (i := 10) (o := ?o10y6) (by kernel_rfl) ?hi10y6 ?hw10y6 ?st10y6
    case hi10y6 => rw [List.getElem?_toArray]; exact rfl
    case hw10y6 => exact rfl
    intro K hK
    have HK10y6 : Hid _ := hK
    clear hK
    go_simp
    refine (KD.out _).mono ?_
    rintro e w10y6 ⟨rfl, hq⟩
    have H10y6 : Hid (Below w1.heap.size w1 w10y6) := below_call0 H0y6.out hq
    have P10y6 : Hid (Pend w10y6 (w1.heap.size)) := Pend.call P0y6.out hq
    clear hq
    go_wp2_with fail
    refine HK10y6.out _ _ ⟨fun _ => H10y6.out, ?_⟩
    clear HK10y6 K
    try simp only [Act.put, List.setIfInBounds_toArray, List.set_cons_zero, List.set_cons_succ]
    refine wpAnyN_one (i := 12) (o := ?o12y6) (by kernel_rfl) ?hi12y6 ?hw12y6 ?st12y6
    case hi12y6 => rw [List.getElem?_toArray]; exact rfl
    case hw12y6 => exact rfl
    intro K hK
    have HK12y6 : Hid _ := hK
    clear hK
    obtain ⟨⟨o0, o1, o2, o3⟩, ⟨f0, f1, f2, f3⟩, oz⟩ := Pend.facts P10y6.out
    try simp only [World.size_alloc] at o0 o1 o2 o3 f0 f1 f2 f3 oz
    go_simp
    refine HK12y6.out _ _ ⟨fun h => absurd h (by decide +kernel), ?_⟩
    clear HK12y6 K
    try simp only [Act.put, List.setIfInBounds_toArray, List.set_cons_zero, List.set_cons_succ]
    refine wpAnyN_done (by kernel_rfl) ?_ _
    obtain ⟨wS, hwS⟩ : ∃ y, y = ((((w10y6.setCell ⟨w1.heap.size, 0, none⟩ (.int .u64 (limb t 0 : Nat))).setCell ⟨w1.heap.size, 1, none⟩ (.int .u64 (limb t 1 : Nat))).setCell ⟨w1.heap.size, 2, none⟩ (.int .u64 (limb t 2 : Nat))).setCell ⟨w1.heap.size, 3, none⟩ (.int .u64 (limb t 3 : Nat))) := ⟨_, rfl⟩
    have HT : Hid (Own4 wS (w1.heap.size) t ∧ Below w1.heap.size w1 wS) := by rw [hwS]; exact ⟨Pend.own P10y6.out, Below.setCell (Below.setCell (Below.setCell (Below.setCell H10y6.out (Nat.le_refl _) _) (Nat.le_refl _) _) (Nat.le_refl _) _) (Nat.le_refl _) _⟩
    rw [← hwS]
    clear hwS o0 o1 o2 o3 f0 f1 f2 f3 oz
    have HW : Hid (Below w.heap.size w wS ∧ Nums wS pa (rtL cs) ∧ Own4 wS (w1.heap.size) t) := ⟨below_call0 H1.out.1 HT.out.2, H1.out.2.2.1.call HT.out.2, HT.out.1⟩
    clear HT
    have p0 : ((P : Int) == 0) = false := by
      have := H1.out.2.2.2
      have := HI.out.1
      simp
      omega
    have p1 : ¬ ((P : Int) = 0) := by simpa using p0
    go_wp2_with fail
    refine (KA.out _ (H0.out.2.2.1.call HW.out.1)).mono ?_
    rintro e w10 ⟨rfl, hb10⟩
    rw [HI.out.2.1]
    have H10 : Hid (Below w.heap.size w w10 ∧ Below wS.heap.size wS w10) := ⟨below_call0 HW.out.1 hb10, hb10⟩
    clear hb10
    have p2 : (n : Int) < (P : Int) := by
      have := H1.out.2.2.2
      have := HI.out.2.2
      omega
    have p3 : decide ((n : Int) < (P : Int)) = true := decide_eq_true p2
    have p4 : decide (n < P) = true := decide_eq_true (by omega)
    clear p0 p1
    go_wp2_with fail
    refine (KL.out _ (H0.out.1.call H10.out.1)).mono ?_
    rintro e w30 ⟨rfl, hb30⟩
    have H30 : Hid (Below w.heap.size w w30) := below_call0 H10.out.1 hb30
    clear hb30
    go_wp2_with fail
    go_ret
    exact ⟨rfl, H30.out⟩
set_option maxRecDepth 100000 in
set_option maxHeartbeats 16000000 in
theorem sb_in (a b : Option Addr) (cs : List Nat) (l : List Int) (c d x : Nat) (hc : cs.length ≤ 4398046511104) (hR : ∀ n ∈ cs, n < R256) (hl : l.length ≤ 17592186044416) (hxR : x < R256) (h0 : 0 < (rtL cs).length) (hb : nodesOk l = true) (hf : (rtL cs).length ≤ l.length) (w : World) (hG : GlobQ w) (hS : Nums w a cs) (hN : IntsAt w b l) :
    Calls Tryd.prog 7 #[.slice a cs.length c, .slice b l.length d, .agg #[.int .u64 (limb (x) 0 : Nat), .int .u64 (limb (x) 1 : Nat), .int .u64 (limb (x) 2 : Nat), .int .u64 (limb (x) 3 : Nat)]] w fun e w' => e = .returned (.bool true) ∧ Below w.heap.size w w' := by
  obtain ⟨q, hq⟩ : ∃ q, q = QQ := ⟨_, rfl⟩
  obtain ⟨m, hm⟩ : ∃ m, m = cs.length := ⟨_, rfl⟩
  obtain ⟨n, hn⟩ : ∃ n, n = l.length := ⟨_, rfl⟩
  obtain ⟨t, ht⟩ : ∃ t, t = x % QQ := ⟨_, rfl⟩
  have K1 : Hid (∀ w, Nums w a cs → Calls Tryd.prog 24 #[.slice a m c] w fun e w' => ∃ a' n' cap', e = .returned (.slice a' n' cap') ∧ n' = (rtL cs).length ∧ RowN w' w.heap.size a' (rtL cs) cap' ∧ Below w.heap.size w w') := fun w h => by rw [hm]; exact right_any a cs c hc hR w h
  have KS : Hid (∀ w, Calls Tryd.prog 25 #[] w fun e w' => e = .returned (.agg #[.int .u64 (limb (q) 0 : Nat), .int .u64 (limb (q) 1 : Nat), .int .u64 (limb (q) 2 : Nat), .int .u64 (limb (q) 3 : Nat), .int .u64 (limb (R256 - (q)) 0 : Nat), .int .u64 (limb (R256 - (q)) 1 : Nat), .int .u64 (limb (R256 - (q)) 2 : Nat), .int .u64 (limb (R256 - (q)) 3 : Nat)]) ∧ Below w.heap.size w w') := fun w => by rw [hq]; exact scalars2_any w
  have KD : Hid (∀ w, Calls Tryd.prog 26 #[.agg #[.int .u64 (limb (q) 0 : Nat), .int .u64 (limb (q) 1 : Nat), .int .u64 (limb (q) 2 : Nat), .int .u64 (limb (q) 3 : Nat), .int .u64 (limb (R256 - (q)) 0 : Nat), .int .u64 (limb (R256 - (q)) 1 : Nat), .int .u64 (limb (R256 - (q)) 2 : Nat), .int .u64 (limb (R256 - (q)) 3 : Nat)], .agg #[.int .u64 (limb x 0 : Nat), .int .u64 (limb x 1 : Nat), .int .u64 (limb x 2 : Nat), .int .u64 (limb x 3 : Nat), .int .u64 0, .int .u64 0, .int .u64 0, .int .u64 0]] w fun e w' => e = .returned (.agg #[.int .u64 (limb (t) 0 : Nat), .int .u64 (limb (t) 1 : Nat), .int .u64 (limb (t) 2 : Nat), .int .u64 (limb (t) 3 : Nat)]) ∧ Below w.heap.size w w') := fun w => by rw [hq, ht]; exact reduce4 x hxR w
  have KA : Hid (∀ w, IntsAt w b l → Calls Tryd.prog 27 #[.slice b n d] w fun e w' => e = .returned (.bool (nodesOk l)) ∧ Below w.heap.size w w') := fun w h => by rw [hn]; exact among_any b l d hl w h
  have KL : Hid (∀ w, GlobQ w → Calls Tryd.prog 13 #[] w fun e w' => e = .returned (.bool true) ∧ Below w.heap.size w w') := fun w h => line_any w h
  have H0 : Hid (GlobQ w ∧ Nums w a cs ∧ IntsAt w b l ∧ n = l.length ∧ t < QQ) := ⟨hG, hS, hN, hn, by rw [ht]; exact Nat.mod_lt _ QQ_pos⟩
  have HB : Hid (Below w.heap.size w (w.alloc (.cells #[.int .u64 (limb x 0 : Nat), .int .u64 (limb x 1 : Nat), .int .u64 (limb x 2 : Nat), .int .u64 (limb x 3 : Nat)] 25)) ∧ Own4 (w.alloc (.cells #[.int .u64 (limb x 0 : Nat), .int .u64 (limb x 1 : Nat), .int .u64 (limb x 2 : Nat), .int .u64 (limb x 3 : Nat)] 25)) w.heap.size x) := ⟨below_alloc0 (Below.refl _ _) _, Own4.new _ _ _⟩
  have HI : Hid (0 < (rtL cs).length ∧ nodesOk l = true ∧ (rtL cs).length ≤ n ∧ n ≤ 10 ∧ l.length ≤ 17592186044416) := ⟨h0, hb, by omega, by rw [hn]; exact nodes_short (nodes_ok hb).1, hl⟩
  have n10 : (n : Int) ≤ 10 := by have := HI.out.2.2.2.1; omega
  clear h0 hb hf
  rw [← hm, ← hn]
  clear hc hR hxR hG hS hN hq hm ht hn hl
  go_enter Tryd.func7, Tryd.ntmps7
  go_wp2_with fail
  refine (K1.out _ (H0.out.2.1.call HB.out.1)).mono ?_
  rintro e w1 ⟨pa, P, pc, rfl, hP, hRow, hb1⟩
  have H1 : Hid (Below w.heap.size w w1 ∧ Own4 w1 w.heap.size x ∧ Nums w1 pa (rtL cs) ∧ P = (rtL cs).length) := ⟨below_call0 HB.out.1 hb1, HB.out.2.call hb1, hRow.nums, hP⟩
  clear hb1 hRow hP HB K1
  go_wp2_with fail
  refine wp_region_N (fun w' => Below w1.heap.size w1 w') 12 13 rfl (by kernel_rfl) ?_
  refine wpAnyN_take (i := 1) (oi := ?o1) (v := ?v1) ?hi1 (by kernel_rfl) (by kernel_rfl) (by kernel_rfl) (by kernel_rfl) (by decide) (by kernel_rfl) ?hQ1 ?hy1 (Below.drew (Below.refl _ _)) ?more1
  case hi1 => rw [List.getElem?_toArray]; exact rfl
  case hQ1 => exact fun _ _ _ h => h
  case hy1 =>
    refine Or.inl ⟨by rfl, ?_⟩
    intro w' hSw
    obtain ⟨⟨x0, x1, x2, x3⟩, _, xz⟩ := (H1.out.2.1.call hSw).facts
    clear hSw
    go_simp
    try with_reducible rfl
  simp only [Act.put, List.setIfInBounds_toArray, List.set_cons_zero, List.set_cons_succ]
  refine wpAnyN_take (i := 2) (oi := ?o2) (v := ?v2) ?hi2 (by kernel_rfl) (by kernel_rfl) (by kernel_rfl) (by kernel_rfl) (by decide) (by kernel_rfl) ?hQ2 ?hy2 (Below.drew (Below.refl _ _)) ?more2
  case hi2 => rw [List.getElem?_toArray]; exact rfl
  case hQ2 => exact fun _ _ _ h => h
  case hy2 =>
    refine Or.inl ⟨by rfl, ?_⟩
    intro w' hSw
    obtain ⟨⟨x0, x1, x2, x3⟩, _, xz⟩ := (H1.out.2.1.call hSw).facts
    clear hSw
    go_simp
    try with_reducible rfl
  simp only [Act.put, List.setIfInBounds_toArray, List.set_cons_zero, List.set_cons_succ]
  refine wpAnyN_take (i := 3) (oi := ?o3) (v := ?v3) ?hi3 (by kernel_rfl) (by kernel_rfl) (by kernel_rfl) (by kernel_rfl) (by decide) (by kernel_rfl) ?hQ3 ?hy3 (Below.drew (Below.refl _ _)) ?more3
  case hi3 => rw [List.getElem?_toArray]; exact rfl
  case hQ3 => exact fun _ _ _ h => h
  case hy3 =>
    refine Or.inl ⟨by rfl, ?_⟩
    intro w' hSw
    obtain ⟨⟨x0, x1, x2, x3⟩, _, xz⟩ := (H1.out.2.1.call hSw).facts
    clear hSw
    go_simp
    try with_reducible rfl
  simp only [Act.put, List.setIfInBounds_toArray, List.set_cons_zero, List.set_cons_succ]
  refine wpAnyN_take (i := 4) (oi := ?o4) (v := ?v4) ?hi4 (by kernel_rfl) (by kernel_rfl) (by kernel_rfl) (by kernel_rfl) (by decide) (by kernel_rfl) ?hQ4 ?hy4 (Below.drew (Below.refl _ _)) ?more4
  case hi4 => rw [List.getElem?_toArray]; exact rfl
  case hQ4 => exact fun _ _ _ h => h
  case hy4 =>
    refine Or.inl ⟨by rfl, ?_⟩
    intro w' hSw
    obtain ⟨⟨x0, x1, x2, x3⟩, _, xz⟩ := (H1.out.2.1.call hSw).facts
    clear hSw
    go_simp
    try with_reducible rfl
  simp only [Act.put, List.setIfInBounds_toArray, List.set_cons_zero, List.set_cons_succ]
  refine wpAnyN_take (i := 5) (oi := ?o5) (v := ?v5) ?hi5 (by kernel_rfl) (by kernel_rfl) (by kernel_rfl) (by kernel_rfl) (by decide) (by kernel_rfl) ?hQ5 ?hy5 (Below.drew (Below.refl _ _)) ?more5
  case hi5 => rw [List.getElem?_toArray]; exact rfl
  case hQ5 => exact fun _ _ _ h => h
  case hy5 =>
    refine Or.inl ⟨by rfl, ?_⟩
    intro w' hSw
    obtain ⟨⟨x0, x1, x2, x3⟩, _, xz⟩ := (H1.out.2.1.call hSw).facts
    clear hSw
    go_simp
    try with_reducible rfl
  simp only [Act.put, List.setIfInBounds_toArray, List.set_cons_zero, List.set_cons_succ]
  refine wpAnyN_take (i := 6) (oi := ?o6) (v := ?v6) ?hi6 (by kernel_rfl) (by kernel_rfl) (by kernel_rfl) (by kernel_rfl) (by decide) (by kernel_rfl) ?hQ6 ?hy6 (Below.drew (Below.refl _ _)) ?more6
  case hi6 => rw [List.getElem?_toArray]; exact rfl
  case hQ6 => exact fun _ _ _ h => h
  case hy6 =>
    refine Or.inl ⟨by rfl, ?_⟩
    intro w' hSw
    obtain ⟨⟨x0, x1, x2, x3⟩, _, xz⟩ := (H1.out.2.1.call hSw).facts
    clear hSw
    go_simp
    try with_reducible rfl
  simp only [Act.put, List.setIfInBounds_toArray, List.set_cons_zero, List.set_cons_succ]
  refine wpAnyN_take (i := 7) (oi := ?o7) (v := ?v7) ?hi7 (by kernel_rfl) (by kernel_rfl) (by kernel_rfl) (by kernel_rfl) (by decide) (by kernel_rfl) ?hQ7 ?hy7 (Below.drew (Below.refl _ _)) ?more7
  case hi7 => rw [List.getElem?_toArray]; exact rfl
  case hQ7 => exact fun _ _ _ h => h
  case hy7 =>
    refine Or.inl ⟨by rfl, ?_⟩
    intro w' hSw
    obtain ⟨⟨x0, x1, x2, x3⟩, _, xz⟩ := (H1.out.2.1.call hSw).facts
    clear hSw
    go_simp
    try with_reducible rfl
  simp only [Act.put, List.setIfInBounds_toArray, List.set_cons_zero, List.set_cons_succ]
  refine wpAnyN_take (i := 8) (oi := ?o8) (v := ?v8) ?hi8 (by kernel_rfl) (by kernel_rfl) (by kernel_rfl) (by kernel_rfl) (by decide) (by kernel_rfl) ?hQ8 ?hy8 (Below.drew (Below.refl _ _)) ?more8
  case hi8 => rw [List.getElem?_toArray]; exact rfl
  case hQ8 => exact fun _ _ _ h => h
  case hy8 =>
    refine Or.inl ⟨by rfl, ?_⟩
    intro w' hSw
    obtain ⟨⟨x0, x1, x2, x3⟩, _, xz⟩ := (H1.out.2.1.call hSw).facts
    clear hSw
    go_simp
    try with_reducible rfl
  simp only [Act.put, List.setIfInBounds_toArray, List.set_cons_zero, List.set_cons_succ]
  refine wpAnyN_take (i := 9) (oi := ?o9) (v := ?v9) ?hi9 (by kernel_rfl) (by kernel_rfl) (by kernel_rfl) (by kernel_rfl) (by decide) (by kernel_rfl) ?hQ9 ?hy9 (Below.drew (Below.refl _ _)) ?more9
  case hi9 => rw [List.getElem?_toArray]; exact rfl
  case hQ9 => exact fun _ _ _ h => h
  case hy9 =>
    refine Or.inl ⟨by rfl, ?_⟩
    intro w' hSw
    obtain ⟨⟨x0, x1, x2, x3⟩, _, xz⟩ := (H1.out.2.1.call hSw).facts
    clear hSw
    go_simp
    try with_reducible rfl
  simp only [Act.put, List.setIfInBounds_toArray, List.set_cons_zero, List.set_cons_succ]
  refine wpAnyN_two (i := 0) (j := 11) (o := ?o0x1) (p := ?o11x1) (by kernel_rfl) ?hi0x1 ?hi11x1 ?hw0x1 ?hw11x1 ?st0x1 ?st11x1
  case hi0x1 => rw [List.getElem?_toArray]; exact rfl
  case hw0x1 => exact rfl
  case hi11x1 => rw [List.getElem?_toArray]; exact rfl
  case hw11x1 => exact rfl
  case st0x1 =>
    intro K hK
    have HK0y2 : Hid _ := hK
    clear hK
    go_simp
    refine (KS.out _).mono ?_
    rintro e w0y2 ⟨rfl, hq⟩
    have H0y2 : Hid (Below w1.heap.size w1 w0y2) := below_call0 (Below.drew (Below.refl _ _)) hq
    clear hq
    go_wp2_with fail
    refine HK0y2.out _ _ ⟨fun _ => H0y2.out, ?_⟩
    clear HK0y2 K
    try simp only [Act.put, List.setIfInBounds_toArray, List.set_cons_zero, List.set_cons_succ]
    refine wpAnyN_two (i := 10) (j := 11) (o := ?o10y2x3) (p := ?o11y2x3) (by kernel_rfl) ?hi10y2x3 ?hi11y2x3 ?hw10y2x3 ?hw11y2x3 ?st10y2x3 ?st11y2x3
    case hi10y2x3 => rw [List.getElem?_toArray]; exact rfl
    case hw10y2x3 => exact rfl
    case hi11y2x3 => rw [List.getElem?_toArray]; exact rfl
    case hw11y2x3 => exact rfl
    case st10y2x3 =>
      intro K hK
      have HK10y4 : Hid _ := hK
      clear hK
      go_simp
      refine (KD.out _).mono ?_
      rintro e w10y4 ⟨rfl, hq⟩
      have H10y4 : Hid (Below w1.heap.size w1 w10y4) := below_call0 H0y2.out hq
      clear hq
      go_wp2_with fail
      refine HK10y4.out _ _ ⟨fun _ => H10y4.out, ?_⟩
      clear HK10y4 K
      try simp only [Act.put, List.setIfInBounds_toArray, List.set_cons_zero, List.set_cons_succ]
      refine wpAnyN_one (i := 11) (o := ?o11y4) (by kernel_rfl) ?hi11y4 ?hw11y4 ?st11y4
      case hi11y4 => rw [List.getElem?_toArray]; exact rfl
      case hw11y4 => exact rfl
      intro K hK
      have HK11y4 : Hid _ := hK
      clear hK
      go_simp
      refine HK11y4.out _ _ ⟨fun _ => (below_alloc0 H10y4.out _), ?_⟩
      clear HK11y4 K
      try simp only [Act.put, List.setIfInBounds_toArray, List.set_cons_zero, List.set_cons_succ]
      refine wpAnyN_one (i := 12) (o := ?o12y4) (by kernel_rfl) ?hi12y4 ?hw12y4 ?st12y4
      case hi12y4 => rw [List.getElem?_toArray]; exact rfl
      case hw12y4 => exact rfl
      intro K hK
      have HK12y4 : Hid _ := hK
      clear hK
      obtain ⟨⟨o0, o1, o2, o3⟩, ⟨f0, f1, f2, f3⟩, oz⟩ := Pend.facts (Pend.new' (W := w10y4) (t := 25) rfl)
      try simp only [World.size_alloc] at o0 o1 o2 o3 f0 f1 f2 f3 oz
      go_simp
      refine HK12y4.out _ _ ⟨fun h => absurd h (by decide +kernel), ?_⟩
      clear HK12y4 K
      try simp only [Act.put, List.setIfInBounds_toArray, List.set_cons_zero, List.set_cons_succ]
      refine wpAnyN_done (by kernel_rfl) ?_ _
      obtain ⟨wS, hwS⟩ : ∃ y, y = w10y4.alloc (.cells #[.int .u64 (limb t 0 : Nat), .int .u64 (limb t 1 : Nat), .int .u64 (limb t 2 : Nat), .int .u64 (limb t 3 : Nat)] 25) := ⟨_, rfl⟩
      have HT : Hid (Own4 wS (w10y4.heap.size) t ∧ Below w1.heap.size w1 wS) := by rw [hwS]; exact ⟨Own4.new' rfl, below_alloc0 H10y4.out _⟩
      rw [← hwS]
      clear hwS o0 o1 o2 o3 f0 f1 f2 f3 oz
      have HW : Hid (Below w.heap.size w wS ∧ Nums wS pa (rtL cs) ∧ Own4 wS (w10y4.heap.size) t) := ⟨below_call0 H1.out.1 HT.out.2, H1.out.2.2.1.call HT.out.2, HT.out.1⟩
      clear HT
      have p0 : ((P : Int) == 0) = false := by
        have := H1.out.2.2.2
        have := HI.out.1
        simp
        omega
      have p1 : ¬ ((P : Int) = 0) := by simpa using p0
      go_wp2_with fail
      refine (KA.out _ (H0.out.2.2.1.call HW.out.1)).mono ?_
      rintro e w10 ⟨rfl, hb10⟩
      rw [HI.out.2.1]
      have H10 : Hid (Below w.heap.size w w10 ∧ Below wS.heap.size wS w10) := ⟨below_call0 HW.out.1 hb10, hb10⟩
      clear hb10
      have p2 : ¬ ((n : Int) < (P : Int)) := by
        have := H1.out.2.2.2
        have := HI.out.2.2.1
        omega
      have p3 : ¬ ((10 : Int) < (n : Int)) := by have := HI.out.2.2.2.1; omega
      have q2 : decide (n < P) = false := decide_eq_false (by omega)
      have HO : Hid (Own4 w10 (w10y4.heap.size) t ∧ Nums w10 pa (rtL cs)) := ⟨HW.out.2.2.call H10.out.2, HW.out.2.1.call H10.out.2⟩
      obtain ⟨B, hB⟩ : ∃ B, B = w10y4.heap.size := ⟨_, rfl⟩
      rw [← hB] at HO
      rw [← hB]
      clear hB
      go_wp2_with fail
      rename_i Kr hKr
      have HKr : Hid _ := hKr
      clear hKr p0 p1 p2 p3 q2
      go_loopw [9, 56] (fun ov iv wr => ∃ k m cap : Nat, ∃ a' : Option Addr, k ≤ n ∧ iv = .int .i64 (k : Nat) ∧ ov = .slice a' m cap ∧ m = ((shL l (rtL cs)).take k).length ∧ RowN wr w10.heap.size a' ((shL l (rtL cs)).take k) cap ∧ Below w10.heap.size w10 wr) (fun _ iv _ => n - (Go.RowKit.intOf iv).toNat)
      case atStart => exact ⟨0, 0, 0, none, Nat.zero_le _, rfl, rfl, rfl, RowN.nil _ _, Below.refl _ _⟩
      case round =>
        obtain ⟨k, m', cap, a', hk, rfl, rfl, hm, hRow, hB⟩ := hrel
        rename World => wr
        have HR : Hid (m' = ((shL l (rtL cs)).take k).length ∧ RowN wr w10.heap.size a' ((shL l (rtL cs)).take k) cap ∧ Below w10.heap.size w10 wr ∧ Below w.heap.size w wr) := ⟨hm, hRow, hB, below_call0 H10.out.1 hB⟩
        clear hm hRow hB
        by_cases hlt : k < n
        · clear HKr
          have hkl : k < l.length := by rw [← H0.out.2.2.2.1]; exact hlt
          have hlt' : (k : Int) < (n : Int) := Int.ofNat_lt.2 hlt
          obtain ⟨p, o, rfl, c0, pz⟩ := (H0.out.2.2.1.call HR.out.2.2.2).get hkl
          obtain ⟨z, hz⟩ : ∃ z, z = (l[k]'hkl) := ⟨_, rfl⟩
          have hz1 := (nodes_ok HI.out.2.1).1.1 _ (List.getElem_mem hkl)
          rw [← hz] at c0 hz1
          obtain ⟨y, rfl⟩ : ∃ y : Nat, z = (y : Int) := ⟨z.toNat, by omega⟩
          obtain ⟨v, hv⟩ : ∃ v, v = hoN QQ y (rtL cs) := ⟨_, rfl⟩
          have KE : Hid (∀ w, GlobQ w → Nums w pa (rtL cs) → Calls Tryd.prog 11 #[.slice pa P pc, .int .i64 (y : Nat)] w fun e w' => e = .returned (.tuple #[.agg #[.int .u64 (limb (v) 0 : Nat), .int .u64 (limb (v) 1 : Nat), .int .u64 (limb (v) 2 : Nat), .int .u64 (limb (v) 3 : Nat)], .int .i64 0]) ∧ Below w.heap.size w w') := fun w h1 h2 => by
            have h := eval_in pa (rtL cs) pc y ⟨HI.out.1, rtL_length cs⟩ (by omega) (fun n hn => Nat.lt_trans (allQ_mem (rtL_all cs) hn) FM_Q.2.1) w h1 h2
            rw [(atV_in ⟨HI.out.1, rtL_length cs⟩ (rtL_all cs) (Nat.lt_of_le_of_lt (show y ≤ 10 by omega) (by decide))).1, (atV_in ⟨HI.out.1, rtL_length cs⟩ (rtL_all cs) (Nat.lt_of_le_of_lt (show y ≤ 10 by omega) (by decide))).2, ← hv, ← H1.out.2.2.2] at h
            exact h
          have HV : Hid ((shL l (rtL cs)).take (k + 1) = (shL l (rtL cs)).take k ++ [v]) := by
            have hks : k < (shL l (rtL cs)).length := by rw [shL_length]; exact hkl
            rw [List.take_succ_eq_append_getElem hks, shL_get hkl, ← hz, hv]
            rfl
          have HLN : Hid (((shL l (rtL cs)).take k).length ≤ 1000000) := by
            have h1 : ((shL l (rtL cs)).take k).length ≤ k := by rw [List.length_take]; omega
            have := HI.out.2.2.2.1
            unfold Hid
            omega
          clear hz hz1 hv
          go_wp2_with fail
          refine (KE.out _ (H0.out.1.call HR.out.2.2.2) (HO.out.2.call HR.out.2.2.1)).mono ?_
          rintro e w11 ⟨rfl, hb11⟩
          have HA : Hid (RowN ((w11.alloc (.cells #[.int .u64 (limb v 0 : Nat), .int .u64 (limb v 1 : Nat), .int .u64 (limb v 2 : Nat), .int .u64 (limb v 3 : Nat)] 25)).alloc (.cells #[.int .u64 (limb v 0 : Nat), .int .u64 (limb v 1 : Nat), .int .u64 (limb v 2 : Nat), .int .u64 (limb v 3 : Nat)] 25)) w10.heap.size a' ((shL l (rtL cs)).take k) cap ∧ Num4 ((w11.alloc (.cells #[.int .u64 (limb v 0 : Nat), .int .u64 (limb v 1 : Nat), .int .u64 (limb v 2 : Nat), .int .u64 (limb v 3 : Nat)] 25)).alloc (.cells #[.int .u64 (limb v 0 : Nat), .int .u64 (limb v 1 : Nat), .int .u64 (limb v 2 : Nat), .int .u64 (limb v 3 : Nat)] 25)) (w11.heap.size + 1) v ∧ Below w10.heap.size w10 ((w11.alloc (.cells #[.int .u64 (limb v 0 : Nat), .int .u64 (limb v 1 : Nat), .int .u64 (limb v 2 : Nat), .int .u64 (limb v 3 : Nat)] 25)).alloc (.cells #[.int .u64 (limb v 0 : Nat), .int .u64 (limb v 1 : Nat), .int .u64 (limb v 2 : Nat), .int .u64 (limb v 3 : Nat)] 25))) := ⟨(HR.out.2.1.call hb11).alloc.alloc, Num4.new' (by simp), below_alloc0 (below_alloc0 (below_call0 HR.out.2.2.1 hb11) _) _⟩
          clear hb11 c0 pz
          go_wp2_with (at_builtin; refine wpList_append_RowN _ rfl (.tmp 68) (.tmp 70) rfl w10.heap.size a' m' cap ((shL l (rtL cs)).take k) v rfl HR.out.1 HA.out.1 HA.out.2.2.size HLN.out (w11.heap.size + 1) 1 rfl HA.out.2.1 ?_; intro a5 m5 cap5 w5 hm5 hR5 hb5; have H5 : Hid (m5 = m' + 1 ∧ RowN w5 w10.heap.size a5 ((shL l (rtL cs)).take k ++ [v]) cap5 ∧ Below w10.heap.size w10 w5) := ⟨hm5, hR5, HA.out.2.2.trans hb5⟩; clear hm5 hR5 hb5)
          have HG : Hid (m5 = ((shL l (rtL cs)).take (k + 1)).length ∧ RowN w5 w10.heap.size a5 ((shL l (rtL cs)).take (k + 1)) cap5 ∧ Below w10.heap.size w10 w5) := by
            rw [HV.out]
            exact ⟨by rw [H5.out.1, HR.out.1, List.length_append]; rfl, H5.out.2⟩
          go_roundw
          case rel => first | exact ⟨k + 1, m5, cap5, a5, hlt, by go_num, rfl, HG.out⟩ | ((repeat apply Exists.intro); exact ⟨⟨k + 1, m5, cap5, a5, hlt, by go_num, rfl, HG.out⟩, rfl⟩)
          case measure => simp [intOf]; omega
        · obtain rfl : k = n := by omega
          have hnl : ¬ ((k : Int) < (k : Int)) := Int.lt_irrefl _
          have HF : Hid (m' = k ∧ Nums wr a' (shL l (rtL cs))) := by
            have e1 : (shL l (rtL cs)).take k = shL l (rtL cs) := List.take_of_length_le (by rw [shL_length, ← H0.out.2.2.2.1]; exact Nat.le_refl _)
            have h := HR.out
            rw [e1] at h
            exact ⟨by rw [h.1, shL_length, ← H0.out.2.2.2.1], h.2.1.nums⟩
          obtain rfl : m' = k := HF.out.1
          obtain ⟨V, hV⟩ : ∃ V, V = hoN QQ t (rtL cs) := ⟨_, rfl⟩
          obtain ⟨V0, hV0⟩ : ∃ V, V = ((rtL cs)[0]'HI.out.1) := ⟨_, rfl⟩
          have KJ : Hid (∀ w, GlobQ w → IntsAt w b l → Nums w a' (shL l (rtL cs)) → Calls Tryd.prog 18 #[.slice b m' d, .slice a' m' cap, .agg #[.int .u64 (limb (t) 0 : Nat), .int .u64 (limb (t) 1 : Nat), .int .u64 (limb (t) 2 : Nat), .int .u64 (limb (t) 3 : Nat)]] w fun e w' => e = .returned (.tuple #[.agg #[.int .u64 (limb (V) 0 : Nat), .int .u64 (limb (V) 1 : Nat), .int .u64 (limb (V) 2 : Nat), .int .u64 (limb (V) 3 : Nat)], .int .i64 0]) ∧ Below w.heap.size w w') := fun w h1 h2 h3 => by
            have h := join_in b a' l (shL l (rtL cs)) d cap t HI.out.2.2.2.2 HI.out.2.1 H0.out.2.2.2.2 (shL_length _ _) (shL_all _ _) w h1 h2 h3
            rw [joV_tells (nodes_ok HI.out.2.1).1 (rtL cs) t (by rw [← H0.out.2.2.2.1]; exact HI.out.2.2.1), ← hV, shL_length, ← H0.out.2.2.2.1] at h
            exact h
          have KT : Hid (∀ w, GlobQ w → Nums w pa (rtL cs) → Calls Tryd.prog 9 #[.slice pa P pc, .agg #[.int .u64 (limb (t) 0 : Nat), .int .u64 (limb (t) 1 : Nat), .int .u64 (limb (t) 2 : Nat), .int .u64 (limb (t) 3 : Nat)]] w fun e w' => e = .returned (.tuple #[.agg #[.int .u64 (limb (V) 0 : Nat), .int .u64 (limb (V) 1 : Nat), .int .u64 (limb (V) 2 : Nat), .int .u64 (limb (V) 3 : Nat)], .int .i64 0]) ∧ Below w.heap.size w w') := fun w h1 h2 => by
            rw [hV, H1.out.2.2.2]; exact at_in pa (rtL cs) pc t ⟨HI.out.1, rtL_length cs⟩ (rtL_all cs) H0.out.2.2.2.2 w h1 h2
          have KZ : Hid (∀ w, GlobQ w → IntsAt w b l → Nums w a' (shL l (rtL cs)) → Calls Tryd.prog 18 #[.slice b m' d, .slice a' m' cap, .agg #[.int .u64 0, .int .u64 0, .int .u64 0, .int .u64 0]] w fun e w' => e = .returned (.tuple #[.agg #[.int .u64 (limb (V0) 0 : Nat), .int .u64 (limb (V0) 1 : Nat), .int .u64 (limb (V0) 2 : Nat), .int .u64 (limb (V0) 3 : Nat)], .int .i64 0]) ∧ Below w.heap.size w w') := fun w h1 h2 h3 => by
            have h := join_in b a' l (shL l (rtL cs)) d cap 0 HI.out.2.2.2.2 HI.out.2.1 QQ_pos (shL_length _ _) (shL_all _ _) w h1 h2 h3
            rw [joV_tells (nodes_ok HI.out.2.1).1 (rtL cs) 0 (by rw [← H0.out.2.2.2.1]; exact HI.out.2.2.1), hoN_nought (rtL cs) HI.out.1 (allQ_get (rtL_all cs) HI.out.1), ← hV0, shL_length, ← H0.out.2.2.2.1, limb_nought, limb_nought, limb_nought, limb_nought] at h
            exact h
          have HV0 : Hid (V0 = ((rtL cs)[0]'HI.out.1)) := hV0
          have e1 := eq4_self' (limb V 0 : Nat) (limb V 1 : Nat) (limb V 2 : Nat) (limb V 3 : Nat)
          have e2 := eq4_self' (limb V0 0 : Nat) (limb V0 1 : Nat) (limb V0 2 : Nat) (limb V0 3 : Nat)
          have hP0 : 0 < P := by have := H1.out.2.2.2; have := HI.out.1; omega
          clear hlt hk hV hV0
          go_wp2_with fail
          refine HKr.out _ _ ?_
          clear HKr
          obtain ⟨⟨t0, t1, t2, t3⟩, _, tz⟩ := (HO.out.1.call HR.out.2.2.1).facts
          go_wp2_with fail
          refine (KJ.out _ (H0.out.1.call HR.out.2.2.2) (H0.out.2.2.1.call HR.out.2.2.2) HF.out.2).mono ?_
          rintro e w11 ⟨rfl, hb11⟩
          have H11 : Hid (Below wr.heap.size wr (w11.alloc (.cells #[.int .u64 (limb V 0 : Nat), .int .u64 (limb V 1 : Nat), .int .u64 (limb V 2 : Nat), .int .u64 (limb V 3 : Nat)] 25)) ∧ Own4 (w11.alloc (.cells #[.int .u64 (limb V 0 : Nat), .int .u64 (limb V 1 : Nat), .int .u64 (limb V 2 : Nat), .int .u64 (limb V 3 : Nat)] 25)) w11.heap.size V) := ⟨below_alloc0 hb11 _, Own4.new _ _ _⟩
          clear hb11 t0 t1 t2 t3 tz
          obtain ⟨⟨t0, t1, t2, t3⟩, _, tz⟩ := ((HO.out.1.call HR.out.2.2.1).call H11.out.1).facts
          go_wp2_with fail
          refine (KT.out _ ((H0.out.1.call HR.out.2.2.2).call H11.out.1) ((HO.out.2.call HR.out.2.2.1).call H11.out.1)).mono ?_
          rintro e w13 ⟨rfl, hb13⟩
          have H13 : Hid (Below wr.heap.size wr (w13.alloc (.cells #[.int .u64 (limb V 0 : Nat), .int .u64 (limb V 1 : Nat), .int .u64 (limb V 2 : Nat), .int .u64 (limb V 3 : Nat)] 25)) ∧ Own4 (w13.alloc (.cells #[.int .u64 (limb V 0 : Nat), .int .u64 (limb V 1 : Nat), .int .u64 (limb V 2 : Nat), .int .u64 (limb V 3 : Nat)] 25)) w11.heap.size V ∧ Own4 (w13.alloc (.cells #[.int .u64 (limb V 0 : Nat), .int .u64 (limb V 1 : Nat), .int .u64 (limb V 2 : Nat), .int .u64 (limb V 3 : Nat)] 25)) w13.heap.size V) := ⟨below_alloc0 (below_call0 H11.out.1 hb13) _, (H11.out.2.call hb13).alloc, Own4.new _ _ _⟩
          clear hb13 t0 t1 t2 t3 tz H11
          go_wp2_with fail
          refine (KZ.out _ ((H0.out.1.call HR.out.2.2.2).call H13.out.1) ((H0.out.2.2.1.call HR.out.2.2.2).call H13.out.1) (HF.out.2.call H13.out.1)).mono ?_
          rintro e w15 ⟨rfl, hb15⟩
          obtain ⟨w16, hw16⟩ : ∃ y, y = w15.alloc (.cells #[.int .u64 (limb V0 0 : Nat), .int .u64 (limb V0 1 : Nat), .int .u64 (limb V0 2 : Nat), .int .u64 (limb V0 3 : Nat)] 25) := ⟨_, rfl⟩
          have H16 : Hid (Below wr.heap.size wr w16 ∧ Own4 w16 w11.heap.size V ∧ Own4 w16 w13.heap.size V ∧ Own4 w16 w15.heap.size V0 ∧ w16 = w15.alloc (.cells #[.int .u64 (limb V0 0 : Nat), .int .u64 (limb V0 1 : Nat), .int .u64 (limb V0 2 : Nat), .int .u64 (limb V0 3 : Nat)] 25)) := by
            refine ⟨?_, ?_, ?_, ?_, hw16⟩
            · rw [hw16]; exact below_alloc0 (below_call0 H13.out.1 hb15) _
            · rw [hw16]; exact (H13.out.2.1.call hb15).alloc
            · rw [hw16]; exact (H13.out.2.2.call hb15).alloc
            · rw [hw16]; exact Own4.new _ _ _
          clear hb15 hw16 H13
          go_wp2_with fail
          rw [← H16.out.2.2.2.2]
          obtain ⟨p, o, rfl, ⟨d0, d1, d2, d3⟩, dz⟩ := ((HO.out.2.call HR.out.2.2.1).call H16.out.1).get HI.out.1
          rw [← HV0.out, Nat.zero_mul, Nat.add_zero] at d0 d1 d2 d3
          have HD : Hid (∀ w', Below w16.heap.size w16 w' → (w'.cell? ⟨p, o, none⟩ = some (.int .u64 (limb V0 0 : Nat)) ∧ w'.cell? ⟨p, o + 1, none⟩ = some (.int .u64 (limb V0 1 : Nat)) ∧ w'.cell? ⟨p, o + 2, none⟩ = some (.int .u64 (limb V0 2 : Nat)) ∧ w'.cell? ⟨p, o + 3, none⟩ = some (.int .u64 (limb V0 3 : Nat))) ∧ p < w'.heap.size) := fun w' hb => by
            have e := fun j => hb.cell (p := ⟨p, j, none⟩) dz
            exact ⟨⟨(e _).trans d0, (e _).trans d1, (e _).trans d2, (e _).trans d3⟩, Nat.lt_of_lt_of_le dz hb.size⟩
          clear d0 d1 d2 d3 dz
          refine wp_region_N (fun w' => Below w16.heap.size w16 w') 25 26 rfl (by kernel_rfl) ?_
          refine wpAnyN_takeF (i := 0) (oi := ?o0zy4) (v := ?v0zy4) ?hi0zy4 (by kernel_rfl) (by kernel_rfl) (by kernel_rfl) (by decide) ?hQ0zy4 ?hy0zy4 (Below.drew (Below.refl _ _)) ?more0zy4
          case hi0zy4 => rw [List.getElem?_toArray]; exact rfl
          case hQ0zy4 => exact fun _ _ _ h => h
          case hy0zy4 =>
            refine Or.inl ⟨by rfl, ?_⟩
            intro w' hSw
            clear hSw
            go_simp
            try with_reducible rfl
          simp only [Act.put, List.setIfInBounds_toArray, List.set_cons_zero, List.set_cons_succ]
          refine wpAnyN_takeF (i := 1) (oi := ?o1zy4) (v := ?v1zy4) ?hi1zy4 (by kernel_rfl) (by kernel_rfl) (by kernel_rfl) (by decide) ?hQ1zy4 ?hy1zy4 (Below.drew (Below.refl _ _)) ?more1zy4
          case hi1zy4 => rw [List.getElem?_toArray]; exact rfl
          case hQ1zy4 => exact fun _ _ _ h => h
          case hy1zy4 =>
            refine Or.inl ⟨by rfl, ?_⟩
            intro w' hSw
            clear hSw
            go_simp
            try with_reducible rfl
          simp only [Act.put, List.setIfInBounds_toArray, List.set_cons_zero, List.set_cons_succ]
          refine wpAnyN_takeF (i := 2) (oi := ?o2zy4) (v := ?v2zy4) ?hi2zy4 (by kernel_rfl) (by kernel_rfl) (by kernel_rfl) (by decide) ?hQ2zy4 ?hy2zy4 (Below.drew (Below.refl _ _)) ?more2zy4
          case hi2zy4 => rw [List.getElem?_toArray]; exact rfl
          case hQ2zy4 => exact fun _ _ _ h => h
          case hy2zy4 =>
            refine Or.inl ⟨by rfl, ?_⟩
            intro w' hSw
            clear hSw
            go_simp
            try with_reducible rfl
          simp only [Act.put, List.setIfInBounds_toArray, List.set_cons_zero, List.set_cons_succ]
          refine wpAnyN_takeF (i := 3) (oi := ?o3zy4) (v := ?v3zy4) ?hi3zy4 (by kernel_rfl) (by kernel_rfl) (by kernel_rfl) (by decide) ?hQ3zy4 ?hy3zy4 (Below.drew (Below.refl _ _)) ?more3zy4
          case hi3zy4 => rw [List.getElem?_toArray]; exact rfl
          case hQ3zy4 => exact fun _ _ _ h => h
          case hy3zy4 =>
            refine Or.inl ⟨by rfl, ?_⟩
            intro w' hSw
            clear hSw
            go_simp
            try with_reducible rfl
          simp only [Act.put, List.setIfInBounds_toArray, List.set_cons_zero, List.set_cons_succ]
          refine wpAnyN_takeF (i := 4) (oi := ?o4zy4) (v := ?v4zy4) ?hi4zy4 (by kernel_rfl) (by kernel_rfl) (by kernel_rfl) (by decide) ?hQ4zy4 ?hy4zy4 (Below.drew (Below.refl _ _)) ?more4zy4
          case hi4zy4 => rw [List.getElem?_toArray]; exact rfl
          case hQ4zy4 => exact fun _ _ _ h => h
          case hy4zy4 =>
            refine Or.inl ⟨by rfl, ?_⟩
            intro w' hSw
            clear hSw
            go_simp
            try with_reducible rfl
          simp only [Act.put, List.setIfInBounds_toArray, List.set_cons_zero, List.set_cons_succ]
          refine wpAnyN_takeF (i := 5) (oi := ?o5zy4) (v := ?v5zy4) ?hi5zy4 (by kernel_rfl) (by kernel_rfl) (by kernel_rfl) (by decide) ?hQ5zy4 ?hy5zy4 (Below.drew (Below.refl _ _)) ?more5zy4
          case hi5zy4 => rw [List.getElem?_toArray]; exact rfl
          case hQ5zy4 => exact fun _ _ _ h => h
          case hy5zy4 =>
            refine Or.inl ⟨by rfl, ?_⟩
            intro w' hSw
            clear hSw
            go_simp
            try with_reducible rfl
          simp only [Act.put, List.setIfInBounds_toArray, List.set_cons_zero, List.set_cons_succ]
          refine wpAnyN_takeF (i := 6) (oi := ?o6zy4) (v := ?v6zy4) ?hi6zy4 (by kernel_rfl) (by kernel_rfl) (by kernel_rfl) (by decide) ?hQ6zy4 ?hy6zy4 (Below.drew (Below.refl _ _)) ?more6zy4
          case hi6zy4 => rw [List.getElem?_toArray]; exact rfl
          case hQ6zy4 => exact fun _ _ _ h => h
          case hy6zy4 =>
            refine Or.inl ⟨by rfl, ?_⟩
            intro w' hSw
            clear hSw
            go_simp
            try with_reducible rfl
          simp only [Act.put, List.setIfInBounds_toArray, List.set_cons_zero, List.set_cons_succ]
          refine wpAnyN_takeF (i := 7) (oi := ?o7zy4) (v := ?v7zy4) ?hi7zy4 (by kernel_rfl) (by kernel_rfl) (by kernel_rfl) (by decide) ?hQ7zy4 ?hy7zy4 (Below.drew (Below.refl _ _)) ?more7zy4
          case hi7zy4 => rw [List.getElem?_toArray]; exact rfl
          case hQ7zy4 => exact fun _ _ _ h => h
          case hy7zy4 =>
            refine Or.inl ⟨by rfl, ?_⟩
            intro w' hSw
            clear hSw
            go_simp
            try with_reducible rfl
          simp only [Act.put, List.setIfInBounds_toArray, List.set_cons_zero, List.set_cons_succ]
          refine wpAnyN_takeF (i := 8) (oi := ?o8zy4) (v := ?v8zy4) ?hi8zy4 (by kernel_rfl) (by kernel_rfl) (by kernel_rfl) (by decide) ?hQ8zy4 ?hy8zy4 (Below.drew (Below.refl _ _)) ?more8zy4
          case hi8zy4 => rw [List.getElem?_toArray]; exact rfl
          case hQ8zy4 => exact fun _ _ _ h => h
          case hy8zy4 =>
            refine Or.inl ⟨by rfl, ?_⟩
            intro w' hSw
            clear hSw
            go_simp
            try with_reducible rfl
          simp only [Act.put, List.setIfInBounds_toArray, List.set_cons_zero, List.set_cons_succ]
          refine wpAnyN_takeF (i := 9) (oi := ?o9zy4) (v := ?v9zy4) ?hi9zy4 (by kernel_rfl) (by kernel_rfl) (by kernel_rfl) (by decide) ?hQ9zy4 ?hy9zy4 (Below.drew (Below.refl _ _)) ?more9zy4
          case hi9zy4 => rw [List.getElem?_toArray]; exact rfl
          case hQ9zy4 => exact fun _ _ _ h => h
          case hy9zy4 =>
            refine Or.inl ⟨by rfl, ?_⟩
            intro w' hSw
            clear hSw
            go_simp
            try with_reducible rfl
          simp only [Act.put, List.setIfInBounds_toArray, List.set_cons_zero, List.set_cons_succ]
          refine wpAnyN_takeF (i := 10) (oi := ?o10zy4) (v := ?v10zy4) ?hi10zy4 (by kernel_rfl) (by kernel_rfl) (by kernel_rfl) (by decide) ?hQ10zy4 ?hy10zy4 (Below.drew (Below.refl _ _)) ?more10zy4
          case hi10zy4 => rw [List.getElem?_toArray]; exact rfl
          case hQ10zy4 => exact fun _ _ _ h => h
          case hy10zy4 =>
            refine Or.inl ⟨by rfl, ?_⟩
            intro w' hSw
            clear hSw
            go_simp
            try with_reducible rfl
          simp only [Act.put, List.setIfInBounds_toArray, List.set_cons_zero, List.set_cons_succ]
          refine wpAnyN_takeL (i := 11) (oi := ?o11zy4) (v := ?v11zy4) [13, 14, 15, 22, 23, 25] ?hi11zy4 (by kernel_rfl) (by kernel_rfl) (by kernel_rfl) (by kernel_rfl) (by decide) (by decide) (by kernel_rfl) ?hQ11zy4 ?hy11zy4 (Below.drew (Below.refl _ _)) ?more11zy4
          case hi11zy4 => rw [List.getElem?_toArray]; exact rfl
          case hQ11zy4 => exact fun _ _ _ h => h
          case hy11zy4 =>
            refine Or.inl ⟨by rfl, ?_⟩
            intro w' hSw
            obtain ⟨⟨o0, o1, o2, o3⟩, _, oz⟩ := (H16.out.2.1.call hSw).facts
            obtain ⟨⟨m0, m1, m2, m3⟩, _, mz⟩ := (H16.out.2.2.1.call hSw).facts
            obtain ⟨⟨s0, s1, s2, s3⟩, _, sz⟩ := (H16.out.2.2.2.1.call hSw).facts
            obtain ⟨⟨d0, d1, d2, d3⟩, dz⟩ := HD.out _ hSw
            clear hSw
            go_simp
            try with_reducible rfl
          simp only [Act.put, List.setIfInBounds_toArray, List.set_cons_zero, List.set_cons_succ]
          refine wpAnyN_takeL (i := 12) (oi := ?o12zy4) (v := ?v12zy4) [13, 14, 15, 22, 23, 25] ?hi12zy4 (by kernel_rfl) (by kernel_rfl) (by kernel_rfl) (by kernel_rfl) (by decide) (by decide) (by kernel_rfl) ?hQ12zy4 ?hy12zy4 (Below.drew (Below.refl _ _)) ?more12zy4
          case hi12zy4 => rw [List.getElem?_toArray]; exact rfl
          case hQ12zy4 => exact fun _ _ _ h => h
          case hy12zy4 =>
            refine Or.inl ⟨by rfl, ?_⟩
            intro w' hSw
            obtain ⟨⟨o0, o1, o2, o3⟩, _, oz⟩ := (H16.out.2.1.call hSw).facts
            obtain ⟨⟨m0, m1, m2, m3⟩, _, mz⟩ := (H16.out.2.2.1.call hSw).facts
            obtain ⟨⟨s0, s1, s2, s3⟩, _, sz⟩ := (H16.out.2.2.2.1.call hSw).facts
            obtain ⟨⟨d0, d1, d2, d3⟩, dz⟩ := HD.out _ hSw
            clear hSw
            go_simp
            try with_reducible rfl
          simp only [Act.put, List.setIfInBounds_toArray, List.set_cons_zero, List.set_cons_succ]
          refine wpAnyN_takeF (i := 13) (oi := ?o13zy4) (v := ?v13zy4) ?hi13zy4 (by kernel_rfl) (by kernel_rfl) (by kernel_rfl) (by decide) ?hQ13zy4 ?hy13zy4 (Below.drew (Below.refl _ _)) ?more13zy4
          case hi13zy4 => rw [List.getElem?_toArray]; exact rfl
          case hQ13zy4 => exact fun _ _ _ h => h
          case hy13zy4 =>
            refine Or.inl ⟨by rfl, ?_⟩
            intro w' hSw
            clear hSw
            go_simp
            try with_reducible rfl
          simp only [Act.put, List.setIfInBounds_toArray, List.set_cons_zero, List.set_cons_succ]
          refine wpAnyN_takeF (i := 14) (oi := ?o14zy4) (v := ?v14zy4) ?hi14zy4 (by kernel_rfl) (by kernel_rfl) (by kernel_rfl) (by decide) ?hQ14zy4 ?hy14zy4 (Below.drew (Below.refl _ _)) ?more14zy4
          case hi14zy4 => rw [List.getElem?_toArray]; exact rfl
          case hQ14zy4 => exact fun _ _ _ h => h
          case hy14zy4 =>
            refine Or.inl ⟨by rfl, ?_⟩
            intro w' hSw
            clear hSw
            go_simp
            try with_reducible rfl
          simp only [Act.put, List.setIfInBounds_toArray, List.set_cons_zero, List.set_cons_succ]
          refine wpAnyN_takeF (i := 15) (oi := ?o15zy4) (v := ?v15zy4) ?hi15zy4 (by kernel_rfl) (by kernel_rfl) (by kernel_rfl) (by decide) ?hQ15zy4 ?hy15zy4 (Below.drew (Below.refl _ _)) ?more15zy4
          case hi15zy4 => rw [List.getElem?_toArray]; exact rfl
          case hQ15zy4 => exact fun _ _ _ h => h
          case hy15zy4 =>
            refine Or.inl ⟨by rfl, ?_⟩
            intro w' hSw
            clear hSw
            go_simp
            try with_reducible rfl
          simp only [Act.put, List.setIfInBounds_toArray, List.set_cons_zero, List.set_cons_succ]
          refine wpAnyN_takeL (i := 16) (oi := ?o16zy4) (v := ?v16zy4) [20, 21, 22, 23, 25] ?hi16zy4 (by kernel_rfl) (by kernel_rfl) (by kernel_rfl) (by kernel_rfl) (by decide) (by decide) (by kernel_rfl) ?hQ16zy4 ?hy16zy4 (Below.drew (Below.refl _ _)) ?more16zy4
          case hi16zy4 => rw [List.getElem?_toArray]; exact rfl
          case hQ16zy4 => exact fun _ _ _ h => h
          case hy16zy4 =>
            refine Or.inl ⟨by rfl, ?_⟩
            intro w' hSw
            obtain ⟨⟨o0, o1, o2, o3⟩, _, oz⟩ := (H16.out.2.1.call hSw).facts
            obtain ⟨⟨m0, m1, m2, m3⟩, _, mz⟩ := (H16.out.2.2.1.call hSw).facts
            obtain ⟨⟨s0, s1, s2, s3⟩, _, sz⟩ := (H16.out.2.2.2.1.call hSw).facts
            obtain ⟨⟨d0, d1, d2, d3⟩, dz⟩ := HD.out _ hSw
            clear hSw
            go_simp
            try with_reducible rfl
          simp only [Act.put, List.setIfInBounds_toArray, List.set_cons_zero, List.set_cons_succ]
          refine wpAnyN_takeF (i := 17) (oi := ?o17zy4) (v := ?v17zy4) ?hi17zy4 (by kernel_rfl) (by kernel_rfl) (by kernel_rfl) (by decide) ?hQ17zy4 ?hy17zy4 (Below.drew (Below.refl _ _)) ?more17zy4
          case hi17zy4 => rw [List.getElem?_toArray]; exact rfl
          case hQ17zy4 => exact fun _ _ _ h => h
          case hy17zy4 =>
            refine Or.inl ⟨by rfl, ?_⟩
            intro w' hSw
            clear hSw
            go_simp
            try with_reducible rfl
          simp only [Act.put, List.setIfInBounds_toArray, List.set_cons_zero, List.set_cons_succ]
          refine wpAnyN_takeF (i := 18) (oi := ?o18zy4) (v := ?v18zy4) ?hi18zy4 (by kernel_rfl) (by kernel_rfl) (by kernel_rfl) (by decide) ?hQ18zy4 ?hy18zy4 (Below.drew (Below.refl _ _)) ?more18zy4
          case hi18zy4 => rw [List.getElem?_toArray]; exact rfl
          case hQ18zy4 => exact fun _ _ _ h => h
          case hy18zy4 =>
            refine Or.inl ⟨by rfl, ?_⟩
            intro w' hSw
            clear hSw
            go_simp
            try with_reducible rfl
          simp only [Act.put, List.setIfInBounds_toArray, List.set_cons_zero, List.set_cons_succ]
          refine wpAnyN_takeL (i := 19) (oi := ?o19zy4) (v := ?v19zy4) [20, 21, 22, 23, 25] ?hi19zy4 (by kernel_rfl) (by kernel_rfl) (by kernel_rfl) (by kernel_rfl) (by decide) (by decide) (by kernel_rfl) ?hQ19zy4 ?hy19zy4 (Below.drew (Below.refl _ _)) ?more19zy4
          case hi19zy4 => rw [List.getElem?_toArray]; exact rfl
          case hQ19zy4 => exact fun _ _ _ h => h
          case hy19zy4 =>
            refine Or.inl ⟨by rfl, ?_⟩
            intro w' hSw
            obtain ⟨⟨o0, o1, o2, o3⟩, _, oz⟩ := (H16.out.2.1.call hSw).facts
            obtain ⟨⟨m0, m1, m2, m3⟩, _, mz⟩ := (H16.out.2.2.1.call hSw).facts
            obtain ⟨⟨s0, s1, s2, s3⟩, _, sz⟩ := (H16.out.2.2.2.1.call hSw).facts
            obtain ⟨⟨d0, d1, d2, d3⟩, dz⟩ := HD.out _ hSw
            clear hSw
            go_simp
            try with_reducible rfl
          simp only [Act.put, List.setIfInBounds_toArray, List.set_cons_zero, List.set_cons_succ]
          refine wpAnyN_takeF (i := 20) (oi := ?o20zy4) (v := ?v20zy4) ?hi20zy4 (by kernel_rfl) (by kernel_rfl) (by kernel_rfl) (by decide) ?hQ20zy4 ?hy20zy4 (Below.drew (Below.refl _ _)) ?more20zy4
          case hi20zy4 => rw [List.getElem?_toArray]; exact rfl
          case hQ20zy4 => exact fun _ _ _ h => h
          case hy20zy4 =>
            refine Or.inl ⟨by rfl, ?_⟩
            intro w' hSw
            clear hSw
            go_simp
            try with_reducible rfl
          simp only [Act.put, List.setIfInBounds_toArray, List.set_cons_zero, List.set_cons_succ]
          refine wpAnyN_takeF (i := 21) (oi := ?o21zy4) (v := ?v21zy4) ?hi21zy4 (by kernel_rfl) (by kernel_rfl) (by kernel_rfl) (by decide) ?hQ21zy4 ?hy21zy4 (Below.drew (Below.refl _ _)) ?more21zy4
          case hi21zy4 => rw [List.getElem?_toArray]; exact rfl
          case hQ21zy4 => exact fun _ _ _ h => h
          case hy21zy4 =>
            refine Or.inl ⟨by rfl, ?_⟩
            intro w' hSw
            clear hSw
            go_simp
            try with_reducible rfl
          simp only [Act.put, List.setIfInBounds_toArray, List.set_cons_zero, List.set_cons_succ]
          refine wpAnyN_takeF (i := 22) (oi := ?o22zy4) (v := ?v22zy4) ?hi22zy4 (by kernel_rfl) (by kernel_rfl) (by kernel_rfl) (by decide) ?hQ22zy4 ?hy22zy4 (Below.drew (Below.refl _ _)) ?more22zy4
          case hi22zy4 => rw [List.getElem?_toArray]; exact rfl
          case hQ22zy4 => exact fun _ _ _ h => h
          case hy22zy4 =>
            refine Or.inl ⟨by rfl, ?_⟩
            intro w' hSw
            clear hSw
            go_simp
            try with_reducible rfl
          simp only [Act.put, List.setIfInBounds_toArray, List.set_cons_zero, List.set_cons_succ]
          refine wpAnyN_one (i := 23) (o := ?o23zy4) (by kernel_rfl) ?hi23zy4 ?hw23zy4 ?st23zy4
          case hi23zy4 => rw [List.getElem?_toArray]; exact rfl
          case hw23zy4 => exact rfl
          intro K hK
          have HK23 : Hid _ := hK
          clear hK
          go_simp
          refine (KL.out _ (GlobQ.drew ((H0.out.1.call HR.out.2.2.2).call H16.out.1))).mono ?_
          rintro e w17 ⟨rfl, hq⟩
          have H17 : Hid (Below w16.heap.size w16 w17) := below_call0 (Below.drew (Below.refl _ _)) hq
          clear hq
          go_wp2_with fail
          refine HK23.out _ _ ⟨fun _ => H17.out, ?_⟩
          clear HK23 K
          try simp only [Act.put, List.setIfInBounds_toArray, List.set_cons_zero, List.set_cons_succ]
          refine wpAnyN_takeF (i := 24) (oi := ?o24zy4) (v := ?v24zy4) ?hi24zy4 (by kernel_rfl) (by kernel_rfl) (by kernel_rfl) (by decide) ?hQ24zy4 ?hy24zy4 H17.out ?more24zy4
          case hi24zy4 => rw [List.getElem?_toArray]; exact rfl
          case hQ24zy4 => exact fun _ _ _ h => h
          case hy24zy4 =>
            refine Or.inl ⟨by rfl, ?_⟩
            intro w' hSw
            clear hSw
            go_simp
            try with_reducible rfl
          simp only [Act.put, List.setIfInBounds_toArray, List.set_cons_zero, List.set_cons_succ]
          refine wpAnyN_one (i := 25) (o := ?o25zy4) (by kernel_rfl) ?hi25zy4 ?hw25zy4 ?st25zy4
          case hi25zy4 => rw [List.getElem?_toArray]; exact rfl
          case hw25zy4 => exact rfl
          intro K hK
          have HK25 : Hid _ := hK
          clear hK
          go_simp
          refine HK25.out _ _ ⟨fun h => absurd h (by decide +kernel), ?_⟩
          clear HK25 K
          try simp only [Act.put, List.setIfInBounds_toArray, List.set_cons_zero, List.set_cons_succ]
          refine wpAnyN_done (by kernel_rfl) ?_ _
          go_wp2_with fail
          go_ret
          exact ⟨rfl, below_call0 (below_call0 HR.out.2.2.2 H16.out.1) H17.out⟩
    case st11y2x3 =>
      intro K hK
      have HK11y5 : Hid _ := hK
      clear hK
      go_simp
      refine HK11y5.out _ _ ⟨fun _ => (below_alloc0 H0y2.out _), ?_⟩
      clear HK11y5 K
      try simp only [Act.put, List.setIfInBounds_toArray, List.set_cons_zero, List.set_cons_succ]
      refine wpAnyN_one (i := 10) (o := ?o10y5) (by kernel_rfl) ?hi10y5 ?hw10y5 ?st10y5
      case hi10y5 => rw [List.getElem?_toArray]; exact rfl
      case hw10y5 => exact rfl
      intro K hK
      have HK10y5 : Hid _ := hK
      clear hK
      go_simp
      refine (KD.out _).mono ?_
      rintro e w10y5 ⟨rfl, hq⟩
      have H10y5 : Hid (Below w1.heap.size w1 w10y5) := below_call0 (below_alloc0 H0y2.out _) hq
      have P10y5 : Hid (Pend w10y5 (w0y2.heap.size)) := Pend.call (Pend.new' (W := w0y2) (t := 25) rfl) hq
      clear hq
      go_wp2_with fail
      refine HK10y5.out _ _ ⟨fun _ => H10y5.out, ?_⟩
      clear HK10y5 K
      try simp only [Act.put, List.setIfInBounds_toArray, List.set_cons_zero, List.set_cons_succ]
      refine wpAnyN_one (i := 12) (o := ?o12y5) (by kernel_rfl) ?hi12y5 ?hw12y5 ?st12y5
      case hi12y5 => rw [List.getElem?_toArray]; exact rfl
      case hw12y5 => exact rfl
      intro K hK
      have HK12y5 : Hid _ := hK
      clear hK
      obtain ⟨⟨o0, o1, o2, o3⟩, ⟨f0, f1, f2, f3⟩, oz⟩ := Pend.facts P10y5.out
      try simp only [World.size_alloc] at o0 o1 o2 o3 f0 f1 f2 f3 oz
      go_simp
      refine HK12y5.out _ _ ⟨fun h => absurd h (by decide +kernel), ?_⟩
      clear HK12y5 K
      try simp only [Act.put, List.setIfInBounds_toArray, List.set_cons_zero, List.set_cons_succ]
      refine wpAnyN_done (by kernel_rfl) ?_ _
      obtain ⟨wS, hwS⟩ : ∃ y, y = ((((w10y5.setCell ⟨w0y2.heap.size, 0, none⟩ (.int .u64 (limb t 0 : Nat))).setCell ⟨w0y2.heap.size, 1, none⟩ (.int .u64 (limb t 1 : Nat))).setCell ⟨w0y2.heap.size, 2, none⟩ (.int .u64 (limb t 2 : Nat))).setCell ⟨w0y2.heap.size, 3, none⟩ (.int .u64 (limb t 3 : Nat))) := ⟨_, rfl⟩
      have HT : Hid (Own4 wS (w0y2.heap.size) t ∧ Below w1.heap.size w1 wS) := by rw [hwS]; exact ⟨Pend.own P10y5.out, Below.setCell (Below.setCell (Below.setCell (Below.setCell H10y5.out (Below.size H0y2.out) _) (Below.size H0y2.out) _) (Below.size H0y2.out) _) (Below.size H0y2.out) _⟩
      rw [← hwS]
      clear hwS o0 o1 o2 o3 f0 f1 f2 f3 oz
      have HW : Hid (Below w.heap.size w wS ∧ Nums wS pa (rtL cs) ∧ Own4 wS (w0y2.heap.size) t) := ⟨below_call0 H1.out.1 HT.out.2, H1.out.2.2.1.call HT.out.2, HT.out.1⟩
      clear HT
      have p0 : ((P : Int) == 0) = false := by
        have := H1.out.2.2.2
        have := HI.out.1
        simp
        omega
      have p1 : ¬ ((P : Int) = 0) := by simpa using p0
      go_wp2_with fail
      refine (KA.out _ (H0.out.2.2.1.call HW.out.1)).mono ?_
      rintro e w10 ⟨rfl, hb10⟩
      rw [HI.out.2.1]
      have H10 : Hid (Below w.heap.size w w10 ∧ Below wS.heap.size wS w10) := ⟨below_call0 HW.out.1 hb10, hb10⟩
      clear hb10
      have p2 : ¬ ((n : Int) < (P : Int)) := by
        have := H1.out.2.2.2
        have := HI.out.2.2.1
        omega
      have p3 : ¬ ((10 : Int) < (n : Int)) := by have := HI.out.2.2.2.1; omega
      have q2 : decide (n < P) = false := decide_eq_false (by omega)
      have HO : Hid (Own4 w10 (w0y2.heap.size) t ∧ Nums w10 pa (rtL cs)) := ⟨HW.out.2.2.call H10.out.2, HW.out.2.1.call H10.out.2⟩
      obtain ⟨B, hB⟩ : ∃ B, B = w0y2.heap.size := ⟨_, rfl⟩
      rw [← hB] at HO
      rw [← hB]
      clear hB
      go_wp2_with fail
      rename_i Kr hKr
      have HKr : Hid _ := hKr
      clear hKr p0 p1 p2 p3 q2
      go_loopw [9, 56] (fun ov iv wr => ∃ k m cap : Nat, ∃ a' : Option Addr, k ≤ n ∧ iv = .int .i64 (k : Nat) ∧ ov = .slice a' m cap ∧ m = ((shL l (rtL cs)).take k).length ∧ RowN wr w10.heap.size a' ((shL l (rtL cs)).take k) cap ∧ Below w10.heap.size w10 wr) (fun _ iv _ => n - (Go.RowKit.intOf iv).toNat)
      case atStart => exact ⟨0, 0, 0, none, Nat.zero_le _, rfl, rfl, rfl, RowN.nil _ _, Below.refl _ _⟩
      case round =>
        obtain ⟨k, m', cap, a', hk, rfl, rfl, hm, hRow, hB⟩ := hrel
        rename World => wr
        have HR : Hid (m' = ((shL l (rtL cs)).take k).length ∧ RowN wr w10.heap.size a' ((shL l (rtL cs)).take k) cap ∧ Below w10.heap.size w10 wr ∧ Below w.heap.size w wr) := ⟨hm, hRow, hB, below_call0 H10.out.1 hB⟩
        clear hm hRow hB
        by_cases hlt : k < n
        · clear HKr
          have hkl : k < l.length := by rw [← H0.out.2.2.2.1]; exact hlt
          have hlt' : (k : Int) < (n : Int) := Int.ofNat_lt.2 hlt
          obtain ⟨p, o, rfl, c0, pz⟩ := (H0.out.2.2.1.call HR.out.2.2.2).get hkl
          obtain ⟨z, hz⟩ : ∃ z, z = (l[k]'hkl) := ⟨_, rfl⟩
          have hz1 := (nodes_ok HI.out.2.1).1.1 _ (List.getElem_mem hkl)
          rw [← hz] at c0 hz1
          obtain ⟨y, rfl⟩ : ∃ y : Nat, z = (y : Int) := ⟨z.toNat, by omega⟩
          obtain ⟨v, hv⟩ : ∃ v, v = hoN QQ y (rtL cs) := ⟨_, rfl⟩
          have KE : Hid (∀ w, GlobQ w → Nums w pa (rtL cs) → Calls Tryd.prog 11 #[.slice pa P pc, .int .i64 (y : Nat)] w fun e w' => e = .returned (.tuple #[.agg #[.int .u64 (limb (v) 0 : Nat), .int .u64 (limb (v) 1 : Nat), .int .u64 (limb (v) 2 : Nat), .int .u64 (limb (v) 3 : Nat)], .int .i64 0]) ∧ Below w.heap.size w w') := fun w h1 h2 => by
            have h := eval_in pa (rtL cs) pc y ⟨HI.out.1, rtL_length cs⟩ (by omega) (fun n hn => Nat.lt_trans (allQ_mem (rtL_all cs) hn) FM_Q.2.1) w h1 h2
            rw [(atV_in ⟨HI.out.1, rtL_length cs⟩ (rtL_all cs) (Nat.lt_of_le_of_lt (show y ≤ 10 by omega) (by decide))).1, (atV_in ⟨HI.out.1, rtL_length cs⟩ (rtL_all cs) (Nat.lt_of_le_of_lt (show y ≤ 10 by omega) (by decide))).2, ← hv, ← H1.out.2.2.2] at h
            exact h
          have HV : Hid ((shL l (rtL cs)).take (k + 1) = (shL l (rtL cs)).take k ++ [v]) := by
            have hks : k < (shL l (rtL cs)).length := by rw [shL_length]; exact hkl
            rw [List.take_succ_eq_append_getElem hks, shL_get hkl, ← hz, hv]
            rfl
          have HLN : Hid (((shL l (rtL cs)).take k).length ≤ 1000000) := by
            have h1 : ((shL l (rtL cs)).take k).length ≤ k := by rw [List.length_take]; omega
            have := HI.out.2.2.2.1
            unfold Hid
            omega
          clear hz hz1 hv
          go_wp2_with fail
          refine (KE.out _ (H0.out.1.call HR.out.2.2.2) (HO.out.2.call HR.out.2.2.1)).mono ?_
          rintro e w11 ⟨rfl, hb11⟩
          have HA : Hid (RowN ((w11.alloc (.cells #[.int .u64 (limb v 0 : Nat), .int .u64 (limb v 1 : Nat), .int .u64 (limb v 2 : Nat), .int .u64 (limb v 3 : Nat)] 25)).alloc (.cells #[.int .u64 (limb v 0 : Nat), .int .u64 (limb v 1 : Nat), .int .u64 (limb v 2 : Nat), .int .u64 (limb v 3 : Nat)] 25)) w10.heap.size a' ((shL l (rtL cs)).take k) cap ∧ Num4 ((w11.alloc (.cells #[.int .u64 (limb v 0 : Nat), .int .u64 (limb v 1 : Nat), .int .u64 (limb v 2 : Nat), .int .u64 (limb v 3 : Nat)] 25)).alloc (.cells #[.int .u64 (limb v 0 : Nat), .int .u64 (limb v 1 : Nat), .int .u64 (limb v 2 : Nat), .int .u64 (limb v 3 : Nat)] 25)) (w11.heap.size + 1) v ∧ Below w10.heap.size w10 ((w11.alloc (.cells #[.int .u64 (limb v 0 : Nat), .int .u64 (limb v 1 : Nat), .int .u64 (limb v 2 : Nat), .int .u64 (limb v 3 : Nat)] 25)).alloc (.cells #[.int .u64 (limb v 0 : Nat), .int .u64 (limb v 1 : Nat), .int .u64 (limb v 2 : Nat), .int .u64 (limb v 3 : Nat)] 25))) := ⟨(HR.out.2.1.call hb11).alloc.alloc, Num4.new' (by simp), below_alloc0 (below_alloc0 (below_call0 HR.out.2.2.1 hb11) _) _⟩
          clear hb11 c0 pz
          go_wp2_with (at_builtin; refine wpList_append_RowN _ rfl (.tmp 68) (.tmp 70) rfl w10.heap.size a' m' cap ((shL l (rtL cs)).take k) v rfl HR.out.1 HA.out.1 HA.out.2.2.size HLN.out (w11.heap.size + 1) 1 rfl HA.out.2.1 ?_; intro a5 m5 cap5 w5 hm5 hR5 hb5; have H5 : Hid (m5 = m' + 1 ∧ RowN w5 w10.heap.size a5 ((shL l (rtL cs)).take k ++ [v]) cap5 ∧ Below w10.heap.size w10 w5) := ⟨hm5, hR5, HA.out.2.2.trans hb5⟩; clear hm5 hR5 hb5)
          have HG : Hid (m5 = ((shL l (rtL cs)).take (k + 1)).length ∧ RowN w5 w10.heap.size a5 ((shL l (rtL cs)).take (k + 1)) cap5 ∧ Below w10.heap.size w10 w5) := by
            rw [HV.out]
            exact ⟨by rw [H5.out.1, HR.out.1, List.length_append]; rfl, H5.out.2⟩
          go_roundw
          case rel => first | exact ⟨k + 1, m5, cap5, a5, hlt, by go_num, rfl, HG.out⟩ | ((repeat apply Exists.intro); exact ⟨⟨k + 1, m5, cap5, a5, hlt, by go_num, rfl, HG.out⟩, rfl⟩)
          case measure => simp [intOf]; omega
        · obtain rfl : k = n := by omega
          have hnl : ¬ ((k : Int) < (k : Int)) := Int.lt_irrefl _
          have HF : Hid (m' = k ∧ Nums wr a' (shL l (rtL cs))) := by
            have e1 : (shL l (rtL cs)).take k = shL l (rtL cs) := List.take_of_length_le (by rw [shL_length, ← H0.out.2.2.2.1]; exact Nat.le_refl _)
            have h := HR.out
            rw [e1] at h
            exact ⟨by rw [h.1, shL_length, ← H0.out.2.2.2.1], h.2.1.nums⟩
          obtain rfl : m' = k := HF.out.1
          obtain ⟨V, hV⟩ : ∃ V, V = hoN QQ t (rtL cs) := ⟨_, rfl⟩
          obtain ⟨V0, hV0⟩ : ∃ V, V = ((rtL cs)[0]'HI.out.1) := ⟨_, rfl⟩
          have KJ : Hid (∀ w, GlobQ w → IntsAt w b l → Nums w a' (shL l (rtL cs)) → Calls Tryd.prog 18 #[.slice b m' d, .slice a' m' cap, .agg #[.int .u64 (limb (t) 0 : Nat), .int .u64 (limb (t) 1 : Nat), .int .u64 (limb (t) 2 : Nat), .int .u64 (limb (t) 3 : Nat)]] w fun e w' => e = .returned (.tuple #[.agg #[.int .u64 (limb (V) 0 : Nat), .int .u64 (limb (V) 1 : Nat), .int .u64 (limb (V) 2 : Nat), .int .u64 (limb (V) 3 : Nat)], .int .i64 0]) ∧ Below w.heap.size w w') := fun w h1 h2 h3 => by
            have h := join_in b a' l (shL l (rtL cs)) d cap t HI.out.2.2.2.2 HI.out.2.1 H0.out.2.2.2.2 (shL_length _ _) (shL_all _ _) w h1 h2 h3
            rw [joV_tells (nodes_ok HI.out.2.1).1 (rtL cs) t (by rw [← H0.out.2.2.2.1]; exact HI.out.2.2.1), ← hV, shL_length, ← H0.out.2.2.2.1] at h
            exact h
          have KT : Hid (∀ w, GlobQ w → Nums w pa (rtL cs) → Calls Tryd.prog 9 #[.slice pa P pc, .agg #[.int .u64 (limb (t) 0 : Nat), .int .u64 (limb (t) 1 : Nat), .int .u64 (limb (t) 2 : Nat), .int .u64 (limb (t) 3 : Nat)]] w fun e w' => e = .returned (.tuple #[.agg #[.int .u64 (limb (V) 0 : Nat), .int .u64 (limb (V) 1 : Nat), .int .u64 (limb (V) 2 : Nat), .int .u64 (limb (V) 3 : Nat)], .int .i64 0]) ∧ Below w.heap.size w w') := fun w h1 h2 => by
            rw [hV, H1.out.2.2.2]; exact at_in pa (rtL cs) pc t ⟨HI.out.1, rtL_length cs⟩ (rtL_all cs) H0.out.2.2.2.2 w h1 h2
          have KZ : Hid (∀ w, GlobQ w → IntsAt w b l → Nums w a' (shL l (rtL cs)) → Calls Tryd.prog 18 #[.slice b m' d, .slice a' m' cap, .agg #[.int .u64 0, .int .u64 0, .int .u64 0, .int .u64 0]] w fun e w' => e = .returned (.tuple #[.agg #[.int .u64 (limb (V0) 0 : Nat), .int .u64 (limb (V0) 1 : Nat), .int .u64 (limb (V0) 2 : Nat), .int .u64 (limb (V0) 3 : Nat)], .int .i64 0]) ∧ Below w.heap.size w w') := fun w h1 h2 h3 => by
            have h := join_in b a' l (shL l (rtL cs)) d cap 0 HI.out.2.2.2.2 HI.out.2.1 QQ_pos (shL_length _ _) (shL_all _ _) w h1 h2 h3
            rw [joV_tells (nodes_ok HI.out.2.1).1 (rtL cs) 0 (by rw [← H0.out.2.2.2.1]; exact HI.out.2.2.1), hoN_nought (rtL cs) HI.out.1 (allQ_get (rtL_all cs) HI.out.1), ← hV0, shL_length, ← H0.out.2.2.2.1, limb_nought, limb_nought, limb_nought, limb_nought] at h
            exact h
          have HV0 : Hid (V0 = ((rtL cs)[0]'HI.out.1)) := hV0
          have e1 := eq4_self' (limb V 0 : Nat) (limb V 1 : Nat) (limb V 2 : Nat) (limb V 3 : Nat)
          have e2 := eq4_self' (limb V0 0 : Nat) (limb V0 1 : Nat) (limb V0 2 : Nat) (limb V0 3 : Nat)
          have hP0 : 0 < P := by have := H1.out.2.2.2; have := HI.out.1; omega
          clear hlt hk hV hV0
          go_wp2_with fail
          refine HKr.out _ _ ?_
          clear HKr
          obtain ⟨⟨t0, t1, t2, t3⟩, _, tz⟩ := (HO.out.1.call HR.out.2.2.1).facts
          go_wp2_with fail
          refine (KJ.out _ (H0.out.1.call HR.out.2.2.2) (H0.out.2.2.1.call HR.out.2.2.2) HF.out.2).mono ?_
          rintro e w11 ⟨rfl, hb11⟩
          have H11 : Hid (Below wr.heap.size wr (w11.alloc (.cells #[.int .u64 (limb V 0 : Nat), .int .u64 (limb V 1 : Nat), .int .u64 (limb V 2 : Nat), .int .u64 (limb V 3 : Nat)] 25)) ∧ Own4 (w11.alloc (.cells #[.int .u64 (limb V 0 : Nat), .int .u64 (limb V 1 : Nat), .int .u64 (limb V 2 : Nat), .int .u64 (limb V 3 : Nat)] 25)) w11.heap.size V) := ⟨below_alloc0 hb11 _, Own4.new _ _ _⟩
          clear hb11 t0 t1 t2 t3 tz
          obtain ⟨⟨t0, t1, t2, t3⟩, _, tz⟩ := ((HO.out.1.call HR.out.2.2.1).call H11.out.1).facts
          go_wp2_with fail
          refine (KT.out _ ((H0.out.1.call HR.out.2.2.2).call H11.out.1) ((HO.out.2.call HR.out.2.2.1).call H11.out.1)).mono ?_
          rintro e w13 ⟨rfl, hb13⟩
          have H13 : Hid (Below wr.heap.size wr (w13.alloc (.cells #[.int .u64 (limb V 0 : Nat), .int .u64 (limb V 1 : Nat), .int .u64 (limb V 2 : Nat), .int .u64 (limb V 3 : Nat)] 25)) ∧ Own4 (w13.alloc (.cells #[.int .u64 (limb V 0 : Nat), .int .u64 (limb V 1 : Nat), .int .u64 (limb V 2 : Nat), .int .u64 (limb V 3 : Nat)] 25)) w11.heap.size V ∧ Own4 (w13.alloc (.cells #[.int .u64 (limb V 0 : Nat), .int .u64 (limb V 1 : Nat), .int .u64 (limb V 2 : Nat), .int .u64 (limb V 3 : Nat)] 25)) w13.heap.size V) := ⟨below_alloc0 (below_call0 H11.out.1 hb13) _, (H11.out.2.call hb13).alloc, Own4.new _ _ _⟩
          clear hb13 t0 t1 t2 t3 tz H11
          go_wp2_with fail
          refine (KZ.out _ ((H0.out.1.call HR.out.2.2.2).call H13.out.1) ((H0.out.2.2.1.call HR.out.2.2.2).call H13.out.1) (HF.out.2.call H13.out.1)).mono ?_
          rintro e w15 ⟨rfl, hb15⟩
          obtain ⟨w16, hw16⟩ : ∃ y, y = w15.alloc (.cells #[.int .u64 (limb V0 0 : Nat), .int .u64 (limb V0 1 : Nat), .int .u64 (limb V0 2 : Nat), .int .u64 (limb V0 3 : Nat)] 25) := ⟨_, rfl⟩
          have H16 : Hid (Below wr.heap.size wr w16 ∧ Own4 w16 w11.heap.size V ∧ Own4 w16 w13.heap.size V ∧ Own4 w16 w15.heap.size V0 ∧ w16 = w15.alloc (.cells #[.int .u64 (limb V0 0 : Nat), .int .u64 (limb V0 1 : Nat), .int .u64 (limb V0 2 : Nat), .int .u64 (limb V0 3 : Nat)] 25)) := by
            refine ⟨?_, ?_, ?_, ?_, hw16⟩
            · rw [hw16]; exact below_alloc0 (below_call0 H13.out.1 hb15) _
            · rw [hw16]; exact (H13.out.2.1.call hb15).alloc
            · rw [hw16]; exact (H13.out.2.2.call hb15).alloc
            · rw [hw16]; exact Own4.new _ _ _
          clear hb15 hw16 H13
          go_wp2_with fail
          rw [← H16.out.2.2.2.2]
          obtain ⟨p, o, rfl, ⟨d0, d1, d2, d3⟩, dz⟩ := ((HO.out.2.call HR.out.2.2.1).call H16.out.1).get HI.out.1
          rw [← HV0.out, Nat.zero_mul, Nat.add_zero] at d0 d1 d2 d3
          have HD : Hid (∀ w', Below w16.heap.size w16 w' → (w'.cell? ⟨p, o, none⟩ = some (.int .u64 (limb V0 0 : Nat)) ∧ w'.cell? ⟨p, o + 1, none⟩ = some (.int .u64 (limb V0 1 : Nat)) ∧ w'.cell? ⟨p, o + 2, none⟩ = some (.int .u64 (limb V0 2 : Nat)) ∧ w'.cell? ⟨p, o + 3, none⟩ = some (.int .u64 (limb V0 3 : Nat))) ∧ p < w'.heap.size) := fun w' hb => by
            have e := fun j => hb.cell (p := ⟨p, j, none⟩) dz
            exact ⟨⟨(e _).trans d0, (e _).trans d1, (e _).trans d2, (e _).trans d3⟩, Nat.lt_of_lt_of_le dz hb.size⟩
          clear d0 d1 d2 d3 dz
          refine wp_region_N (fun w' => Below w16.heap.size w16 w') 25 26 rfl (by kernel_rfl) ?_
          refine wpAnyN_takeF (i := 0) (oi := ?o0zy5) (v := ?v0zy5) ?hi0zy5 (by kernel_rfl) (by kernel_rfl) (by kernel_rfl) (by decide) ?hQ0zy5 ?hy0zy5 (Below.drew (Below.refl _ _)) ?more0zy5
          case hi0zy5 => rw [List.getElem?_toArray]; exact rfl
          case hQ0zy5 => exact fun _ _ _ h => h
          case hy0zy5 =>
            refine Or.inl ⟨by rfl, ?_⟩
            intro w' hSw
            clear hSw
            go_simp
            try with_reducible rfl
          simp only [Act.put, List.setIfInBounds_toArray, List.set_cons_zero, List.set_cons_succ]
          refine wpAnyN_takeF (i := 1) (oi := ?o1zy5) (v := ?v1zy5) ?hi1zy5 (by kernel_rfl) (by kernel_rfl) (by kernel_rfl) (by decide) ?hQ1zy5 ?hy1zy5 (Below.drew (Below.refl _ _)) ?more1zy5
          case hi1zy5 => rw [List.getElem?_toArray]; exact rfl
          case hQ1zy5 => exact fun _ _ _ h => h
          case hy1zy5 =>
            refine Or.inl ⟨by rfl, ?_⟩
            intro w' hSw
            clear hSw
            go_simp
            try with_reducible rfl
          simp only [Act.put, List.setIfInBounds_toArray, List.set_cons_zero, List.set_cons_succ]
          refine wpAnyN_takeF (i := 2) (oi := ?o2zy5) (v := ?v2zy5) ?hi2zy5 (by kernel_rfl) (by kernel_rfl) (by kernel_rfl) (by decide) ?hQ2zy5 ?hy2zy5 (Below.drew (Below.refl _ _)) ?more2zy5
          case hi2zy5 => rw [List.getElem?_toArray]; exact rfl
          case hQ2zy5 => exact fun _ _ _ h => h
          case hy2zy5 =>
            refine Or.inl ⟨by rfl, ?_⟩
            intro w' hSw
            clear hSw
            go_simp
            try with_reducible rfl
          simp only [Act.put, List.setIfInBounds_toArray, List.set_cons_zero, List.set_cons_succ]
          refine wpAnyN_takeF (i := 3) (oi := ?o3zy5) (v := ?v3zy5) ?hi3zy5 (by kernel_rfl) (by kernel_rfl) (by kernel_rfl) (by decide) ?hQ3zy5 ?hy3zy5 (Below.drew (Below.refl _ _)) ?more3zy5
          case hi3zy5 => rw [List.getElem?_toArray]; exact rfl
          case hQ3zy5 => exact fun _ _ _ h => h
          case hy3zy5 =>
            refine Or.inl ⟨by rfl, ?_⟩
            intro w' hSw
            clear hSw
            go_simp
            try with_reducible rfl
          simp only [Act.put, List.setIfInBounds_toArray, List.set_cons_zero, List.set_cons_succ]
          refine wpAnyN_takeF (i := 4) (oi := ?o4zy5) (v := ?v4zy5) ?hi4zy5 (by kernel_rfl) (by kernel_rfl) (by kernel_rfl) (by decide) ?hQ4zy5 ?hy4zy5 (Below.drew (Below.refl _ _)) ?more4zy5
          case hi4zy5 => rw [List.getElem?_toArray]; exact rfl
          case hQ4zy5 => exact fun _ _ _ h => h
          case hy4zy5 =>
            refine Or.inl ⟨by rfl, ?_⟩
            intro w' hSw
            clear hSw
            go_simp
            try with_reducible rfl
          simp only [Act.put, List.setIfInBounds_toArray, List.set_cons_zero, List.set_cons_succ]
          refine wpAnyN_takeF (i := 5) (oi := ?o5zy5) (v := ?v5zy5) ?hi5zy5 (by kernel_rfl) (by kernel_rfl) (by kernel_rfl) (by decide) ?hQ5zy5 ?hy5zy5 (Below.drew (Below.refl _ _)) ?more5zy5
          case hi5zy5 => rw [List.getElem?_toArray]; exact rfl
          case hQ5zy5 => exact fun _ _ _ h => h
          case hy5zy5 =>
            refine Or.inl ⟨by rfl, ?_⟩
            intro w' hSw
            clear hSw
            go_simp
            try with_reducible rfl
          simp only [Act.put, List.setIfInBounds_toArray, List.set_cons_zero, List.set_cons_succ]
          refine wpAnyN_takeF (i := 6) (oi := ?o6zy5) (v := ?v6zy5) ?hi6zy5 (by kernel_rfl) (by kernel_rfl) (by kernel_rfl) (by decide) ?hQ6zy5 ?hy6zy5 (Below.drew (Below.refl _ _)) ?more6zy5
          case hi6zy5 => rw [List.getElem?_toArray]; exact rfl
          case hQ6zy5 => exact fun _ _ _ h => h
          case hy6zy5 =>
            refine Or.inl ⟨by rfl, ?_⟩
            intro w' hSw
            clear hSw
            go_simp
            try with_reducible rfl
          simp only [Act.put, List.setIfInBounds_toArray, List.set_cons_zero, List.set_cons_succ]
          refine wpAnyN_takeF (i := 7) (oi := ?o7zy5) (v := ?v7zy5) ?hi7zy5 (by kernel_rfl) (by kernel_rfl) (by kernel_rfl) (by decide) ?hQ7zy5 ?hy7zy5 (Below.drew (Below.refl _ _)) ?more7zy5
          case hi7zy5 => rw [List.getElem?_toArray]; exact rfl
          case hQ7zy5 => exact fun _ _ _ h => h
          case hy7zy5 =>
            refine Or.inl ⟨by rfl, ?_⟩
            intro w' hSw
            clear hSw
            go_simp
            try with_reducible rfl
          simp only [Act.put, List.setIfInBounds_toArray, List.set_cons_zero, List.set_cons_succ]
          refine wpAnyN_takeF (i := 8) (oi := ?o8zy5) (v := ?v8zy5) ?hi8zy5 (by kernel_rfl) (by kernel_rfl) (by kernel_rfl) (by decide) ?hQ8zy5 ?hy8zy5 (Below.drew (Below.refl _ _)) ?more8zy5
          case hi8zy5 => rw [List.getElem?_toArray]; exact rfl
          case hQ8zy5 => exact fun _ _ _ h => h
          case hy8zy5 =>
            refine Or.inl ⟨by rfl, ?_⟩
            intro w' hSw
            clear hSw
            go_simp
            try with_reducible rfl
          simp only [Act.put, List.setIfInBounds_toArray, List.set_cons_zero, List.set_cons_succ]
          refine wpAnyN_takeF (i := 9) (oi := ?o9zy5) (v := ?v9zy5) ?hi9zy5 (by kernel_rfl) (by kernel_rfl) (by kernel_rfl) (by decide) ?hQ9zy5 ?hy9zy5 (Below.drew (Below.refl _ _)) ?more9zy5
          case hi9zy5 => rw [List.getElem?_toArray]; exact rfl
          case hQ9zy5 => exact fun _ _ _ h => h
          case hy9zy5 =>
            refine Or.inl ⟨by rfl, ?_⟩
            intro w' hSw
            clear hSw
            go_simp
            try with_reducible rfl
          simp only [Act.put, List.setIfInBounds_toArray, List.set_cons_zero, List.set_cons_succ]
          refine wpAnyN_takeF (i := 10) (oi := ?o10zy5) (v := ?v10zy5) ?hi10zy5 (by kernel_rfl) (by kernel_rfl) (by kernel_rfl) (by decide) ?hQ10zy5 ?hy10zy5 (Below.drew (Below.refl _ _)) ?more10zy5
          case hi10zy5 => rw [List.getElem?_toArray]; exact rfl
          case hQ10zy5 => exact fun _ _ _ h => h
          case hy10zy5 =>
            refine Or.inl ⟨by rfl, ?_⟩
            intro w' hSw
            clear hSw
            go_simp
            try with_reducible rfl
          simp only [Act.put, List.setIfInBounds_toArray, List.set_cons_zero, List.set_cons_succ]
          refine wpAnyN_takeL (i := 11) (oi := ?o11zy5) (v := ?v11zy5) [13, 14, 15, 22, 23, 25] ?hi11zy5 (by kernel_rfl) (by kernel_rfl) (by kernel_rfl) (by kernel_rfl) (by decide) (by decide) (by kernel_rfl) ?hQ11zy5 ?hy11zy5 (Below.drew (Below.refl _ _)) ?more11zy5
          case hi11zy5 => rw [List.getElem?_toArray]; exact rfl
          case hQ11zy5 => exact fun _ _ _ h => h
          case hy11zy5 =>
            refine Or.inl ⟨by rfl, ?_⟩
            intro w' hSw
            obtain ⟨⟨o0, o1, o2, o3⟩, _, oz⟩ := (H16.out.2.1.call hSw).facts
            obtain ⟨⟨m0, m1, m2, m3⟩, _, mz⟩ := (H16.out.2.2.1.call hSw).facts
            obtain ⟨⟨s0, s1, s2, s3⟩, _, sz⟩ := (H16.out.2.2.2.1.call hSw).facts
            obtain ⟨⟨d0, d1, d2, d3⟩, dz⟩ := HD.out _ hSw
            clear hSw
            go_simp
            try with_reducible rfl
          simp only [Act.put, List.setIfInBounds_toArray, List.set_cons_zero, List.set_cons_succ]
          refine wpAnyN_takeL (i := 12) (oi := ?o12zy5) (v := ?v12zy5) [13, 14, 15, 22, 23, 25] ?hi12zy5 (by kernel_rfl) (by kernel_rfl) (by kernel_rfl) (by kernel_rfl) (by decide) (by decide) (by kernel_rfl) ?hQ12zy5 ?hy12zy5 (Below.drew (Below.refl _ _)) ?more12zy5
          case hi12zy5 => rw [List.getElem?_toArray]; exact rfl
          case hQ12zy5 => exact fun _ _ _ h => h
          case hy12zy5 =>
            refine Or.inl ⟨by rfl, ?_⟩
            intro w' hSw
            obtain ⟨⟨o0, o1, o2, o3⟩, _, oz⟩ := (H16.out.2.1.call hSw).facts
            obtain ⟨⟨m0, m1, m2, m3⟩, _, mz⟩ := (H16.out.2.2.1.call hSw).facts
            obtain ⟨⟨s0, s1, s2, s3⟩, _, sz⟩ := (H16.out.2.2.2.1.call hSw).facts
            obtain ⟨⟨d0, d1, d2, d3⟩, dz⟩ := HD.out _ hSw
            clear hSw
            go_simp
            try with_reducible rfl
          simp only [Act.put, List.setIfInBounds_toArray, List.set_cons_zero, List.set_cons_succ]
          refine wpAnyN_takeF (i := 13) (oi := ?o13zy5) (v := ?v13zy5) ?hi13zy5 (by kernel_rfl) (by kernel_rfl) (by kernel_rfl) (by decide) ?hQ13zy5 ?hy13zy5 (Below.drew (Below.refl _ _)) ?more13zy5
          case hi13zy5 => rw [List.getElem?_toArray]; exact rfl
          case hQ13zy5 => exact fun _ _ _ h => h
          case hy13zy5 =>
            refine Or.inl ⟨by rfl, ?_⟩
            intro w' hSw
            clear hSw
            go_simp
            try with_reducible rfl
          simp only [Act.put, List.setIfInBounds_toArray, List.set_cons_zero, List.set_cons_succ]
          refine wpAnyN_takeF (i := 14) (oi := ?o14zy5) (v := ?v14zy5) ?hi14zy5 (by kernel_rfl) (by kernel_rfl) (by kernel_rfl) (by decide) ?hQ14zy5 ?hy14zy5 (Below.drew (Below.refl _ _)) ?more14zy5
          case hi14zy5 => rw [List.getElem?_toArray]; exact rfl
          case hQ14zy5 => exact fun _ _ _ h => h
          case hy14zy5 =>
            refine Or.inl ⟨by rfl, ?_⟩
            intro w' hSw
            clear hSw
            go_simp
            try with_reducible rfl
          simp only [Act.put, List.setIfInBounds_toArray, List.set_cons_zero, List.set_cons_succ]
          refine wpAnyN_takeF (i := 15) (oi := ?o15zy5) (v := ?v15zy5) ?hi15zy5 (by kernel_rfl) (by kernel_rfl) (by kernel_rfl) (by decide) ?hQ15zy5 ?hy15zy5 (Below.drew (Below.refl _ _)) ?more15zy5
          case hi15zy5 => rw [List.getElem?_toArray]; exact rfl
          case hQ15zy5 => exact fun _ _ _ h => h
          case hy15zy5 =>
            refine Or.inl ⟨by rfl, ?_⟩
            intro w' hSw
            clear hSw
            go_simp
            try with_reducible rfl
          simp only [Act.put, List.setIfInBounds_toArray, List.set_cons_zero, List.set_cons_succ]
          refine wpAnyN_takeL (i := 16) (oi := ?o16zy5) (v := ?v16zy5) [20, 21, 22, 23, 25] ?hi16zy5 (by kernel_rfl) (by kernel_rfl) (by kernel_rfl) (by kernel_rfl) (by decide) (by decide) (by kernel_rfl) ?hQ16zy5 ?hy16zy5 (Below.drew (Below.refl _ _)) ?more16zy5
          case hi16zy5 => rw [List.getElem?_toArray]; exact rfl
          case hQ16zy5 => exact fun _ _ _ h => h
          case hy16zy5 =>
            refine Or.inl ⟨by rfl, ?_⟩
            intro w' hSw
            obtain ⟨⟨o0, o1, o2, o3⟩, _, oz⟩ := (H16.out.2.1.call hSw).facts
            obtain ⟨⟨m0, m1, m2, m3⟩, _, mz⟩ := (H16.out.2.2.1.call hSw).facts
            obtain ⟨⟨s0, s1, s2, s3⟩, _, sz⟩ := (H16.out.2.2.2.1.call hSw).facts
            obtain ⟨⟨d0, d1, d2, d3⟩, dz⟩ := HD.out _ hSw
            clear hSw
            go_simp
            try with_reducible rfl
          simp only [Act.put, List.setIfInBounds_toArray, List.set_cons_zero, List.set_cons_succ]
          refine wpAnyN_takeF (i := 17) (oi := ?o17zy5) (v := ?v17zy5) ?hi17zy5 (by kernel_rfl) (by kernel_rfl) (by kernel_rfl) (by decide) ?hQ17zy5 ?hy17zy5 (Below.drew (Below.refl _ _)) ?more17zy5
          case hi17zy5 => rw [List.getElem?_toArray]; exact rfl
          case hQ17zy5 => exact fun _ _ _ h => h
          case hy17zy5 =>
            refine Or.inl ⟨by rfl, ?_⟩
            intro w' hSw
            clear hSw
            go_simp
            try with_reducible rfl
          simp only [Act.put, List.setIfInBounds_toArray, List.set_cons_zero, List.set_cons_succ]
          refine wpAnyN_takeF (i := 18) (oi := ?o18zy5) (v := ?v18zy5) ?hi18zy5 (by kernel_rfl) (by kernel_rfl) (by kernel_rfl) (by decide) ?hQ18zy5 ?hy18zy5 (Below.drew (Below.refl _ _)) ?more18zy5
          case hi18zy5 => rw [List.getElem?_toArray]; exact rfl
          case hQ18zy5 => exact fun _ _ _ h => h
          case hy18zy5 =>
            refine Or.inl ⟨by rfl, ?_⟩
            intro w' hSw
            clear hSw
            go_simp
            try with_reducible rfl
          simp only [Act.put, List.setIfInBounds_toArray, List.set_cons_zero, List.set_cons_succ]
          refine wpAnyN_takeL (i := 19) (oi := ?o19zy5) (v := ?v19zy5) [20, 21, 22, 23, 25] ?hi19zy5 (by kernel_rfl) (by kernel_rfl) (by kernel_rfl) (by kernel_rfl) (by decide) (by decide) (by kernel_rfl) ?hQ19zy5 ?hy19zy5 (Below.drew (Below.refl _ _)) ?more19zy5
          case hi19zy5 => rw [List.getElem?_toArray]; exact rfl
          case hQ19zy5 => exact fun _ _ _ h => h
          case hy19zy5 =>
            refine Or.inl ⟨by rfl, ?_⟩
            intro w' hSw
            obtain ⟨⟨o0, o1, o2, o3⟩, _, oz⟩ := (H16.out.2.1.call hSw).facts
            obtain ⟨⟨m0, m1, m2, m3⟩, _, mz⟩ := (H16.out.2.2.1.call hSw).facts
            obtain ⟨⟨s0, s1, s2, s3⟩, _, sz⟩ := (H16.out.2.2.2.1.call hSw).facts
            obtain ⟨⟨d0, d1, d2, d3⟩, dz⟩ := HD.out _ hSw
            clear hSw
            go_simp
            try with_reducible rfl
          simp only [Act.put, List.setIfInBounds_toArray, List.set_cons_zero, List.set_cons_succ]
          refine wpAnyN_takeF (i := 20) (oi := ?o20zy5) (v := ?v20zy5) ?hi20zy5 (by kernel_rfl) (by kernel_rfl) (by kernel_rfl) (by decide) ?hQ20zy5 ?hy20zy5 (Below.drew (Below.refl _ _)) ?more20zy5
          case hi20zy5 => rw [List.getElem?_toArray]; exact rfl
          case hQ20zy5 => exact fun _ _ _ h => h
          case hy20zy5 =>
            refine Or.inl ⟨by rfl, ?_⟩
            intro w' hSw
            clear hSw
            go_simp
            try with_reducible rfl
          simp only [Act.put, List.setIfInBounds_toArray, List.set_cons_zero, List.set_cons_succ]
          refine wpAnyN_takeF (i := 21) (oi := ?o21zy5) (v := ?v21zy5) ?hi21zy5 (by kernel_rfl) (by kernel_rfl) (by kernel_rfl) (by decide) ?hQ21zy5 ?hy21zy5 (Below.drew (Below.refl _ _)) ?more21zy5
          case hi21zy5 => rw [List.getElem?_toArray]; exact rfl
          case hQ21zy5 => exact fun _ _ _ h => h
          case hy21zy5 =>
            refine Or.inl ⟨by rfl, ?_⟩
            intro w' hSw
            clear hSw
            go_simp
            try with_reducible rfl
          simp only [Act.put, List.setIfInBounds_toArray, List.set_cons_zero, List.set_cons_succ]
          refine wpAnyN_takeF (i := 22) (oi := ?o22zy5) (v := ?v22zy5) ?hi22zy5 (by kernel_rfl) (by kernel_rfl) (by kernel_rfl) (by decide) ?hQ22zy5 ?hy22zy5 (Below.drew (Below.refl _ _)) ?more22zy5
          case hi22zy5 => rw [List.getElem?_toArray]; exact rfl
          case hQ22zy5 => exact fun _ _ _ h => h
          case hy22zy5 =>
            refine Or.inl ⟨by rfl, ?_⟩
            intro w' hSw
            clear hSw
            go_simp
            try with_reducible rfl
          simp only [Act.put, List.setIfInBounds_toArray, List.set_cons_zero, List.set_cons_succ]
          refine wpAnyN_one (i := 23) (o := ?o23zy5) (by kernel_rfl) ?hi23zy5 ?hw23zy5 ?st23zy5
          case hi23zy5 => rw [List.getElem?_toArray]; exact rfl
          case hw23zy5 => exact rfl
          intro K hK
          have HK23 : Hid _ := hK
          clear hK
          go_simp
          refine (KL.out _ (GlobQ.drew ((H0.out.1.call HR.out.2.2.2).call H16.out.1))).mono ?_
          rintro e w17 ⟨rfl, hq⟩
          have H17 : Hid (Below w16.heap.size w16 w17) := below_call0 (Below.drew (Below.refl _ _)) hq
          clear hq
          go_wp2_with fail
          refine HK23.out _ _ ⟨fun _ => H17.out, ?_⟩
          clear HK23 K
          try simp only [Act.put, List.setIfInBounds_toArray, List.set_cons_zero, List.set_cons_succ]
          refine wpAnyN_takeF (i := 24) (oi := ?o24zy5) (v := ?v24zy5) ?hi24zy5 (by kernel_rfl) (by kernel_rfl) (by kernel_rfl) (by decide) ?hQ24zy5 ?hy24zy5 H17.out ?more24zy5
          case hi24zy5 => rw [List.getElem?_toArray]; exact rfl
          case hQ24zy5 => exact fun _ _ _ h => h
          case hy24zy5 =>
            refine Or.inl ⟨by rfl, ?_⟩
            intro w' hSw
            clear hSw
            go_simp
            try with_reducible rfl
          simp only [Act.put, List.setIfInBounds_toArray, List.set_cons_zero, List.set_cons_succ]
          refine wpAnyN_one (i := 25) (o := ?o25zy5) (by kernel_rfl) ?hi25zy5 ?hw25zy5 ?st25zy5
          case hi25zy5 => rw [List.getElem?_toArray]; exact rfl
          case hw25zy5 => exact rfl
          intro K hK
          have HK25 : Hid _ := hK
          clear hK
          go_simp
          refine HK25.out _ _ ⟨fun h => absurd h (by decide +kernel), ?_⟩
          clear HK25 K
          try simp only [Act.put, List.setIfInBounds_toArray, List.set_cons_zero, List.set_cons_succ]
          refine wpAnyN_done (by kernel_rfl) ?_ _
          go_wp2_with fail
          go_ret
          exact ⟨rfl, below_call0 (below_call0 HR.out.2.2.2 H16.out.1) H17.out⟩
  case st11x1 =>
    intro K hK
    have HK11y6 : Hid _ := hK
    clear hK
    go_simp
    refine HK11y6.out _ _ ⟨fun _ => (below_alloc0 (Below.drew (Below.refl _ _)) _), ?_⟩
    clear HK11y6 K
    try simp only [Act.put, List.setIfInBounds_toArray, List.set_cons_zero, List.set_cons_succ]
    refine wpAnyN_one (i := 0) (o := ?o0y6) (by kernel_rfl) ?hi0y6 ?hw0y6 ?st0y6
    case hi0y6 => rw [List.getElem?_toArray]; exact rfl
    case hw0y6 => exact rfl
    intro K hK
    have HK0y6 : Hid _ := hK
    clear hK
    go_simp
    refine (KS.out _).mono ?_
    rintro e w0y6 ⟨rfl, hq⟩
    have H0y6 : Hid (Below w1.heap.size w1 w0y6) := below_call0 (below_alloc0 (Below.drew (Below.refl _ _)) _) hq
    have P0y6 : Hid (Pend w0y6 (w1.heap.size)) := Pend.call (Pend.new' (W := w1.drew) (t := 25) rfl) hq
    clear hq
    go_wp2_with fail
    refine HK0y6.out _ _ ⟨fun _ => H0y6.out, ?_⟩
    clear HK0y6 K
    try simp only [Act.put, List.setIfInBounds_toArray, List.set_cons_zero, List.set_cons_succ]
    refine wpAnyN_one (i := 10) (o := ?o10y6) (by kernel_rfl) ?hi10y6 ?hw10y6 ?st10y6
    case hi10y6 => rw [List.getElem?_toArray]; exact rfl
    case hw10y6 => exact rfl
    intro K hK
    have HK10y6 : Hid _ := hK
    clear hK
    go_simp
    refine (KD.out _).mono ?_
    rintro e w10y6 ⟨rfl, hq⟩
    have H10y6 : Hid (Below w1.heap.size w1 w10y6) := below_call0 H0y6.out hq
    have P10y6 : Hid (Pend w10y6 (w1.heap.size)) := Pend.call P0y6.out hq
    clear hq
    go_wp2_with fail
    refine HK10y6.out _ _ ⟨fun _ => H10y6.out, ?_⟩
    clear HK10y6 K
    try simp only [Act.put, List.setIfInBounds_toArray, List.set_cons_zero, List.set_cons_succ]
    refine wpAnyN_one (i := 12) (o := ?o12y6) (by kernel_rfl) ?hi12y6 ?hw12y6 ?st12y6
    case hi12y6 => rw [List.getElem?_toArray]; exact rfl
    case hw12y6 => exact rfl
    intro K hK
    have HK12y6 : Hid _ := hK
    clear hK
    obtain ⟨⟨o0, o1, o2, o3⟩, ⟨f0, f1, f2, f3⟩, oz⟩ := Pend.facts P10y6.out
    try simp only [World.size_alloc] at o0 o1 o2 o3 f0 f1 f2 f3 oz
    go_simp
    refine HK12y6.out _ _ ⟨fun h => absurd h (by decide +kernel), ?_⟩
    clear HK12y6 K
    try simp only [Act.put, List.setIfInBounds_toArray, List.set_cons_zero, List.set_cons_succ]
    refine wpAnyN_done (by kernel_rfl) ?_ _
    obtain ⟨wS, hwS⟩ : ∃ y, y = ((((w10y6.setCell ⟨w1.heap.size, 0, none⟩ (.int .u64 (limb t 0 : Nat))).setCell ⟨w1.heap.size, 1, none⟩ (.int .u64 (limb t 1 : Nat))).setCell ⟨w1.heap.size, 2, none⟩ (.int .u64 (limb t 2 : Nat))).setCell ⟨w1.heap.size, 3, none⟩ (.int .u64 (limb t 3 : Nat))) := ⟨_, rfl⟩
    have HT : Hid (Own4 wS (w1.heap.size) t ∧ Below w1.heap.size w1 wS) := by rw [hwS]; exact ⟨Pend.own P10y6.out, Below.setCell (Below.setCell (Below.setCell (Below.setCell H10y6.out (Nat.le_refl _) _) (Nat.le_refl _) _) (Nat.le_refl _) _) (Nat.le_refl _) _⟩
    rw [← hwS]
    clear hwS o0 o1 o2 o3 f0 f1 f2 f3 oz
    have HW : Hid (Below w.heap.size w wS ∧ Nums wS pa (rtL cs) ∧ Own4 wS (w1.heap.size) t) := ⟨below_call0 H1.out.1 HT.out.2, H1.out.2.2.1.call HT.out.2, HT.out.1⟩
    clear HT
    have p0 : ((P : Int) == 0) = false := by
      have := H1.out.2.2.2
      have := HI.out.1
      simp
      omega
    have p1 : ¬ ((P : Int) = 0) := by simpa using p0
    go_wp2_with fail
    refine (KA.out _ (H0.out.2.2.1.call HW.out.1)).mono ?_
    rintro e w10 ⟨rfl, hb10⟩
    rw [HI.out.2.1]
    have H10 : Hid (Below w.heap.size w w10 ∧ Below wS.heap.size wS w10) := ⟨below_call0 HW.out.1 hb10, hb10⟩
    clear hb10
    have p2 : ¬ ((n : Int) < (P : Int)) := by
      have := H1.out.2.2.2
      have := HI.out.2.2.1
      omega
    have p3 : ¬ ((10 : Int) < (n : Int)) := by have := HI.out.2.2.2.1; omega
    have q2 : decide (n < P) = false := decide_eq_false (by omega)
    have HO : Hid (Own4 w10 (w1.heap.size) t ∧ Nums w10 pa (rtL cs)) := ⟨HW.out.2.2.call H10.out.2, HW.out.2.1.call H10.out.2⟩
    obtain ⟨B, hB⟩ : ∃ B, B = w1.heap.size := ⟨_, rfl⟩
    rw [← hB] at HO
    rw [← hB]
    clear hB
    go_wp2_with fail
    rename_i Kr hKr
    have HKr : Hid _ := hKr
    clear hKr p0 p1 p2 p3 q2
    go_loopw [9, 56] (fun ov iv wr => ∃ k m cap : Nat, ∃ a' : Option Addr, k ≤ n ∧ iv = .int .i64 (k : Nat) ∧ ov = .slice a' m cap ∧ m = ((shL l (rtL cs)).take k).length ∧ RowN wr w10.heap.size a' ((shL l (rtL cs)).take k) cap ∧ Below w10.heap.size w10 wr) (fun _ iv _ => n - (Go.RowKit.intOf iv).toNat)
    case atStart => exact ⟨0, 0, 0, none, Nat.zero_le _, rfl, rfl, rfl, RowN.nil _ _, Below.refl _ _⟩
    case round =>
      obtain ⟨k, m', cap, a', hk, rfl, rfl, hm, hRow, hB⟩ := hrel
      rename World => wr
      have HR : Hid (m' = ((shL l (rtL cs)).take k).length ∧ RowN wr w10.heap.size a' ((shL l (rtL cs)).take k) cap ∧ Below w10.heap.size w10 wr ∧ Below w.heap.size w wr) := ⟨hm, hRow, hB, below_call0 H10.out.1 hB⟩
      clear hm hRow hB
      by_cases hlt : k < n
      · clear HKr
        have hkl : k < l.length := by rw [← H0.out.2.2.2.1]; exact hlt
        have hlt' : (k : Int) < (n : Int) := Int.ofNat_lt.2 hlt
        obtain ⟨p, o, rfl, c0, pz⟩ := (H0.out.2.2.1.call HR.out.2.2.2).get hkl
        obtain ⟨z, hz⟩ : ∃ z, z = (l[k]'hkl) := ⟨_, rfl⟩
        have hz1 := (nodes_ok HI.out.2.1).1.1 _ (List.getElem_mem hkl)
        rw [← hz] at c0 hz1
        obtain ⟨y, rfl⟩ : ∃ y : Nat, z = (y : Int) := ⟨z.toNat, by omega⟩
        obtain ⟨v, hv⟩ : ∃ v, v = hoN QQ y (rtL cs) := ⟨_, rfl⟩
        have KE : Hid (∀ w, GlobQ w → Nums w pa (rtL cs) → Calls Tryd.prog 11 #[.slice pa P pc, .int .i64 (y : Nat)] w fun e w' => e = .returned (.tuple #[.agg #[.int .u64 (limb (v) 0 : Nat), .int .u64 (limb (v) 1 : Nat), .int .u64 (limb (v) 2 : Nat), .int .u64 (limb (v) 3 : Nat)], .int .i64 0]) ∧ Below w.heap.size w w') := fun w h1 h2 => by
          have h := eval_in pa (rtL cs) pc y ⟨HI.out.1, rtL_length cs⟩ (by omega) (fun n hn => Nat.lt_trans (allQ_mem (rtL_all cs) hn) FM_Q.2.1) w h1 h2
          rw [(atV_in ⟨HI.out.1, rtL_length cs⟩ (rtL_all cs) (Nat.lt_of_le_of_lt (show y ≤ 10 by omega) (by decide))).1, (atV_in ⟨HI.out.1, rtL_length cs⟩ (rtL_all cs) (Nat.lt_of_le_of_lt (show y ≤ 10 by omega) (by decide))).2, ← hv, ← H1.out.2.2.2] at h
          exact h
        have HV : Hid ((shL l (rtL cs)).take (k + 1) = (shL l (rtL cs)).take k ++ [v]) := by
          have hks : k < (shL l (rtL cs)).length := by rw [shL_length]; exact hkl
          rw [List.take_succ_eq_append_getElem hks, shL_get hkl, ← hz, hv]
          rfl
        have HLN : Hid (((shL l (rtL cs)).take k).length ≤ 1000000) := by
          have h1 : ((shL l (rtL cs)).take k).length ≤ k := by rw [List.length_take]; omega
          have := HI.out.2.2.2.1
          unfold Hid
          omega
        clear hz hz1 hv
        go_wp2_with fail
        refine (KE.out _ (H0.out.1.call HR.out.2.2.2) (HO.out.2.call HR.out.2.2.1)).mono ?_
        rintro e w11 ⟨rfl, hb11⟩
        have HA : Hid (RowN ((w11.alloc (.cells #[.int .u64 (limb v 0 : Nat), .int .u64 (limb v 1 : Nat), .int .u64 (limb v 2 : Nat), .int .u64 (limb v 3 : Nat)] 25)).alloc (.cells #[.int .u64 (limb v 0 : Nat), .int .u64 (limb v 1 : Nat), .int .u64 (limb v 2 : Nat), .int .u64 (limb v 3 : Nat)] 25)) w10.heap.size a' ((shL l (rtL cs)).take k) cap ∧ Num4 ((w11.alloc (.cells #[.int .u64 (limb v 0 : Nat), .int .u64 (limb v 1 : Nat), .int .u64 (limb v 2 : Nat), .int .u64 (limb v 3 : Nat)] 25)).alloc (.cells #[.int .u64 (limb v 0 : Nat), .int .u64 (limb v 1 : Nat), .int .u64 (limb v 2 : Nat), .int .u64 (limb v 3 : Nat)] 25)) (w11.heap.size + 1) v ∧ Below w10.heap.size w10 ((w11.alloc (.cells #[.int .u64 (limb v 0 : Nat), .int .u64 (limb v 1 : Nat), .int .u64 (limb v 2 : Nat), .int .u64 (limb v 3 : Nat)] 25)).alloc (.cells #[.int .u64 (limb v 0 : Nat), .int .u64 (limb v 1 : Nat), .int .u64 (limb v 2 : Nat), .int .u64 (limb v 3 : Nat)] 25))) := ⟨(HR.out.2.1.call hb11).alloc.alloc, Num4.new' (by simp), below_alloc0 (below_alloc0 (below_call0 HR.out.2.2.1 hb11) _) _⟩
        clear hb11 c0 pz
        go_wp2_with (at_builtin; refine wpList_append_RowN _ rfl (.tmp 68) (.tmp 70) rfl w10.heap.size a' m' cap ((shL l (rtL cs)).take k) v rfl HR.out.1 HA.out.1 HA.out.2.2.size HLN.out (w11.heap.size + 1) 1 rfl HA.out.2.1 ?_; intro a5 m5 cap5 w5 hm5 hR5 hb5; have H5 : Hid (m5 = m' + 1 ∧ RowN w5 w10.heap.size a5 ((shL l (rtL cs)).take k ++ [v]) cap5 ∧ Below w10.heap.size w10 w5) := ⟨hm5, hR5, HA.out.2.2.trans hb5⟩; clear hm5 hR5 hb5)
        have HG : Hid (m5 = ((shL l (rtL cs)).take (k + 1)).length ∧ RowN w5 w10.heap.size a5 ((shL l (rtL cs)).take (k + 1)) cap5 ∧ Below w10.heap.size w10 w5) := by
          rw [HV.out]
          exact ⟨by rw [H5.out.1, HR.out.1, List.length_append]; rfl, H5.out.2⟩
        go_roundw
        case rel => first | exact ⟨k + 1, m5, cap5, a5, hlt, by go_num, rfl, HG.out⟩ | ((repeat apply Exists.intro); exact ⟨⟨k + 1, m5, cap5, a5, hlt, by go_num, rfl, HG.out⟩, rfl⟩)
        case measure => simp [intOf]; omega
      · obtain rfl : k = n := by omega
        have hnl : ¬ ((k : Int) < (k : Int)) := Int.lt_irrefl _
        have HF : Hid (m' = k ∧ Nums wr a' (shL l (rtL cs))) := by
          have e1 : (shL l (rtL cs)).take k = shL l (rtL cs) := List.take_of_length_le (by rw [shL_length, ← H0.out.2.2.2.1]; exact Nat.le_refl _)
          have h := HR.out
          rw [e1] at h
          exact ⟨by rw [h.1, shL_length, ← H0.out.2.2.2.1], h.2.1.nums⟩
        obtain rfl : m' = k := HF.out.1
        obtain ⟨V, hV⟩ : ∃ V, V = hoN QQ t (rtL cs) := ⟨_, rfl⟩
        obtain ⟨V0, hV0⟩ : ∃ V, V = ((rtL cs)[0]'HI.out.1) := ⟨_, rfl⟩
        have KJ : Hid (∀ w, GlobQ w → IntsAt w b l → Nums w a' (shL l (rtL cs)) → Calls Tryd.prog 18 #[.slice b m' d, .slice a' m' cap, .agg #[.int .u64 (limb (t) 0 : Nat), .int .u64 (limb (t) 1 : Nat), .int .u64 (limb (t) 2 : Nat), .int .u64 (limb (t) 3 : Nat)]] w fun e w' => e = .returned (.tuple #[.agg #[.int .u64 (limb (V) 0 : Nat), .int .u64 (limb (V) 1 : Nat), .int .u64 (limb (V) 2 : Nat), .int .u64 (limb (V) 3 : Nat)], .int .i64 0]) ∧ Below w.heap.size w w') := fun w h1 h2 h3 => by
          have h := join_in b a' l (shL l (rtL cs)) d cap t HI.out.2.2.2.2 HI.out.2.1 H0.out.2.2.2.2 (shL_length _ _) (shL_all _ _) w h1 h2 h3
          rw [joV_tells (nodes_ok HI.out.2.1).1 (rtL cs) t (by rw [← H0.out.2.2.2.1]; exact HI.out.2.2.1), ← hV, shL_length, ← H0.out.2.2.2.1] at h
          exact h
        have KT : Hid (∀ w, GlobQ w → Nums w pa (rtL cs) → Calls Tryd.prog 9 #[.slice pa P pc, .agg #[.int .u64 (limb (t) 0 : Nat), .int .u64 (limb (t) 1 : Nat), .int .u64 (limb (t) 2 : Nat), .int .u64 (limb (t) 3 : Nat)]] w fun e w' => e = .returned (.tuple #[.agg #[.int .u64 (limb (V) 0 : Nat), .int .u64 (limb (V) 1 : Nat), .int .u64 (limb (V) 2 : Nat), .int .u64 (limb (V) 3 : Nat)], .int .i64 0]) ∧ Below w.heap.size w w') := fun w h1 h2 => by
          rw [hV, H1.out.2.2.2]; exact at_in pa (rtL cs) pc t ⟨HI.out.1, rtL_length cs⟩ (rtL_all cs) H0.out.2.2.2.2 w h1 h2
        have KZ : Hid (∀ w, GlobQ w → IntsAt w b l → Nums w a' (shL l (rtL cs)) → Calls Tryd.prog 18 #[.slice b m' d, .slice a' m' cap, .agg #[.int .u64 0, .int .u64 0, .int .u64 0, .int .u64 0]] w fun e w' => e = .returned (.tuple #[.agg #[.int .u64 (limb (V0) 0 : Nat), .int .u64 (limb (V0) 1 : Nat), .int .u64 (limb (V0) 2 : Nat), .int .u64 (limb (V0) 3 : Nat)], .int .i64 0]) ∧ Below w.heap.size w w') := fun w h1 h2 h3 => by
          have h := join_in b a' l (shL l (rtL cs)) d cap 0 HI.out.2.2.2.2 HI.out.2.1 QQ_pos (shL_length _ _) (shL_all _ _) w h1 h2 h3
          rw [joV_tells (nodes_ok HI.out.2.1).1 (rtL cs) 0 (by rw [← H0.out.2.2.2.1]; exact HI.out.2.2.1), hoN_nought (rtL cs) HI.out.1 (allQ_get (rtL_all cs) HI.out.1), ← hV0, shL_length, ← H0.out.2.2.2.1, limb_nought, limb_nought, limb_nought, limb_nought] at h
          exact h
        have HV0 : Hid (V0 = ((rtL cs)[0]'HI.out.1)) := hV0
        have e1 := eq4_self' (limb V 0 : Nat) (limb V 1 : Nat) (limb V 2 : Nat) (limb V 3 : Nat)
        have e2 := eq4_self' (limb V0 0 : Nat) (limb V0 1 : Nat) (limb V0 2 : Nat) (limb V0 3 : Nat)
        have hP0 : 0 < P := by have := H1.out.2.2.2; have := HI.out.1; omega
        clear hlt hk hV hV0
        go_wp2_with fail
        refine HKr.out _ _ ?_
        clear HKr
        obtain ⟨⟨t0, t1, t2, t3⟩, _, tz⟩ := (HO.out.1.call HR.out.2.2.1).facts
        go_wp2_with fail
        refine (KJ.out _ (H0.out.1.call HR.out.2.2.2) (H0.out.2.2.1.call HR.out.2.2.2) HF.out.2).mono ?_
        rintro e w11 ⟨rfl, hb11⟩
        have H11 : Hid (Below wr.heap.size wr (w11.alloc (.cells #[.int .u64 (limb V 0 : Nat), .int .u64 (limb V 1 : Nat), .int .u64 (limb V 2 : Nat), .int .u64 (limb V 3 : Nat)] 25)) ∧ Own4 (w11.alloc (.cells #[.int .u64 (limb V 0 : Nat), .int .u64 (limb V 1 : Nat), .int .u64 (limb V 2 : Nat), .int .u64 (limb V 3 : Nat)] 25)) w11.heap.size V) := ⟨below_alloc0 hb11 _, Own4.new _ _ _⟩
        clear hb11 t0 t1 t2 t3 tz
        obtain ⟨⟨t0, t1, t2, t3⟩, _, tz⟩ := ((HO.out.1.call HR.out.2.2.1).call H11.out.1).facts
        go_wp2_with fail
        refine (KT.out _ ((H0.out.1.call HR.out.2.2.2).call H11.out.1) ((HO.out.2.call HR.out.2.2.1).call H11.out.1)).mono ?_
        rintro e w13 ⟨rfl, hb13⟩
        have H13 : Hid (Below wr.heap.size wr (w13.alloc (.cells #[.int .u64 (limb V 0 : Nat), .int .u64 (limb V 1 : Nat), .int .u64 (limb V 2 : Nat), .int .u64 (limb V 3 : Nat)] 25)) ∧ Own4 (w13.alloc (.cells #[.int .u64 (limb V 0 : Nat), .int .u64 (limb V 1 : Nat), .int .u64 (limb V 2 : Nat), .int .u64 (limb V 3 : Nat)] 25)) w11.heap.size V ∧ Own4 (w13.alloc (.cells #[.int .u64 (limb V 0 : Nat), .int .u64 (limb V 1 : Nat), .int .u64 (limb V 2 : Nat), .int .u64 (limb V 3 : Nat)] 25)) w13.heap.size V) := ⟨below_alloc0 (below_call0 H11.out.1 hb13) _, (H11.out.2.call hb13).alloc, Own4.new _ _ _⟩
        clear hb13 t0 t1 t2 t3 tz H11
        go_wp2_with fail
        refine (KZ.out _ ((H0.out.1.call HR.out.2.2.2).call H13.out.1) ((H0.out.2.2.1.call HR.out.2.2.2).call H13.out.1) (HF.out.2.call H13.out.1)).mono ?_
        rintro e w15 ⟨rfl, hb15⟩
        obtain ⟨w16, hw16⟩ : ∃ y, y = w15.alloc (.cells #[.int .u64 (limb V0 0 : Nat), .int .u64 (limb V0 1 : Nat), .int .u64 (limb V0 2 : Nat), .int .u64 (limb V0 3 : Nat)] 25) := ⟨_, rfl⟩
        have H16 : Hid (Below wr.heap.size wr w16 ∧ Own4 w16 w11.heap.size V ∧ Own4 w16 w13.heap.size V ∧ Own4 w16 w15.heap.size V0 ∧ w16 = w15.alloc (.cells #[.int .u64 (limb V0 0 : Nat), .int .u64 (limb V0 1 : Nat), .int .u64 (limb V0 2 : Nat), .int .u64 (limb V0 3 : Nat)] 25)) := by
          refine ⟨?_, ?_, ?_, ?_, hw16⟩
          · rw [hw16]; exact below_alloc0 (below_call0 H13.out.1 hb15) _
          · rw [hw16]; exact (H13.out.2.1.call hb15).alloc
          · rw [hw16]; exact (H13.out.2.2.call hb15).alloc
          · rw [hw16]; exact Own4.new _ _ _
        clear hb15 hw16 H13
        go_wp2_with fail
        rw [← H16.out.2.2.2.2]
        obtain ⟨p, o, rfl, ⟨d0, d1, d2, d3⟩, dz⟩ := ((HO.out.2.call HR.out.2.2.1).call H16.out.1).get HI.out.1
        rw [← HV0.out, Nat.zero_mul, Nat.add_zero] at d0 d1 d2 d3
        have HD : Hid (∀ w', Below w16.heap.size w16 w' → (w'.cell? ⟨p, o, none⟩ = some (.int .u64 (limb V0 0 : Nat)) ∧ w'.cell? ⟨p, o + 1, none⟩ = some (.int .u64 (limb V0 1 : Nat)) ∧ w'.cell? ⟨p, o + 2, none⟩ = some (.int .u64 (limb V0 2 : Nat)) ∧ w'.cell? ⟨p, o + 3, none⟩ = some (.int .u64 (limb V0 3 : Nat))) ∧ p < w'.heap.size) := fun w' hb => by
          have e := fun j => hb.cell (p := ⟨p, j, none⟩) dz
          exact ⟨⟨(e _).trans d0, (e _).trans d1, (e _).trans d2, (e _).trans d3⟩, Nat.lt_of_lt_of_le dz hb.size⟩
        clear d0 d1 d2 d3 dz
        refine wp_region_N (fun w' => Below w16.heap.size w16 w') 25 26 rfl (by kernel_rfl) ?_
        refine wpAnyN_takeF (i := 0) (oi := ?o0zy6) (v := ?v0zy6) ?hi0zy6 (by kernel_rfl) (by kernel_rfl) (by kernel_rfl) (by decide) ?hQ0zy6 ?hy0zy6 (Below.drew (Below.refl _ _)) ?more0zy6
        case hi0zy6 => rw [List.getElem?_toArray]; exact rfl
        case hQ0zy6 => exact fun _ _ _ h => h
        case hy0zy6 =>
          refine Or.inl ⟨by rfl, ?_⟩
          intro w' hSw
          clear hSw
          go_simp
          try with_reducible rfl
        simp only [Act.put, List.setIfInBounds_toArray, List.set_cons_zero, List.set_cons_succ]
        refine wpAnyN_takeF (i := 1) (oi := ?o1zy6) (v := ?v1zy6) ?hi1zy6 (by kernel_rfl) (by kernel_rfl) (by kernel_rfl) (by decide) ?hQ1zy6 ?hy1zy6 (Below.drew (Below.refl _ _)) ?more1zy6
        case hi1zy6 => rw [List.getElem?_toArray]; exact rfl
        case hQ1zy6 => exact fun _ _ _ h => h
        case hy1zy6 =>
          refine Or.inl ⟨by rfl, ?_⟩
          intro w' hSw
          clear hSw
          go_simp
          try with_reducible rfl
        simp only [Act.put, List.setIfInBounds_toArray, List.set_cons_zero, List.set_cons_succ]
        refine wpAnyN_takeF (i := 2) (oi := ?o2zy6) (v := ?v2zy6) ?hi2zy6 (by kernel_rfl) (by kernel_rfl) (by kernel_rfl) (by decide) ?hQ2zy6 ?hy2zy6 (Below.drew (Below.refl _ _)) ?more2zy6
        case hi2zy6 => rw [List.getElem?_toArray]; exact rfl
        case hQ2zy6 => exact fun _ _ _ h => h
        case hy2zy6 =>
          refine Or.inl ⟨by rfl, ?_⟩
          intro w' hSw
          clear hSw
          go_simp
          try with_reducible rfl
        simp only [Act.put, List.setIfInBounds_toArray, List.set_cons_zero, List.set_cons_succ]
        refine wpAnyN_takeF (i := 3) (oi := ?o3zy6) (v := ?v3zy6) ?hi3zy6 (by kernel_rfl) (by kernel_rfl) (by kernel_rfl) (by decide) ?hQ3zy6 ?hy3zy6 (Below.drew (Below.refl _ _)) ?more3zy6
        case hi3zy6 => rw [List.getElem?_toArray]; exact rfl
        case hQ3zy6 => exact fun _ _ _ h => h
        case hy3zy6 =>
          refine Or.inl ⟨by rfl, ?_⟩
          intro w' hSw
          clear hSw
          go_simp
          try with_reducible rfl
        simp only [Act.put, List.setIfInBounds_toArray, List.set_cons_zero, List.set_cons_succ]
        refine wpAnyN_takeF (i := 4) (oi := ?o4zy6) (v := ?v4zy6) ?hi4zy6 (by kernel_rfl) (by kernel_rfl) (by kernel_rfl) (by decide) ?hQ4zy6 ?hy4zy6 (Below.drew (Below.refl _ _)) ?more4zy6
        case hi4zy6 => rw [List.getElem?_toArray]; exact rfl
        case hQ4zy6 => exact fun _ _ _ h => h
        case hy4zy6 =>
          refine Or.inl ⟨by rfl, ?_⟩
          intro w' hSw
          clear hSw
          go_simp
          try with_reducible rfl
        simp only [Act.put, List.setIfInBounds_toArray, List.set_cons_zero, List.set_cons_succ]
        refine wpAnyN_takeF (i := 5) (oi := ?o5zy6) (v := ?v5zy6) ?hi5zy6 (by kernel_rfl) (by kernel_rfl) (by kernel_rfl) (by decide) ?hQ5zy6 ?hy5zy6 (Below.drew (Below.refl _ _)) ?more5zy6
        case hi5zy6 => rw [List.getElem?_toArray]; exact rfl
        case hQ5zy6 => exact fun _ _ _ h => h
        case hy5zy6 =>
          refine Or.inl ⟨by rfl, ?_⟩
          intro w' hSw
          clear hSw
          go_simp
          try with_reducible rfl
        simp only [Act.put, List.setIfInBounds_toArray, List.set_cons_zero, List.set_cons_succ]
        refine wpAnyN_takeF (i := 6) (oi := ?o6zy6) (v := ?v6zy6) ?hi6zy6 (by kernel_rfl) (by kernel_rfl) (by kernel_rfl) (by decide) ?hQ6zy6 ?hy6zy6 (Below.drew (Below.refl _ _)) ?more6zy6
        case hi6zy6 => rw [List.getElem?_toArray]; exact rfl
        case hQ6zy6 => exact fun _ _ _ h => h
        case hy6zy6 =>
          refine Or.inl ⟨by rfl, ?_⟩
          intro w' hSw
          clear hSw
          go_simp
          try with_reducible rfl
        simp only [Act.put, List.setIfInBounds_toArray, List.set_cons_zero, List.set_cons_succ]
        refine wpAnyN_takeF (i := 7) (oi := ?o7zy6) (v := ?v7zy6) ?hi7zy6 (by kernel_rfl) (by kernel_rfl) (by kernel_rfl) (by decide) ?hQ7zy6 ?hy7zy6 (Below.drew (Below.refl _ _)) ?more7zy6
        case hi7zy6 => rw [List.getElem?_toArray]; exact rfl
        case hQ7zy6 => exact fun _ _ _ h => h
        case hy7zy6 =>
          refine Or.inl ⟨by rfl, ?_⟩
          intro w' hSw
          clear hSw
          go_simp
          try with_reducible rfl
        simp only [Act.put, List.setIfInBounds_toArray, List.set_cons_zero, List.set_cons_succ]
        refine wpAnyN_takeF (i := 8) (oi := ?o8zy6) (v := ?v8zy6) ?hi8zy6 (by kernel_rfl) (by kernel_rfl) (by kernel_rfl) (by decide) ?hQ8zy6 ?hy8zy6 (Below.drew (Below.refl _ _)) ?more8zy6
        case hi8zy6 => rw [List.getElem?_toArray]; exact rfl
        case hQ8zy6 => exact fun _ _ _ h => h
        case hy8zy6 =>
          refine Or.inl ⟨by rfl, ?_⟩
          intro w' hSw
          clear hSw
          go_simp
          try with_reducible rfl
        simp only [Act.put, List.setIfInBounds_toArray, List.set_cons_zero, List.set_cons_succ]
        refine wpAnyN_takeF (i := 9) (oi := ?o9zy6) (v := ?v9zy6) ?hi9zy6 (by kernel_rfl) (by kernel_rfl) (by kernel_rfl) (by decide) ?hQ9zy6 ?hy9zy6 (Below.drew (Below.refl _ _)) ?more9zy6
        case hi9zy6 => rw [List.getElem?_toArray]; exact rfl
        case hQ9zy6 => exact fun _ _ _ h => h
        case hy9zy6 =>
          refine Or.inl ⟨by rfl, ?_⟩
          intro w' hSw
          clear hSw
          go_simp
          try with_reducible rfl
        simp only [Act.put, List.setIfInBounds_toArray, List.set_cons_zero, List.set_cons_succ]
        refine wpAnyN_takeF (i := 10) (oi := ?o10zy6) (v := ?v10zy6) ?hi10zy6 (by kernel_rfl) (by kernel_rfl) (by kernel_rfl) (by decide) ?hQ10zy6 ?hy10zy6 (Below.drew (Below.refl _ _)) ?more10zy6
        case hi10zy6 => rw [List.getElem?_toArray]; exact rfl
        case hQ10zy6 => exact fun _ _ _ h => h
        case hy10zy6 =>
          refine Or.inl ⟨by rfl, ?_⟩
          intro w' hSw
          clear hSw
          go_simp
          try with_reducible rfl
        simp only [Act.put, List.setIfInBounds_toArray, List.set_cons_zero, List.set_cons_succ]
        refine wpAnyN_takeL (i := 11) (oi := ?o11zy6) (v := ?v11zy6) [13, 14, 15, 22, 23, 25] ?hi11zy6 (by kernel_rfl) (by kernel_rfl) (by kernel_rfl) (by kernel_rfl) (by decide) (by decide) (by kernel_rfl) ?hQ11zy6 ?hy11zy6 (Below.drew (Below.refl _ _)) ?more11zy6
        case hi11zy6 => rw [List.getElem?_toArray]; exact rfl
        case hQ11zy6 => exact fun _ _ _ h => h
        case hy11zy6 =>
          refine Or.inl ⟨by rfl, ?_⟩
          intro w' hSw
          obtain ⟨⟨o0, o1, o2, o3⟩, _, oz⟩ := (H16.out.2.1.call hSw).facts
          obtain ⟨⟨m0, m1, m2, m3⟩, _, mz⟩ := (H16.out.2.2.1.call hSw).facts
          obtain ⟨⟨s0, s1, s2, s3⟩, _, sz⟩ := (H16.out.2.2.2.1.call hSw).facts
          obtain ⟨⟨d0, d1, d2, d3⟩, dz⟩ := HD.out _ hSw
          clear hSw
          go_simp
          try with_reducible rfl
        simp only [Act.put, List.setIfInBounds_toArray, List.set_cons_zero, List.set_cons_succ]
        refine wpAnyN_takeL (i := 12) (oi := ?o12zy6) (v := ?v12zy6) [13, 14, 15, 22, 23, 25] ?hi12zy6 (by kernel_rfl) (by kernel_rfl) (by kernel_rfl) (by kernel_rfl) (by decide) (by decide) (by kernel_rfl) ?hQ12zy6 ?hy12zy6 (Below.drew (Below.refl _ _)) ?more12zy6
        case hi12zy6 => rw [List.getElem?_toArray]; exact rfl
        case hQ12zy6 => exact fun _ _ _ h => h
        case hy12zy6 =>
          refine Or.inl ⟨by rfl, ?_⟩
          intro w' hSw
          obtain ⟨⟨o0, o1, o2, o3⟩, _, oz⟩ := (H16.out.2.1.call hSw).facts
          obtain ⟨⟨m0, m1, m2, m3⟩, _, mz⟩ := (H16.out.2.2.1.call hSw).facts
          obtain ⟨⟨s0, s1, s2, s3⟩, _, sz⟩ := (H16.out.2.2.2.1.call hSw).facts
          obtain ⟨⟨d0, d1, d2, d3⟩, dz⟩ := HD.out _ hSw
          clear hSw
          go_simp
          try with_reducible rfl
        simp only [Act.put, List.setIfInBounds_toArray, List.set_cons_zero, List.set_cons_succ]
        refine wpAnyN_takeF (i := 13) (oi := ?o13zy6) (v := ?v13zy6) ?hi13zy6 (by kernel_rfl) (by kernel_rfl) (by kernel_rfl) (by decide) ?hQ13zy6 ?hy13zy6 (Below.drew (Below.refl _ _)) ?more13zy6
        case hi13zy6 => rw [List.getElem?_toArray]; exact rfl
        case hQ13zy6 => exact fun _ _ _ h => h
        case hy13zy6 =>
          refine Or.inl ⟨by rfl, ?_⟩
          intro w' hSw
          clear hSw
          go_simp
          try with_reducible rfl
        simp only [Act.put, List.setIfInBounds_toArray, List.set_cons_zero, List.set_cons_succ]
        refine wpAnyN_takeF (i := 14) (oi := ?o14zy6) (v := ?v14zy6) ?hi14zy6 (by kernel_rfl) (by kernel_rfl) (by kernel_rfl) (by decide) ?hQ14zy6 ?hy14zy6 (Below.drew (Below.refl _ _)) ?more14zy6
        case hi14zy6 => rw [List.getElem?_toArray]; exact rfl
        case hQ14zy6 => exact fun _ _ _ h => h
        case hy14zy6 =>
          refine Or.inl ⟨by rfl, ?_⟩
          intro w' hSw
          clear hSw
          go_simp
          try with_reducible rfl
        simp only [Act.put, List.setIfInBounds_toArray, List.set_cons_zero, List.set_cons_succ]
        refine wpAnyN_takeF (i := 15) (oi := ?o15zy6) (v := ?v15zy6) ?hi15zy6 (by kernel_rfl) (by kernel_rfl) (by kernel_rfl) (by decide) ?hQ15zy6 ?hy15zy6 (Below.drew (Below.refl _ _)) ?more15zy6
        case hi15zy6 => rw [List.getElem?_toArray]; exact rfl
        case hQ15zy6 => exact fun _ _ _ h => h
        case hy15zy6 =>
          refine Or.inl ⟨by rfl, ?_⟩
          intro w' hSw
          clear hSw
          go_simp
          try with_reducible rfl
        simp only [Act.put, List.setIfInBounds_toArray, List.set_cons_zero, List.set_cons_succ]
        refine wpAnyN_takeL (i := 16) (oi := ?o16zy6) (v := ?v16zy6) [20, 21, 22, 23, 25] ?hi16zy6 (by kernel_rfl) (by kernel_rfl) (by kernel_rfl) (by kernel_rfl) (by decide) (by decide) (by kernel_rfl) ?hQ16zy6 ?hy16zy6 (Below.drew (Below.refl _ _)) ?more16zy6
        case hi16zy6 => rw [List.getElem?_toArray]; exact rfl
        case hQ16zy6 => exact fun _ _ _ h => h
        case hy16zy6 =>
          refine Or.inl ⟨by rfl, ?_⟩
          intro w' hSw
          obtain ⟨⟨o0, o1, o2, o3⟩, _, oz⟩ := (H16.out.2.1.call hSw).facts
          obtain ⟨⟨m0, m1, m2, m3⟩, _, mz⟩ := (H16.out.2.2.1.call hSw).facts
          obtain ⟨⟨s0, s1, s2, s3⟩, _, sz⟩ := (H16.out.2.2.2.1.call hSw).facts
          obtain ⟨⟨d0, d1, d2, d3⟩, dz⟩ := HD.out _ hSw
          clear hSw
          go_simp
          try with_reducible rfl
        simp only [Act.put, List.setIfInBounds_toArray, List.set_cons_zero, List.set_cons_succ]
        refine wpAnyN_takeF (i := 17) (oi := ?o17zy6) (v := ?v17zy6) ?hi17zy6 (by kernel_rfl) (by kernel_rfl) (by kernel_rfl) (by decide) ?hQ17zy6 ?hy17zy6 (Below.drew (Below.refl _ _)) ?more17zy6
        case hi17zy6 => rw [List.getElem?_toArray]; exact rfl
        case hQ17zy6 => exact fun _ _ _ h => h
        case hy17zy6 =>
          refine Or.inl ⟨by rfl, ?_⟩
          intro w' hSw
          clear hSw
          go_simp
          try with_reducible rfl
        simp only [Act.put, List.setIfInBounds_toArray, List.set_cons_zero, List.set_cons_succ]
        refine wpAnyN_takeF (i := 18) (oi := ?o18zy6) (v := ?v18zy6) ?hi18zy6 (by kernel_rfl) (by kernel_rfl) (by kernel_rfl) (by decide) ?hQ18zy6 ?hy18zy6 (Below.drew (Below.refl _ _)) ?more18zy6
        case hi18zy6 => rw [List.getElem?_toArray]; exact rfl
        case hQ18zy6 => exact fun _ _ _ h => h
        case hy18zy6 =>
          refine Or.inl ⟨by rfl, ?_⟩
          intro w' hSw
          clear hSw
          go_simp
          try with_reducible rfl
        simp only [Act.put, List.setIfInBounds_toArray, List.set_cons_zero, List.set_cons_succ]
        refine wpAnyN_takeL (i := 19) (oi := ?o19zy6) (v := ?v19zy6) [20, 21, 22, 23, 25] ?hi19zy6 (by kernel_rfl) (by kernel_rfl) (by kernel_rfl) (by kernel_rfl) (by decide) (by decide) (by kernel_rfl) ?hQ19zy6 ?hy19zy6 (Below.drew (Below.refl _ _)) ?more19zy6
        case hi19zy6 => rw [List.getElem?_toArray]; exact rfl
        case hQ19zy6 => exact fun _ _ _ h => h
        case hy19zy6 =>
          refine Or.inl ⟨by rfl, ?_⟩
          intro w' hSw
          obtain ⟨⟨o0, o1, o2, o3⟩, _, oz⟩ := (H16.out.2.1.call hSw).facts
          obtain ⟨⟨m0, m1, m2, m3⟩, _, mz⟩ := (H16.out.2.2.1.call hSw).facts
          obtain ⟨⟨s0, s1, s2, s3⟩, _, sz⟩ := (H16.out.2.2.2.1.call hSw).facts
          obtain ⟨⟨d0, d1, d2, d3⟩, dz⟩ := HD.out _ hSw
          clear hSw
          go_simp
          try with_reducible rfl
        simp only [Act.put, List.setIfInBounds_toArray, List.set_cons_zero, List.set_cons_succ]
        refine wpAnyN_takeF (i := 20) (oi := ?o20zy6) (v := ?v20zy6) ?hi20zy6 (by kernel_rfl) (by kernel_rfl) (by kernel_rfl) (by decide) ?hQ20zy6 ?hy20zy6 (Below.drew (Below.refl _ _)) ?more20zy6
        case hi20zy6 => rw [List.getElem?_toArray]; exact rfl
        case hQ20zy6 => exact fun _ _ _ h => h
        case hy20zy6 =>
          refine Or.inl ⟨by rfl, ?_⟩
          intro w' hSw
          clear hSw
          go_simp
          try with_reducible rfl
        simp only [Act.put, List.setIfInBounds_toArray, List.set_cons_zero, List.set_cons_succ]
        refine wpAnyN_takeF (i := 21) (oi := ?o21zy6) (v := ?v21zy6) ?hi21zy6 (by kernel_rfl) (by kernel_rfl) (by kernel_rfl) (by decide) ?hQ21zy6 ?hy21zy6 (Below.drew (Below.refl _ _)) ?more21zy6
        case hi21zy6 => rw [List.getElem?_toArray]; exact rfl
        case hQ21zy6 => exact fun _ _ _ h => h
        case hy21zy6 =>
          refine Or.inl ⟨by rfl, ?_⟩
          intro w' hSw
          clear hSw
          go_simp
          try with_reducible rfl
        simp only [Act.put, List.setIfInBounds_toArray, List.set_cons_zero, List.set_cons_succ]
        refine wpAnyN_takeF (i := 22) (oi := ?o22zy6) (v := ?v22zy6) ?hi22zy6 (by kernel_rfl) (by kernel_rfl) (by kernel_rfl) (by decide) ?hQ22zy6 ?hy22zy6 (Below.drew (Below.refl _ _)) ?more22zy6
        case hi22zy6 => rw [List.getElem?_toArray]; exact rfl
        case hQ22zy6 => exact fun _ _ _ h => h
        case hy22zy6 =>
          refine Or.inl ⟨by rfl, ?_⟩
          intro w' hSw
          clear hSw
          go_simp
          try with_reducible rfl
        simp only [Act.put, List.setIfInBounds_toArray, List.set_cons_zero, List.set_cons_succ]
        refine wpAnyN_one (i := 23) (o := ?o23zy6) (by kernel_rfl) ?hi23zy6 ?hw23zy6 ?st23zy6
        case hi23zy6 => rw [List.getElem?_toArray]; exact rfl
        case hw23zy6 => exact rfl
        intro K hK
        have HK23 : Hid _ := hK
        clear hK
        go_simp
        refine (KL.out _ (GlobQ.drew ((H0.out.1.call HR.out.2.2.2).call H16.out.1))).mono ?_
        rintro e w17 ⟨rfl, hq⟩
        have H17 : Hid (Below w16.heap.size w16 w17) := below_call0 (Below.drew (Below.refl _ _)) hq
        clear hq
        go_wp2_with fail
        refine HK23.out _ _ ⟨fun _ => H17.out, ?_⟩
        clear HK23 K
        try simp only [Act.put, List.setIfInBounds_toArray, List.set_cons_zero, List.set_cons_succ]
        refine wpAnyN_takeF (i := 24) (oi := ?o24zy6) (v := ?v24zy6) ?hi24zy6 (by kernel_rfl) (by kernel_rfl) (by kernel_rfl) (by decide) ?hQ24zy6 ?hy24zy6 H17.out ?more24zy6
        case hi24zy6 => rw [List.getElem?_toArray]; exact rfl
        case hQ24zy6 => exact fun _ _ _ h => h
        case hy24zy6 =>
          refine Or.inl ⟨by rfl, ?_⟩
          intro w' hSw
          clear hSw
          go_simp
          try with_reducible rfl
        simp only [Act.put, List.setIfInBounds_toArray, List.set_cons_zero, List.set_cons_succ]
        refine wpAnyN_one (i := 25) (o := ?o25zy6) (by kernel_rfl) ?hi25zy6 ?hw25zy6 ?st25zy6
        case hi25zy6 => rw [List.getElem?_toArray]; exact rfl
        case hw25zy6 => exact rfl
        intro K hK
        have HK25 : Hid _ := hK
        clear hK
        go_simp
        refine HK25.out _ _ ⟨fun h => absurd h (by decide +kernel), ?_⟩
        clear HK25 K
        try simp only [Act.put, List.setIfInBounds_toArray, List.set_cons_zero, List.set_cons_succ]
        refine wpAnyN_done (by kernel_rfl) ?_ _
        go_wp2_with fail
        go_ret
        exact ⟨rfl, below_call0 (below_call0 HR.out.2.2.2 H16.out.1) H17.out⟩
theorem shareBack_any (a b : Option Addr) (cs : List Nat) (l : List Int) (c d x : Nat) (hc : cs.length ≤ 4398046511104) (hR : ∀ n ∈ cs, n < R256) (hl : l.length ≤ 17592186044416) (hxR : x < R256) (w : World) (hG : GlobQ w) (hS : Nums w a cs) (hN : IntsAt w b l) :
    Calls Tryd.prog 7 #[.slice a cs.length c, .slice b l.length d, .agg #[.int .u64 (limb (x) 0 : Nat), .int .u64 (limb (x) 1 : Nat), .int .u64 (limb (x) 2 : Nat), .int .u64 (limb (x) 3 : Nat)]] w fun e w' => e = .returned (.bool true) ∧ Below w.heap.size w w' := by
  by_cases h0 : (rtL cs).length = 0
  · exact sb_nil a b cs l c d x hc hR hl hxR h0 w hG hS hN
  · by_cases hb : nodesOk l = true
    · by_cases hf : l.length < (rtL cs).length
      · exact sb_few a b cs l c d x hc hR hl hxR (by omega) hb hf w hG hS hN
      · exact sb_in a b cs l c d x hc hR hl hxR (by omega) hb (by omega) w hG hS hN
    · exact sb_bad a b cs l c d x hc hR hl hxR (by omega) (by simpa using hb) w hG hS hN
end Go.Proofs.YtcdiehnkknmbeaaDoor
