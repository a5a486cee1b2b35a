/- The reference of layer 12: Open, of an ack; and as a whole. -/
import Derived.Test.YtadcjdffjhiniaaLkJ
namespace Go.Proofs.Ytadcjdffjhiniaa
open Go Go.RowKit Go.Lib

set_option maxRecDepth 100000 in
set_option maxHeartbeats 4000000 in
theorem ropen2_a (a b : ByteArray) (s : ByteArray) (A B : Int) (hA : numV a = A) (hB : numV b = B) (hs : s.size < 140737488351233) (h1 : upE s.data.toList = 0) (h2 : upK s.data.toList = 2) (h3 : upL s.data.toList = a :: b :: []) (c1 : A < 1) (w : World) :
    Calls Try.prog 24 #[.string s, .int .i64 2] w fun e w' => e = .returned (.tuple #[.agg #[.int .i64 0, .int .i64 0, .string ⟨#[]⟩], .bool false]) ∧ Below w.heap.size w w' := by
  have hz := upL_ok h1
  rw [h3] at hz
  have KA : Hid _ := fun w' : World => rnumber_any a (by have := hz a (by simp); omega) w'
  have KB : Hid _ := fun w' : World => rnumber_any b (by have := hz b (by simp); omega) w'
  rw [hA] at KA
  rw [hB] at KB
  have KU : Hid _ := fun w' : World => runpack_any s hs w'
  unfold rupPost at KU
  rw [h1, h2, h3] at KU
  have KU : Hid (∀ w' : World, Calls Try.prog 34 #[.string s] w' fun e w'' => ∃ p cap, e = .returned (.tuple #[.agg #[.int .i64 2, .slice p 2 cap], .int .i64 0]) ∧ Strs w'' p (a :: b :: []) ∧ Below w'.heap.size w' w'') := KU.out
  clear hz h1 h2 h3 hs hA hB
  go_enter Try.func24, Try.ntmps24
  go_wp2_with fail
  refine (KU.out _).mono ?_
  rintro e w1 ⟨p, cap, rfl, hS1, hb1⟩
  obtain ⟨pb, po, rfl, -, hpb⟩ := hS1 0 a rfl
  obtain ⟨G, hG⟩ : ∃ G, G = w.heap.size := ⟨_, rfl⟩
  have H1 : Hid (Own3 w1 G 0 0 ⟨#[]⟩ ∧ Strs w1 (some ⟨pb, po, none⟩) (a :: b :: []) ∧ Below w.heap.size w w1 ∧ G = w.heap.size) := by
    rw [hG]
    exact ⟨(Zr.new rfl).call hb1, hS1, below_call0 (below_alloc0 (Below.refl _ _) _) hb1, rfl⟩
  rw [← hG]
  clear hb1 hS1 KU hG hpb
  obtain ⟨⟨g0, g1, g2⟩, gf, gz⟩ := H1.out.1
  have gf0 := gf 0
  have gf1 := gf 1
  have gf2 := gf 2
  go_wp2_with fail
  obtain ⟨w2, hw2⟩ : ∃ y, y = w1.alloc (.cells #[.int .i64 2, .slice (some ⟨pb, po, none⟩) 2 cap] 83) := ⟨_, rfl⟩
  obtain ⟨R, hR⟩ : ∃ R, R = w1.heap.size := ⟨_, rfl⟩
  have H2 : Hid (OpenAt w w2 2 G R ⟨pb, po, none⟩ 2 cap (a :: b :: []) ∧ G ≠ R) := by
    rw [hw2, hR]
    have hb : Below w1.heap.size w1 (w1.alloc (.cells #[.int .i64 2, .slice (some ⟨pb, po, none⟩) 2 cap] 83)) := below_alloc0 (Below.refl _ _) _
    exact ⟨⟨H1.out.1.call hb, ⟨by simp [go_sem], by simp [go_sem]⟩, by simp, H1.out.2.1.call hb, H1.out.2.2.2, below_call0 H1.out.2.2.1 hb⟩, Nat.ne_of_lt H1.out.1.2.2⟩
  rw [← hw2, ← hR]
  clear hw2 hR g0 g1 g2 gf gf0 gf1 gf2 gz H1
  refine wp_region_N (fun w' => Below w2.heap.size w2 w') 12 13 rfl (by kernel_rfl) ?_
  refine wpAnyN_take (i := 0) (oi := ?o0) (v := ?v0) ?hi0 (by kernel_rfl) (by kernel_rfl) (by kernel_rfl) (by kernel_rfl) (by decide) (by kernel_rfl) ?hQ0 ?hy0 (Below.drew (Below.refl _ _)) ?more0
  case hi0 => rw [List.getElem?_toArray]; exact rfl
  case hQ0 => exact fun _ _ _ h => h
  case hy0 =>
    refine Or.inl ⟨by rfl, ?_⟩
    intro w' hSw
    have hO := H2.out.1.call hSw
    obtain ⟨-, ⟨-, r1⟩, -, hS, -⟩ := hO
    obtain ⟨_, _, he, i0, -⟩ := hS 0 a rfl
    cases he
    obtain ⟨_, _, he, i1, -⟩ := hS 1 b rfl
    cases he
    rw [Nat.add_zero] at i0
    clear hSw hS
    go_simp
    try with_reducible rfl
  simp only [Act.put, List.setIfInBounds_toArray, List.set_cons_zero, List.set_cons_succ]
  refine wpAnyN_take (i := 1) (oi := ?o1) (v := ?v1) ?hi1 (by kernel_rfl) (by kernel_rfl) (by kernel_rfl) (by kernel_rfl) (by decide) (by kernel_rfl) ?hQ1 ?hy1 (Below.drew (Below.refl _ _)) ?more1
  case hi1 => rw [List.getElem?_toArray]; exact rfl
  case hQ1 => exact fun _ _ _ h => h
  case hy1 =>
    refine Or.inl ⟨by rfl, ?_⟩
    intro w' hSw
    have hO := H2.out.1.call hSw
    obtain ⟨-, ⟨-, r1⟩, -, hS, -⟩ := hO
    obtain ⟨_, _, he, i0, -⟩ := hS 0 a rfl
    cases he
    obtain ⟨_, _, he, i1, -⟩ := hS 1 b rfl
    cases he
    rw [Nat.add_zero] at i0
    clear hSw hS
    go_simp
    try with_reducible rfl
  simp only [Act.put, List.setIfInBounds_toArray, List.set_cons_zero, List.set_cons_succ]
  refine wpAnyN_take (i := 2) (oi := ?o2) (v := ?v2) ?hi2 (by kernel_rfl) (by kernel_rfl) (by kernel_rfl) (by kernel_rfl) (by decide) (by kernel_rfl) ?hQ2 ?hy2 (Below.drew (Below.refl _ _)) ?more2
  case hi2 => rw [List.getElem?_toArray]; exact rfl
  case hQ2 => exact fun _ _ _ h => h
  case hy2 =>
    refine Or.inl ⟨by rfl, ?_⟩
    intro w' hSw
    have hO := H2.out.1.call hSw
    obtain ⟨-, ⟨-, r1⟩, -, hS, -⟩ := hO
    obtain ⟨_, _, he, i0, -⟩ := hS 0 a rfl
    cases he
    obtain ⟨_, _, he, i1, -⟩ := hS 1 b rfl
    cases he
    rw [Nat.add_zero] at i0
    clear hSw hS
    go_simp
    try with_reducible rfl
  simp only [Act.put, List.setIfInBounds_toArray, List.set_cons_zero, List.set_cons_succ]
  refine wpAnyN_take (i := 3) (oi := ?o3) (v := ?v3) ?hi3 (by kernel_rfl) (by kernel_rfl) (by kernel_rfl) (by kernel_rfl) (by decide) (by kernel_rfl) ?hQ3 ?hy3 (Below.drew (Below.refl _ _)) ?more3
  case hi3 => rw [List.getElem?_toArray]; exact rfl
  case hQ3 => exact fun _ _ _ h => h
  case hy3 =>
    refine Or.inl ⟨by rfl, ?_⟩
    intro w' hSw
    have hO := H2.out.1.call hSw
    obtain ⟨-, ⟨-, r1⟩, -, hS, -⟩ := hO
    obtain ⟨_, _, he, i0, -⟩ := hS 0 a rfl
    cases he
    obtain ⟨_, _, he, i1, -⟩ := hS 1 b rfl
    cases he
    rw [Nat.add_zero] at i0
    clear hSw hS
    go_simp
    try with_reducible rfl
  simp only [Act.put, List.setIfInBounds_toArray, List.set_cons_zero, List.set_cons_succ]
  refine wpAnyN_take (i := 5) (oi := ?o5) (v := ?v5) ?hi5 (by kernel_rfl) (by kernel_rfl) (by kernel_rfl) (by kernel_rfl) (by decide) (by kernel_rfl) ?hQ5 ?hy5 (Below.drew (Below.refl _ _)) ?more5
  case hi5 => rw [List.getElem?_toArray]; exact rfl
  case hQ5 => exact fun _ _ _ h => h
  case hy5 =>
    refine Or.inl ⟨by rfl, ?_⟩
    intro w' hSw
    have hO := H2.out.1.call hSw
    obtain ⟨-, ⟨-, r1⟩, -, hS, -⟩ := hO
    obtain ⟨_, _, he, i0, -⟩ := hS 0 a rfl
    cases he
    obtain ⟨_, _, he, i1, -⟩ := hS 1 b rfl
    cases he
    rw [Nat.add_zero] at i0
    clear hSw hS
    go_simp
    try with_reducible rfl
  simp only [Act.put, List.setIfInBounds_toArray, List.set_cons_zero, List.set_cons_succ]
  refine wpAnyN_take (i := 6) (oi := ?o6) (v := ?v6) ?hi6 (by kernel_rfl) (by kernel_rfl) (by kernel_rfl) (by kernel_rfl) (by decide) (by kernel_rfl) ?hQ6 ?hy6 (Below.drew (Below.refl _ _)) ?more6
  case hi6 => rw [List.getElem?_toArray]; exact rfl
  case hQ6 => exact fun _ _ _ h => h
  case hy6 =>
    refine Or.inl ⟨by rfl, ?_⟩
    intro w' hSw
    have hO := H2.out.1.call hSw
    obtain ⟨-, ⟨-, r1⟩, -, hS, -⟩ := hO
    obtain ⟨_, _, he, i0, -⟩ := hS 0 a rfl
    cases he
    obtain ⟨_, _, he, i1, -⟩ := hS 1 b rfl
    cases he
    rw [Nat.add_zero] at i0
    clear hSw hS
    go_simp
    try with_reducible rfl
  simp only [Act.put, List.setIfInBounds_toArray, List.set_cons_zero, List.set_cons_succ]
  refine wpAnyN_take (i := 7) (oi := ?o7) (v := ?v7) ?hi7 (by kernel_rfl) (by kernel_rfl) (by kernel_rfl) (by kernel_rfl) (by decide) (by kernel_rfl) ?hQ7 ?hy7 (Below.drew (Below.refl _ _)) ?more7
  case hi7 => rw [List.getElem?_toArray]; exact rfl
  case hQ7 => exact fun _ _ _ h => h
  case hy7 =>
    refine Or.inl ⟨by rfl, ?_⟩
    intro w' hSw
    have hO := H2.out.1.call hSw
    obtain ⟨-, ⟨-, r1⟩, -, hS, -⟩ := hO
    obtain ⟨_, _, he, i0, -⟩ := hS 0 a rfl
    cases he
    obtain ⟨_, _, he, i1, -⟩ := hS 1 b rfl
    cases he
    rw [Nat.add_zero] at i0
    clear hSw hS
    go_simp
    try with_reducible rfl
  simp only [Act.put, List.setIfInBounds_toArray, List.set_cons_zero, List.set_cons_succ]
  refine wpAnyN_take (i := 8) (oi := ?o8) (v := ?v8) ?hi8 (by kernel_rfl) (by kernel_rfl) (by kernel_rfl) (by kernel_rfl) (by decide) (by kernel_rfl) ?hQ8 ?hy8 (Below.drew (Below.refl _ _)) ?more8
  case hi8 => rw [List.getElem?_toArray]; exact rfl
  case hQ8 => exact fun _ _ _ h => h
  case hy8 =>
    refine Or.inl ⟨by rfl, ?_⟩
    intro w' hSw
    have hO := H2.out.1.call hSw
    obtain ⟨-, ⟨-, r1⟩, -, hS, -⟩ := hO
    obtain ⟨_, _, he, i0, -⟩ := hS 0 a rfl
    cases he
    obtain ⟨_, _, he, i1, -⟩ := hS 1 b rfl
    cases he
    rw [Nat.add_zero] at i0
    clear hSw hS
    go_simp
    try with_reducible rfl
  simp only [Act.put, List.setIfInBounds_toArray, List.set_cons_zero, List.set_cons_succ]
  refine wpAnyN_two (i := 4) (j := 11) (o := ?o4x1) (p := ?o11x1) (by kernel_rfl) ?hi4x1 ?hi11x1 ?hw4x1 ?hw11x1 ?st4x1 ?st11x1
  case hi4x1 => rw [List.getElem?_toArray]; exact rfl
  case hw4x1 => exact rfl
  case hi11x1 => rw [List.getElem?_toArray]; exact rfl
  case hw11x1 => exact rfl
  case st4x1 =>
    intro K hK
    have HK4y2 : Hid _ := hK
    clear hK
    go_simp
    refine (KA.out _).mono ?_
    rintro e w4y2 ⟨rfl, hq⟩
    have H4y2 : Hid (Below w2.heap.size w2 w4y2) := below_call0 (Below.drew (Below.refl _ _)) hq
    clear hq
    go_wp2_with fail
    refine HK4y2.out _ _ ⟨fun _ => H4y2.out, ?_⟩
    clear HK4y2 K
    try simp only [Act.put, List.setIfInBounds_toArray, List.set_cons_zero, List.set_cons_succ]
    refine wpAnyN_two (i := 9) (j := 11) (o := ?o9y2x3) (p := ?o11y2x3) (by kernel_rfl) ?hi9y2x3 ?hi11y2x3 ?hw9y2x3 ?hw11y2x3 ?st9y2x3 ?st11y2x3
    case hi9y2x3 => rw [List.getElem?_toArray]; exact rfl
    case hw9y2x3 => exact rfl
    case hi11y2x3 => rw [List.getElem?_toArray]; exact rfl
    case hw11y2x3 => exact rfl
    case st9y2x3 =>
      intro K hK
      have HK9y4 : Hid _ := hK
      clear hK
      go_simp
      refine (KB.out _).mono ?_
      rintro e w9y4 ⟨rfl, hq⟩
      have H9y4 : Hid (Below w2.heap.size w2 w9y4) := below_call0 H4y2.out hq
      clear hq
      go_wp2_with fail
      refine HK9y4.out _ _ ⟨fun _ => H9y4.out, ?_⟩
      clear HK9y4 K
      try simp only [Act.put, List.setIfInBounds_toArray, List.set_cons_zero, List.set_cons_succ]
      refine wpAnyN_takeF (i := 10) (oi := ?o10y4) (v := ?v10y4) ?hi10y4 (by kernel_rfl) (by kernel_rfl) (by kernel_rfl) (by decide) ?hQ10y4 ?hy10y4 H9y4.out ?more10y4
      case hi10y4 => rw [List.getElem?_toArray]; exact rfl
      case hQ10y4 => exact fun _ _ _ h => h
      case hy10y4 =>
        refine Or.inl ⟨by rfl, ?_⟩
        intro w' hSw
        clear hSw
        go_simp
        try with_reducible rfl
      simp only [Act.put, List.setIfInBounds_toArray, List.set_cons_zero, List.set_cons_succ]
      refine wpAnyN_one (i := 11) (o := ?o11y4) (by kernel_rfl) ?hi11y4 ?hw11y4 ?st11y4
      case hi11y4 => rw [List.getElem?_toArray]; exact rfl
      case hw11y4 => exact rfl
      intro K hK
      have HK11y4 : Hid _ := hK
      clear hK
      go_simp
      refine HK11y4.out _ _ ⟨fun _ => (below_alloc0 H9y4.out _), ?_⟩
      clear HK11y4 K
      try simp only [Act.put, List.setIfInBounds_toArray, List.set_cons_zero, List.set_cons_succ]
      refine wpAnyN_one (i := 12) (o := ?o12y4) (by kernel_rfl) ?hi12y4 ?hw12y4 ?st12y4
      case hi12y4 => rw [List.getElem?_toArray]; exact rfl
      case hw12y4 => exact rfl
      intro K hK
      have HK12y4 : Hid _ := hK
      clear hK
      obtain ⟨⟨o0, o1, o2⟩, ⟨y0, y1, y2⟩, oz⟩ := Zr.facts (Zr.new (q := 62) (W := w9y4) rfl)
      try simp only [World.size_alloc] at o0 o1 o2 y0 y1 y2 oz
      go_simp
      refine HK12y4.out _ _ ⟨fun h => absurd h (by decide +kernel), ?_⟩
      clear HK12y4 K
      try simp only [Act.put, List.setIfInBounds_toArray, List.set_cons_zero, List.set_cons_succ]
      refine wpAnyN_done (by kernel_rfl) ?_ _
      obtain ⟨wS, hwS⟩ : ∃ y, y = w9y4.alloc (.cells #[.int .i64 A, .int .i64 B, .string ⟨#[]⟩] 62) := ⟨_, rfl⟩
      obtain ⟨bk, hbk⟩ : ∃ y, y = w9y4.heap.size := ⟨_, rfl⟩
      have HT0 : Hid (Own3 wS bk A B ⟨#[]⟩ ∧ Below w2.heap.size w2 wS ∧ w2.heap.size ≤ bk) := by rw [hwS, hbk]; exact ⟨Own3.new rfl, below_alloc0 H9y4.out _, (Below.size H9y4.out)⟩
      rw [← hwS, ← hbk]
      clear hwS hbk o0 o1 o2 y0 y1 y2 oz
      have HT : Hid (Own3 wS bk A B ⟨#[]⟩ ∧ OpenAt w wS 2 G R ⟨pb, po, none⟩ 2 cap (a :: b :: []) ∧ bk ≠ G ∧ bk ≠ R) := ⟨HT0.out.1, H2.out.1.call HT0.out.2.1, fun c => absurd H2.out.1.1.2.2 (by rw [← c]; exact Nat.not_lt_of_le HT0.out.2.2), fun c => absurd H2.out.1.2.2.1 (by rw [← c]; exact Nat.not_lt_of_le HT0.out.2.2)⟩
      obtain ⟨⟨o0, o1, o2⟩, of, -⟩ := HT.out.1
      have of2 := of 2
      obtain ⟨⟨⟨g0, g1, g2⟩, gf, -⟩, ⟨r0, r1⟩, -, hS, -, -⟩ := HT.out.2.1
      have gf0 := gf 0
      have gf1 := gf 1
      have gf2 := gf 2
      have n1 : bk ≠ G := HT.out.2.2.1
      have n2 : bk ≠ R := HT.out.2.2.2
      have n3 : G ≠ bk := Ne.symm n1
      have n4 : R ≠ bk := Ne.symm n2
      clear hS of gf
      go_wp2_with fail
      obtain ⟨W, hW, e0, e1, e2, hBW⟩ := put3n (w := w) (w1 := wS) (B := w.heap.size) (G := G) (.int .i64 0) (.int .i64 0) (.string ⟨#[]⟩) HT.out.2.1.2.2.2.2.2 (by rw [HT.out.2.1.2.2.2.2.1]; exact Nat.le_refl _) g0 g1 g2
      rw [← hW]
      refine bodyPost_ret (v := .tuple #[.agg #[.int .i64 0, .int .i64 0, .string ⟨#[]⟩], .bool false]) ?_ rfl ⟨rfl, hBW⟩
      simp [results, Try.results24, go_sem, e0, e1, e2]
    case st11y2x3 =>
      intro K hK
      have HK11y5 : Hid _ := hK
      clear hK
      go_simp
      refine HK11y5.out _ _ ⟨fun _ => (below_alloc0 H4y2.out _), ?_⟩
      clear HK11y5 K
      try simp only [Act.put, List.setIfInBounds_toArray, List.set_cons_zero, List.set_cons_succ]
      refine wpAnyN_one (i := 9) (o := ?o9y5) (by kernel_rfl) ?hi9y5 ?hw9y5 ?st9y5
      case hi9y5 => rw [List.getElem?_toArray]; exact rfl
      case hw9y5 => exact rfl
      intro K hK
      have HK9y5 : Hid _ := hK
      clear hK
      go_simp
      refine (KB.out _).mono ?_
      rintro e w9y5 ⟨rfl, hq⟩
      have H9y5 : Hid (Below w2.heap.size w2 w9y5) := below_call0 (below_alloc0 H4y2.out _) hq
      have P9y5 : Hid (Zr w9y5 (w4y2.heap.size) ) := Zr.call (Zr.new (q := 62) (W := w4y2) rfl) hq
      clear hq
      go_wp2_with fail
      refine HK9y5.out _ _ ⟨fun _ => H9y5.out, ?_⟩
      clear HK9y5 K
      try simp only [Act.put, List.setIfInBounds_toArray, List.set_cons_zero, List.set_cons_succ]
      refine wpAnyN_takeF (i := 10) (oi := ?o10y5) (v := ?v10y5) ?hi10y5 (by kernel_rfl) (by kernel_rfl) (by kernel_rfl) (by decide) ?hQ10y5 ?hy10y5 H9y5.out ?more10y5
      case hi10y5 => rw [List.getElem?_toArray]; exact rfl
      case hQ10y5 => exact fun _ _ _ h => h
      case hy10y5 =>
        refine Or.inl ⟨by rfl, ?_⟩
        intro w' hSw
        clear hSw
        go_simp
        try with_reducible rfl
      simp only [Act.put, List.setIfInBounds_toArray, List.set_cons_zero, List.set_cons_succ]
      refine wpAnyN_one (i := 12) (o := ?o12y5) (by kernel_rfl) ?hi12y5 ?hw12y5 ?st12y5
      case hi12y5 => rw [List.getElem?_toArray]; exact rfl
      case hw12y5 => exact rfl
      intro K hK
      have HK12y5 : Hid _ := hK
      clear hK
      obtain ⟨⟨o0, o1, o2⟩, ⟨y0, y1, y2⟩, oz⟩ := Zr.facts P9y5.out
      try simp only [World.size_alloc] at o0 o1 o2 y0 y1 y2 oz
      go_simp
      refine HK12y5.out _ _ ⟨fun h => absurd h (by decide +kernel), ?_⟩
      clear HK12y5 K
      try simp only [Act.put, List.setIfInBounds_toArray, List.set_cons_zero, List.set_cons_succ]
      refine wpAnyN_done (by kernel_rfl) ?_ _
      obtain ⟨wS, hwS⟩ : ∃ y, y = (((w9y5.setCell ⟨w4y2.heap.size, 0, none⟩ (.int .i64 A)).setCell ⟨w4y2.heap.size, 1, none⟩ (.int .i64 B)).setCell ⟨w4y2.heap.size, 2, none⟩ (.string ⟨#[]⟩)) := ⟨_, rfl⟩
      obtain ⟨bk, hbk⟩ : ∃ y, y = w4y2.heap.size := ⟨_, rfl⟩
      have HT0 : Hid (Own3 wS bk A B ⟨#[]⟩ ∧ Below w2.heap.size w2 wS ∧ w2.heap.size ≤ bk) := by rw [hwS, hbk]; exact ⟨Zr.own P9y5.out, Below.setCell (Below.setCell (Below.setCell H9y5.out (Below.size H4y2.out) _) (Below.size H4y2.out) _) (Below.size H4y2.out) _, (Below.size H4y2.out)⟩
      rw [← hwS, ← hbk]
      clear hwS hbk o0 o1 o2 y0 y1 y2 oz
      have HT : Hid (Own3 wS bk A B ⟨#[]⟩ ∧ OpenAt w wS 2 G R ⟨pb, po, none⟩ 2 cap (a :: b :: []) ∧ bk ≠ G ∧ bk ≠ R) := ⟨HT0.out.1, H2.out.1.call HT0.out.2.1, fun c => absurd H2.out.1.1.2.2 (by rw [← c]; exact Nat.not_lt_of_le HT0.out.2.2), fun c => absurd H2.out.1.2.2.1 (by rw [← c]; exact Nat.not_lt_of_le HT0.out.2.2)⟩
      obtain ⟨⟨o0, o1, o2⟩, of, -⟩ := HT.out.1
      have of2 := of 2
      obtain ⟨⟨⟨g0, g1, g2⟩, gf, -⟩, ⟨r0, r1⟩, -, hS, -, -⟩ := HT.out.2.1
      have gf0 := gf 0
      have gf1 := gf 1
      have gf2 := gf 2
      have n1 : bk ≠ G := HT.out.2.2.1
      have n2 : bk ≠ R := HT.out.2.2.2
      have n3 : G ≠ bk := Ne.symm n1
      have n4 : R ≠ bk := Ne.symm n2
      clear hS of gf
      go_wp2_with fail
      obtain ⟨W, hW, e0, e1, e2, hBW⟩ := put3n (w := w) (w1 := wS) (B := w.heap.size) (G := G) (.int .i64 0) (.int .i64 0) (.string ⟨#[]⟩) HT.out.2.1.2.2.2.2.2 (by rw [HT.out.2.1.2.2.2.2.1]; exact Nat.le_refl _) g0 g1 g2
      rw [← hW]
      refine bodyPost_ret (v := .tuple #[.agg #[.int .i64 0, .int .i64 0, .string ⟨#[]⟩], .bool false]) ?_ rfl ⟨rfl, hBW⟩
      simp [results, Try.results24, go_sem, e0, e1, e2]
  case st11x1 =>
    intro K hK
    have HK11y6 : Hid _ := hK
    clear hK
    go_simp
    refine HK11y6.out _ _ ⟨fun _ => (below_alloc0 (Below.drew (Below.refl _ _)) _), ?_⟩
    clear HK11y6 K
    try simp only [Act.put, List.setIfInBounds_toArray, List.set_cons_zero, List.set_cons_succ]
    refine wpAnyN_one (i := 4) (o := ?o4y6) (by kernel_rfl) ?hi4y6 ?hw4y6 ?st4y6
    case hi4y6 => rw [List.getElem?_toArray]; exact rfl
    case hw4y6 => exact rfl
    intro K hK
    have HK4y6 : Hid _ := hK
    clear hK
    go_simp
    refine (KA.out _).mono ?_
    rintro e w4y6 ⟨rfl, hq⟩
    have H4y6 : Hid (Below w2.heap.size w2 w4y6) := below_call0 (below_alloc0 (Below.drew (Below.refl _ _)) _) hq
    have P4y6 : Hid (Zr w4y6 (w2.heap.size) ) := Zr.call (Zr.new (q := 62) (W := w2.drew) rfl) hq
    clear hq
    go_wp2_with fail
    refine HK4y6.out _ _ ⟨fun _ => H4y6.out, ?_⟩
    clear HK4y6 K
    try simp only [Act.put, List.setIfInBounds_toArray, List.set_cons_zero, List.set_cons_succ]
    refine wpAnyN_one (i := 9) (o := ?o9y6) (by kernel_rfl) ?hi9y6 ?hw9y6 ?st9y6
    case hi9y6 => rw [List.getElem?_toArray]; exact rfl
    case hw9y6 => exact rfl
    intro K hK
    have HK9y6 : Hid _ := hK
    clear hK
    go_simp
    refine (KB.out _).mono ?_
    rintro e w9y6 ⟨rfl, hq⟩
    have H9y6 : Hid (Below w2.heap.size w2 w9y6) := below_call0 H4y6.out hq
    have P9y6 : Hid (Zr w9y6 (w2.heap.size) ) := Zr.call P4y6.out hq
    clear hq
    go_wp2_with fail
    refine HK9y6.out _ _ ⟨fun _ => H9y6.out, ?_⟩
    clear HK9y6 K
    try simp only [Act.put, List.setIfInBounds_toArray, List.set_cons_zero, List.set_cons_succ]
    refine wpAnyN_takeF (i := 10) (oi := ?o10y6) (v := ?v10y6) ?hi10y6 (by kernel_rfl) (by kernel_rfl) (by kernel_rfl) (by decide) ?hQ10y6 ?hy10y6 H9y6.out ?more10y6
    case hi10y6 => rw [List.getElem?_toArray]; exact rfl
    case hQ10y6 => exact fun _ _ _ h => h
    case hy10y6 =>
      refine Or.inl ⟨by rfl, ?_⟩
      intro w' hSw
      clear hSw
      go_simp
      try with_reducible rfl
    simp only [Act.put, List.setIfInBounds_toArray, List.set_cons_zero, List.set_cons_succ]
    refine wpAnyN_one (i := 12) (o := ?o12y6) (by kernel_rfl) ?hi12y6 ?hw12y6 ?st12y6
    case hi12y6 => rw [List.getElem?_toArray]; exact rfl
    case hw12y6 => exact rfl
    intro K hK
    have HK12y6 : Hid _ := hK
    clear hK
    obtain ⟨⟨o0, o1, o2⟩, ⟨y0, y1, y2⟩, oz⟩ := Zr.facts P9y6.out
    try simp only [World.size_alloc] at o0 o1 o2 y0 y1 y2 oz
    go_simp
    refine HK12y6.out _ _ ⟨fun h => absurd h (by decide +kernel), ?_⟩
    clear HK12y6 K
    try simp only [Act.put, List.setIfInBounds_toArray, List.set_cons_zero, List.set_cons_succ]
    refine wpAnyN_done (by kernel_rfl) ?_ _
    obtain ⟨wS, hwS⟩ : ∃ y, y = (((w9y6.setCell ⟨w2.heap.size, 0, none⟩ (.int .i64 A)).setCell ⟨w2.heap.size, 1, none⟩ (.int .i64 B)).setCell ⟨w2.heap.size, 2, none⟩ (.string ⟨#[]⟩)) := ⟨_, rfl⟩
    obtain ⟨bk, hbk⟩ : ∃ y, y = w2.heap.size := ⟨_, rfl⟩
    have HT0 : Hid (Own3 wS bk A B ⟨#[]⟩ ∧ Below w2.heap.size w2 wS ∧ w2.heap.size ≤ bk) := by rw [hwS, hbk]; exact ⟨Zr.own P9y6.out, Below.setCell (Below.setCell (Below.setCell H9y6.out (Nat.le_refl _) _) (Nat.le_refl _) _) (Nat.le_refl _) _, (Nat.le_refl _)⟩
    rw [← hwS, ← hbk]
    clear hwS hbk o0 o1 o2 y0 y1 y2 oz
    have HT : Hid (Own3 wS bk A B ⟨#[]⟩ ∧ OpenAt w wS 2 G R ⟨pb, po, none⟩ 2 cap (a :: b :: []) ∧ bk ≠ G ∧ bk ≠ R) := ⟨HT0.out.1, H2.out.1.call HT0.out.2.1, fun c => absurd H2.out.1.1.2.2 (by rw [← c]; exact Nat.not_lt_of_le HT0.out.2.2), fun c => absurd H2.out.1.2.2.1 (by rw [← c]; exact Nat.not_lt_of_le HT0.out.2.2)⟩
    obtain ⟨⟨o0, o1, o2⟩, of, -⟩ := HT.out.1
    have of2 := of 2
    obtain ⟨⟨⟨g0, g1, g2⟩, gf, -⟩, ⟨r0, r1⟩, -, hS, -, -⟩ := HT.out.2.1
    have gf0 := gf 0
    have gf1 := gf 1
    have gf2 := gf 2
    have n1 : bk ≠ G := HT.out.2.2.1
    have n2 : bk ≠ R := HT.out.2.2.2
    have n3 : G ≠ bk := Ne.symm n1
    have n4 : R ≠ bk := Ne.symm n2
    clear hS of gf
    go_wp2_with fail
    obtain ⟨W, hW, e0, e1, e2, hBW⟩ := put3n (w := w) (w1 := wS) (B := w.heap.size) (G := G) (.int .i64 0) (.int .i64 0) (.string ⟨#[]⟩) HT.out.2.1.2.2.2.2.2 (by rw [HT.out.2.1.2.2.2.2.1]; exact Nat.le_refl _) g0 g1 g2
    rw [← hW]
    refine bodyPost_ret (v := .tuple #[.agg #[.int .i64 0, .int .i64 0, .string ⟨#[]⟩], .bool false]) ?_ rfl ⟨rfl, hBW⟩
    simp [results, Try.results24, go_sem, e0, e1, e2]
set_option maxRecDepth 100000 in
set_option maxHeartbeats 4000000 in
theorem ropen2_b (a b : ByteArray) (s : ByteArray) (A B : Int) (hA : numV a = A) (hB : numV b = B) (hs : s.size < 140737488351233) (h1 : upE s.data.toList = 0) (h2 : upK s.data.toList = 2) (h3 : upL s.data.toList = a :: b :: []) (c1 : ¬ (A < 1)) (c2 : B < 0) (w : World) :
    Calls Try.prog 24 #[.string s, .int .i64 2] w fun e w' => e = .returned (.tuple #[.agg #[.int .i64 0, .int .i64 0, .string ⟨#[]⟩], .bool false]) ∧ Below w.heap.size w w' := by
  have hz := upL_ok h1
  rw [h3] at hz
  have KA : Hid _ := fun w' : World => rnumber_any a (by have := hz a (by simp); omega) w'
  have KB : Hid _ := fun w' : World => rnumber_any b (by have := hz b (by simp); omega) w'
  rw [hA] at KA
  rw [hB] at KB
  have KU : Hid _ := fun w' : World => runpack_any s hs w'
  unfold rupPost at KU
  rw [h1, h2, h3] at KU
  have KU : Hid (∀ w' : World, Calls Try.prog 34 #[.string s] w' fun e w'' => ∃ p cap, e = .returned (.tuple #[.agg #[.int .i64 2, .slice p 2 cap], .int .i64 0]) ∧ Strs w'' p (a :: b :: []) ∧ Below w'.heap.size w' w'') := KU.out
  clear hz h1 h2 h3 hs hA hB
  go_enter Try.func24, Try.ntmps24
  go_wp2_with fail
  refine (KU.out _).mono ?_
  rintro e w1 ⟨p, cap, rfl, hS1, hb1⟩
  obtain ⟨pb, po, rfl, -, hpb⟩ := hS1 0 a rfl
  obtain ⟨G, hG⟩ : ∃ G, G = w.heap.size := ⟨_, rfl⟩
  have H1 : Hid (Own3 w1 G 0 0 ⟨#[]⟩ ∧ Strs w1 (some ⟨pb, po, none⟩) (a :: b :: []) ∧ Below w.heap.size w w1 ∧ G = w.heap.size) := by
    rw [hG]
    exact ⟨(Zr.new rfl).call hb1, hS1, below_call0 (below_alloc0 (Below.refl _ _) _) hb1, rfl⟩
  rw [← hG]
  clear hb1 hS1 KU hG hpb
  obtain ⟨⟨g0, g1, g2⟩, gf, gz⟩ := H1.out.1
  have gf0 := gf 0
  have gf1 := gf 1
  have gf2 := gf 2
  go_wp2_with fail
  obtain ⟨w2, hw2⟩ : ∃ y, y = w1.alloc (.cells #[.int .i64 2, .slice (some ⟨pb, po, none⟩) 2 cap] 83) := ⟨_, rfl⟩
  obtain ⟨R, hR⟩ : ∃ R, R = w1.heap.size := ⟨_, rfl⟩
  have H2 : Hid (OpenAt w w2 2 G R ⟨pb, po, none⟩ 2 cap (a :: b :: []) ∧ G ≠ R) := by
    rw [hw2, hR]
    have hb : Below w1.heap.size w1 (w1.alloc (.cells #[.int .i64 2, .slice (some ⟨pb, po, none⟩) 2 cap] 83)) := below_alloc0 (Below.refl _ _) _
    exact ⟨⟨H1.out.1.call hb, ⟨by simp [go_sem], by simp [go_sem]⟩, by simp, H1.out.2.1.call hb, H1.out.2.2.2, below_call0 H1.out.2.2.1 hb⟩, Nat.ne_of_lt H1.out.1.2.2⟩
  rw [← hw2, ← hR]
  clear hw2 hR g0 g1 g2 gf gf0 gf1 gf2 gz H1
  refine wp_region_N (fun w' => Below w2.heap.size w2 w') 12 13 rfl (by kernel_rfl) ?_
  refine wpAnyN_take (i := 0) (oi := ?o0) (v := ?v0) ?hi0 (by kernel_rfl) (by kernel_rfl) (by kernel_rfl) (by kernel_rfl) (by decide) (by kernel_rfl) ?hQ0 ?hy0 (Below.drew (Below.refl _ _)) ?more0
  case hi0 => rw [List.getElem?_toArray]; exact rfl
  case hQ0 => exact fun _ _ _ h => h
  case hy0 =>
    refine Or.inl ⟨by rfl, ?_⟩
    intro w' hSw
    have hO := H2.out.1.call hSw
    obtain ⟨-, ⟨-, r1⟩, -, hS, -⟩ := hO
    obtain ⟨_, _, he, i0, -⟩ := hS 0 a rfl
    cases he
    obtain ⟨_, _, he, i1, -⟩ := hS 1 b rfl
    cases he
    rw [Nat.add_zero] at i0
    clear hSw hS
    go_simp
    try with_reducible rfl
  simp only [Act.put, List.setIfInBounds_toArray, List.set_cons_zero, List.set_cons_succ]
  refine wpAnyN_take (i := 1) (oi := ?o1) (v := ?v1) ?hi1 (by kernel_rfl) (by kernel_rfl) (by kernel_rfl) (by kernel_rfl) (by decide) (by kernel_rfl) ?hQ1 ?hy1 (Below.drew (Below.refl _ _)) ?more1
  case hi1 => rw [List.getElem?_toArray]; exact rfl
  case hQ1 => exact fun _ _ _ h => h
  case hy1 =>
    refine Or.inl ⟨by rfl, ?_⟩
    intro w' hSw
    have hO := H2.out.1.call hSw
    obtain ⟨-, ⟨-, r1⟩, -, hS, -⟩ := hO
    obtain ⟨_, _, he, i0, -⟩ := hS 0 a rfl
    cases he
    obtain ⟨_, _, he, i1, -⟩ := hS 1 b rfl
    cases he
    rw [Nat.add_zero] at i0
    clear hSw hS
    go_simp
    try with_reducible rfl
  simp only [Act.put, List.setIfInBounds_toArray, List.set_cons_zero, List.set_cons_succ]
  refine wpAnyN_take (i := 2) (oi := ?o2) (v := ?v2) ?hi2 (by kernel_rfl) (by kernel_rfl) (by kernel_rfl) (by kernel_rfl) (by decide) (by kernel_rfl) ?hQ2 ?hy2 (Below.drew (Below.refl _ _)) ?more2
  case hi2 => rw [List.getElem?_toArray]; exact rfl
  case hQ2 => exact fun _ _ _ h => h
  case hy2 =>
    refine Or.inl ⟨by rfl, ?_⟩
    intro w' hSw
    have hO := H2.out.1.call hSw
    obtain ⟨-, ⟨-, r1⟩, -, hS, -⟩ := hO
    obtain ⟨_, _, he, i0, -⟩ := hS 0 a rfl
    cases he
    obtain ⟨_, _, he, i1, -⟩ := hS 1 b rfl
    cases he
    rw [Nat.add_zero] at i0
    clear hSw hS
    go_simp
    try with_reducible rfl
  simp only [Act.put, List.setIfInBounds_toArray, List.set_cons_zero, List.set_cons_succ]
  refine wpAnyN_take (i := 3) (oi := ?o3) (v := ?v3) ?hi3 (by kernel_rfl) (by kernel_rfl) (by kernel_rfl) (by kernel_rfl) (by decide) (by kernel_rfl) ?hQ3 ?hy3 (Below.drew (Below.refl _ _)) ?more3
  case hi3 => rw [List.getElem?_toArray]; exact rfl
  case hQ3 => exact fun _ _ _ h => h
  case hy3 =>
    refine Or.inl ⟨by rfl, ?_⟩
    intro w' hSw
    have hO := H2.out.1.call hSw
    obtain ⟨-, ⟨-, r1⟩, -, hS, -⟩ := hO
    obtain ⟨_, _, he, i0, -⟩ := hS 0 a rfl
    cases he
    obtain ⟨_, _, he, i1, -⟩ := hS 1 b rfl
    cases he
    rw [Nat.add_zero] at i0
    clear hSw hS
    go_simp
    try with_reducible rfl
  simp only [Act.put, List.setIfInBounds_toArray, List.set_cons_zero, List.set_cons_succ]
  refine wpAnyN_take (i := 5) (oi := ?o5) (v := ?v5) ?hi5 (by kernel_rfl) (by kernel_rfl) (by kernel_rfl) (by kernel_rfl) (by decide) (by kernel_rfl) ?hQ5 ?hy5 (Below.drew (Below.refl _ _)) ?more5
  case hi5 => rw [List.getElem?_toArray]; exact rfl
  case hQ5 => exact fun _ _ _ h => h
  case hy5 =>
    refine Or.inl ⟨by rfl, ?_⟩
    intro w' hSw
    have hO := H2.out.1.call hSw
    obtain ⟨-, ⟨-, r1⟩, -, hS, -⟩ := hO
    obtain ⟨_, _, he, i0, -⟩ := hS 0 a rfl
    cases he
    obtain ⟨_, _, he, i1, -⟩ := hS 1 b rfl
    cases he
    rw [Nat.add_zero] at i0
    clear hSw hS
    go_simp
    try with_reducible rfl
  simp only [Act.put, List.setIfInBounds_toArray, List.set_cons_zero, List.set_cons_succ]
  refine wpAnyN_take (i := 6) (oi := ?o6) (v := ?v6) ?hi6 (by kernel_rfl) (by kernel_rfl) (by kernel_rfl) (by kernel_rfl) (by decide) (by kernel_rfl) ?hQ6 ?hy6 (Below.drew (Below.refl _ _)) ?more6
  case hi6 => rw [List.getElem?_toArray]; exact rfl
  case hQ6 => exact fun _ _ _ h => h
  case hy6 =>
    refine Or.inl ⟨by rfl, ?_⟩
    intro w' hSw
    have hO := H2.out.1.call hSw
    obtain ⟨-, ⟨-, r1⟩, -, hS, -⟩ := hO
    obtain ⟨_, _, he, i0, -⟩ := hS 0 a rfl
    cases he
    obtain ⟨_, _, he, i1, -⟩ := hS 1 b rfl
    cases he
    rw [Nat.add_zero] at i0
    clear hSw hS
    go_simp
    try with_reducible rfl
  simp only [Act.put, List.setIfInBounds_toArray, List.set_cons_zero, List.set_cons_succ]
  refine wpAnyN_take (i := 7) (oi := ?o7) (v := ?v7) ?hi7 (by kernel_rfl) (by kernel_rfl) (by kernel_rfl) (by kernel_rfl) (by decide) (by kernel_rfl) ?hQ7 ?hy7 (Below.drew (Below.refl _ _)) ?more7
  case hi7 => rw [List.getElem?_toArray]; exact rfl
  case hQ7 => exact fun _ _ _ h => h
  case hy7 =>
    refine Or.inl ⟨by rfl, ?_⟩
    intro w' hSw
    have hO := H2.out.1.call hSw
    obtain ⟨-, ⟨-, r1⟩, -, hS, -⟩ := hO
    obtain ⟨_, _, he, i0, -⟩ := hS 0 a rfl
    cases he
    obtain ⟨_, _, he, i1, -⟩ := hS 1 b rfl
    cases he
    rw [Nat.add_zero] at i0
    clear hSw hS
    go_simp
    try with_reducible rfl
  simp only [Act.put, List.setIfInBounds_toArray, List.set_cons_zero, List.set_cons_succ]
  refine wpAnyN_take (i := 8) (oi := ?o8) (v := ?v8) ?hi8 (by kernel_rfl) (by kernel_rfl) (by kernel_rfl) (by kernel_rfl) (by decide) (by kernel_rfl) ?hQ8 ?hy8 (Below.drew (Below.refl _ _)) ?more8
  case hi8 => rw [List.getElem?_toArray]; exact rfl
  case hQ8 => exact fun _ _ _ h => h
  case hy8 =>
    refine Or.inl ⟨by rfl, ?_⟩
    intro w' hSw
    have hO := H2.out.1.call hSw
    obtain ⟨-, ⟨-, r1⟩, -, hS, -⟩ := hO
    obtain ⟨_, _, he, i0, -⟩ := hS 0 a rfl
    cases he
    obtain ⟨_, _, he, i1, -⟩ := hS 1 b rfl
    cases he
    rw [Nat.add_zero] at i0
    clear hSw hS
    go_simp
    try with_reducible rfl
  simp only [Act.put, List.setIfInBounds_toArray, List.set_cons_zero, List.set_cons_succ]
  refine wpAnyN_two (i := 4) (j := 11) (o := ?o4x1) (p := ?o11x1) (by kernel_rfl) ?hi4x1 ?hi11x1 ?hw4x1 ?hw11x1 ?st4x1 ?st11x1
  case hi4x1 => rw [List.getElem?_toArray]; exact rfl
  case hw4x1 => exact rfl
  case hi11x1 => rw [List.getElem?_toArray]; exact rfl
  case hw11x1 => exact rfl
  case st4x1 =>
    intro K hK
    have HK4y2 : Hid _ := hK
    clear hK
    go_simp
    refine (KA.out _).mono ?_
    rintro e w4y2 ⟨rfl, hq⟩
    have H4y2 : Hid (Below w2.heap.size w2 w4y2) := below_call0 (Below.drew (Below.refl _ _)) hq
    clear hq
    go_wp2_with fail
    refine HK4y2.out _ _ ⟨fun _ => H4y2.out, ?_⟩
    clear HK4y2 K
    try simp only [Act.put, List.setIfInBounds_toArray, List.set_cons_zero, List.set_cons_succ]
    refine wpAnyN_two (i := 9) (j := 11) (o := ?o9y2x3) (p := ?o11y2x3) (by kernel_rfl) ?hi9y2x3 ?hi11y2x3 ?hw9y2x3 ?hw11y2x3 ?st9y2x3 ?st11y2x3
    case hi9y2x3 => rw [List.getElem?_toArray]; exact rfl
    case hw9y2x3 => exact rfl
    case hi11y2x3 => rw [List.getElem?_toArray]; exact rfl
    case hw11y2x3 => exact rfl
    case st9y2x3 =>
      intro K hK
      have HK9y4 : Hid _ := hK
      clear hK
      go_simp
      refine (KB.out _).mono ?_
      rintro e w9y4 ⟨rfl, hq⟩
      have H9y4 : Hid (Below w2.heap.size w2 w9y4) := below_call0 H4y2.out hq
      clear hq
      go_wp2_with fail
      refine HK9y4.out _ _ ⟨fun _ => H9y4.out, ?_⟩
      clear HK9y4 K
      try simp only [Act.put, List.setIfInBounds_toArray, List.set_cons_zero, List.set_cons_succ]
      refine wpAnyN_takeF (i := 10) (oi := ?o10y4) (v := ?v10y4) ?hi10y4 (by kernel_rfl) (by kernel_rfl) (by kernel_rfl) (by decide) ?hQ10y4 ?hy10y4 H9y4.out ?more10y4
      case hi10y4 => rw [List.getElem?_toArray]; exact rfl
      case hQ10y4 => exact fun _ _ _ h => h
      case hy10y4 =>
        refine Or.inl ⟨by rfl, ?_⟩
        intro w' hSw
        clear hSw
        go_simp
        try with_reducible rfl
      simp only [Act.put, List.setIfInBounds_toArray, List.set_cons_zero, List.set_cons_succ]
      refine wpAnyN_one (i := 11) (o := ?o11y4) (by kernel_rfl) ?hi11y4 ?hw11y4 ?st11y4
      case hi11y4 => rw [List.getElem?_toArray]; exact rfl
      case hw11y4 => exact rfl
      intro K hK
      have HK11y4 : Hid _ := hK
      clear hK
      go_simp
      refine HK11y4.out _ _ ⟨fun _ => (below_alloc0 H9y4.out _), ?_⟩
      clear HK11y4 K
      try simp only [Act.put, List.setIfInBounds_toArray, List.set_cons_zero, List.set_cons_succ]
      refine wpAnyN_one (i := 12) (o := ?o12y4) (by kernel_rfl) ?hi12y4 ?hw12y4 ?st12y4
      case hi12y4 => rw [List.getElem?_toArray]; exact rfl
      case hw12y4 => exact rfl
      intro K hK
      have HK12y4 : Hid _ := hK
      clear hK
      obtain ⟨⟨o0, o1, o2⟩, ⟨y0, y1, y2⟩, oz⟩ := Zr.facts (Zr.new (q := 62) (W := w9y4) rfl)
      try simp only [World.size_alloc] at o0 o1 o2 y0 y1 y2 oz
      go_simp
      refine HK12y4.out _ _ ⟨fun h => absurd h (by decide +kernel), ?_⟩
      clear HK12y4 K
      try simp only [Act.put, List.setIfInBounds_toArray, List.set_cons_zero, List.set_cons_succ]
      refine wpAnyN_done (by kernel_rfl) ?_ _
      obtain ⟨wS, hwS⟩ : ∃ y, y = w9y4.alloc (.cells #[.int .i64 A, .int .i64 B, .string ⟨#[]⟩] 62) := ⟨_, rfl⟩
      obtain ⟨bk, hbk⟩ : ∃ y, y = w9y4.heap.size := ⟨_, rfl⟩
      have HT0 : Hid (Own3 wS bk A B ⟨#[]⟩ ∧ Below w2.heap.size w2 wS ∧ w2.heap.size ≤ bk) := by rw [hwS, hbk]; exact ⟨Own3.new rfl, below_alloc0 H9y4.out _, (Below.size H9y4.out)⟩
      rw [← hwS, ← hbk]
      clear hwS hbk o0 o1 o2 y0 y1 y2 oz
      have HT : Hid (Own3 wS bk A B ⟨#[]⟩ ∧ OpenAt w wS 2 G R ⟨pb, po, none⟩ 2 cap (a :: b :: []) ∧ bk ≠ G ∧ bk ≠ R) := ⟨HT0.out.1, H2.out.1.call HT0.out.2.1, fun c => absurd H2.out.1.1.2.2 (by rw [← c]; exact Nat.not_lt_of_le HT0.out.2.2), fun c => absurd H2.out.1.2.2.1 (by rw [← c]; exact Nat.not_lt_of_le HT0.out.2.2)⟩
      obtain ⟨⟨o0, o1, o2⟩, of, -⟩ := HT.out.1
      have of2 := of 2
      obtain ⟨⟨⟨g0, g1, g2⟩, gf, -⟩, ⟨r0, r1⟩, -, hS, -, -⟩ := HT.out.2.1
      have gf0 := gf 0
      have gf1 := gf 1
      have gf2 := gf 2
      have n1 : bk ≠ G := HT.out.2.2.1
      have n2 : bk ≠ R := HT.out.2.2.2
      have n3 : G ≠ bk := Ne.symm n1
      have n4 : R ≠ bk := Ne.symm n2
      clear hS of gf
      go_wp2_with fail
      obtain ⟨W, hW, e0, e1, e2, hBW⟩ := put3n (w := w) (w1 := wS) (B := w.heap.size) (G := G) (.int .i64 0) (.int .i64 0) (.string ⟨#[]⟩) HT.out.2.1.2.2.2.2.2 (by rw [HT.out.2.1.2.2.2.2.1]; exact Nat.le_refl _) g0 g1 g2
      rw [← hW]
      refine bodyPost_ret (v := .tuple #[.agg #[.int .i64 0, .int .i64 0, .string ⟨#[]⟩], .bool false]) ?_ rfl ⟨rfl, hBW⟩
      simp [results, Try.results24, go_sem, e0, e1, e2]
    case st11y2x3 =>
      intro K hK
      have HK11y5 : Hid _ := hK
      clear hK
      go_simp
      refine HK11y5.out _ _ ⟨fun _ => (below_alloc0 H4y2.out _), ?_⟩
      clear HK11y5 K
      try simp only [Act.put, List.setIfInBounds_toArray, List.set_cons_zero, List.set_cons_succ]
      refine wpAnyN_one (i := 9) (o := ?o9y5) (by kernel_rfl) ?hi9y5 ?hw9y5 ?st9y5
      case hi9y5 => rw [List.getElem?_toArray]; exact rfl
      case hw9y5 => exact rfl
      intro K hK
      have HK9y5 : Hid _ := hK
      clear hK
      go_simp
      refine (KB.out _).mono ?_
      rintro e w9y5 ⟨rfl, hq⟩
      have H9y5 : Hid (Below w2.heap.size w2 w9y5) := below_call0 (below_alloc0 H4y2.out _) hq
      have P9y5 : Hid (Zr w9y5 (w4y2.heap.size) ) := Zr.call (Zr.new (q := 62) (W := w4y2) rfl) hq
      clear hq
      go_wp2_with fail
      refine HK9y5.out _ _ ⟨fun _ => H9y5.out, ?_⟩
      clear HK9y5 K
      try simp only [Act.put, List.setIfInBounds_toArray, List.set_cons_zero, List.set_cons_succ]
      refine wpAnyN_takeF (i := 10) (oi := ?o10y5) (v := ?v10y5) ?hi10y5 (by kernel_rfl) (by kernel_rfl) (by kernel_rfl) (by decide) ?hQ10y5 ?hy10y5 H9y5.out ?more10y5
      case hi10y5 => rw [List.getElem?_toArray]; exact rfl
      case hQ10y5 => exact fun _ _ _ h => h
      case hy10y5 =>
        refine Or.inl ⟨by rfl, ?_⟩
        intro w' hSw
        clear hSw
        go_simp
        try with_reducible rfl
      simp only [Act.put, List.setIfInBounds_toArray, List.set_cons_zero, List.set_cons_succ]
      refine wpAnyN_one (i := 12) (o := ?o12y5) (by kernel_rfl) ?hi12y5 ?hw12y5 ?st12y5
      case hi12y5 => rw [List.getElem?_toArray]; exact rfl
      case hw12y5 => exact rfl
      intro K hK
      have HK12y5 : Hid _ := hK
      clear hK
      obtain ⟨⟨o0, o1, o2⟩, ⟨y0, y1, y2⟩, oz⟩ := Zr.facts P9y5.out
      try simp only [World.size_alloc] at o0 o1 o2 y0 y1 y2 oz
      go_simp
      refine HK12y5.out _ _ ⟨fun h => absurd h (by decide +kernel), ?_⟩
      clear HK12y5 K
      try simp only [Act.put, List.setIfInBounds_toArray, List.set_cons_zero, List.set_cons_succ]
      refine wpAnyN_done (by kernel_rfl) ?_ _
      obtain ⟨wS, hwS⟩ : ∃ y, y = (((w9y5.setCell ⟨w4y2.heap.size, 0, none⟩ (.int .i64 A)).setCell ⟨w4y2.heap.size, 1, none⟩ (.int .i64 B)).setCell ⟨w4y2.heap.size, 2, none⟩ (.string ⟨#[]⟩)) := ⟨_, rfl⟩
      obtain ⟨bk, hbk⟩ : ∃ y, y = w4y2.heap.size := ⟨_, rfl⟩
      have HT0 : Hid (Own3 wS bk A B ⟨#[]⟩ ∧ Below w2.heap.size w2 wS ∧ w2.heap.size ≤ bk) := by rw [hwS, hbk]; exact ⟨Zr.own P9y5.out, Below.setCell (Below.setCell (Below.setCell H9y5.out (Below.size H4y2.out) _) (Below.size H4y2.out) _) (Below.size H4y2.out) _, (Below.size H4y2.out)⟩
      rw [← hwS, ← hbk]
      clear hwS hbk o0 o1 o2 y0 y1 y2 oz
      have HT : Hid (Own3 wS bk A B ⟨#[]⟩ ∧ OpenAt w wS 2 G R ⟨pb, po, none⟩ 2 cap (a :: b :: []) ∧ bk ≠ G ∧ bk ≠ R) := ⟨HT0.out.1, H2.out.1.call HT0.out.2.1, fun c => absurd H2.out.1.1.2.2 (by rw [← c]; exact Nat.not_lt_of_le HT0.out.2.2), fun c => absurd H2.out.1.2.2.1 (by rw [← c]; exact Nat.not_lt_of_le HT0.out.2.2)⟩
      obtain ⟨⟨o0, o1, o2⟩, of, -⟩ := HT.out.1
      have of2 := of 2
      obtain ⟨⟨⟨g0, g1, g2⟩, gf, -⟩, ⟨r0, r1⟩, -, hS, -, -⟩ := HT.out.2.1
      have gf0 := gf 0
      have gf1 := gf 1
      have gf2 := gf 2
      have n1 : bk ≠ G := HT.out.2.2.1
      have n2 : bk ≠ R := HT.out.2.2.2
      have n3 : G ≠ bk := Ne.symm n1
      have n4 : R ≠ bk := Ne.symm n2
      clear hS of gf
      go_wp2_with fail
      obtain ⟨W, hW, e0, e1, e2, hBW⟩ := put3n (w := w) (w1 := wS) (B := w.heap.size) (G := G) (.int .i64 0) (.int .i64 0) (.string ⟨#[]⟩) HT.out.2.1.2.2.2.2.2 (by rw [HT.out.2.1.2.2.2.2.1]; exact Nat.le_refl _) g0 g1 g2
      rw [← hW]
      refine bodyPost_ret (v := .tuple #[.agg #[.int .i64 0, .int .i64 0, .string ⟨#[]⟩], .bool false]) ?_ rfl ⟨rfl, hBW⟩
      simp [results, Try.results24, go_sem, e0, e1, e2]
  case st11x1 =>
    intro K hK
    have HK11y6 : Hid _ := hK
    clear hK
    go_simp
    refine HK11y6.out _ _ ⟨fun _ => (below_alloc0 (Below.drew (Below.refl _ _)) _), ?_⟩
    clear HK11y6 K
    try simp only [Act.put, List.setIfInBounds_toArray, List.set_cons_zero, List.set_cons_succ]
    refine wpAnyN_one (i := 4) (o := ?o4y6) (by kernel_rfl) ?hi4y6 ?hw4y6 ?st4y6
    case hi4y6 => rw [List.getElem?_toArray]; exact rfl
    case hw4y6 => exact rfl
    intro K hK
    have HK4y6 : Hid _ := hK
    clear hK
    go_simp
    refine (KA.out _).mono ?_
    rintro e w4y6 ⟨rfl, hq⟩
    have H4y6 : Hid (Below w2.heap.size w2 w4y6) := below_call0 (below_alloc0 (Below.drew (Below.refl _ _)) _) hq
    have P4y6 : Hid (Zr w4y6 (w2.heap.size) ) := Zr.call (Zr.new (q := 62) (W := w2.drew) rfl) hq
    clear hq
    go_wp2_with fail
    refine HK4y6.out _ _ ⟨fun _ => H4y6.out, ?_⟩
    clear HK4y6 K
    try simp only [Act.put, List.setIfInBounds_toArray, List.set_cons_zero, List.set_cons_succ]
    refine wpAnyN_one (i := 9) (o := ?o9y6) (by kernel_rfl) ?hi9y6 ?hw9y6 ?st9y6
    case hi9y6 => rw [List.getElem?_toArray]; exact rfl
    case hw9y6 => exact rfl
    intro K hK
    have HK9y6 : Hid _ := hK
    clear hK
    go_simp
    refine (KB.out _).mono ?_
    rintro e w9y6 ⟨rfl, hq⟩
    have H9y6 : Hid (Below w2.heap.size w2 w9y6) := below_call0 H4y6.out hq
    have P9y6 : Hid (Zr w9y6 (w2.heap.size) ) := Zr.call P4y6.out hq
    clear hq
    go_wp2_with fail
    refine HK9y6.out _ _ ⟨fun _ => H9y6.out, ?_⟩
    clear HK9y6 K
    try simp only [Act.put, List.setIfInBounds_toArray, List.set_cons_zero, List.set_cons_succ]
    refine wpAnyN_takeF (i := 10) (oi := ?o10y6) (v := ?v10y6) ?hi10y6 (by kernel_rfl) (by kernel_rfl) (by kernel_rfl) (by decide) ?hQ10y6 ?hy10y6 H9y6.out ?more10y6
    case hi10y6 => rw [List.getElem?_toArray]; exact rfl
    case hQ10y6 => exact fun _ _ _ h => h
    case hy10y6 =>
      refine Or.inl ⟨by rfl, ?_⟩
      intro w' hSw
      clear hSw
      go_simp
      try with_reducible rfl
    simp only [Act.put, List.setIfInBounds_toArray, List.set_cons_zero, List.set_cons_succ]
    refine wpAnyN_one (i := 12) (o := ?o12y6) (by kernel_rfl) ?hi12y6 ?hw12y6 ?st12y6
    case hi12y6 => rw [List.getElem?_toArray]; exact rfl
    case hw12y6 => exact rfl
    intro K hK
    have HK12y6 : Hid _ := hK
    clear hK
    obtain ⟨⟨o0, o1, o2⟩, ⟨y0, y1, y2⟩, oz⟩ := Zr.facts P9y6.out
    try simp only [World.size_alloc] at o0 o1 o2 y0 y1 y2 oz
    go_simp
    refine HK12y6.out _ _ ⟨fun h => absurd h (by decide +kernel), ?_⟩
    clear HK12y6 K
    try simp only [Act.put, List.setIfInBounds_toArray, List.set_cons_zero, List.set_cons_succ]
    refine wpAnyN_done (by kernel_rfl) ?_ _
    obtain ⟨wS, hwS⟩ : ∃ y, y = (((w9y6.setCell ⟨w2.heap.size, 0, none⟩ (.int .i64 A)).setCell ⟨w2.heap.size, 1, none⟩ (.int .i64 B)).setCell ⟨w2.heap.size, 2, none⟩ (.string ⟨#[]⟩)) := ⟨_, rfl⟩
    obtain ⟨bk, hbk⟩ : ∃ y, y = w2.heap.size := ⟨_, rfl⟩
    have HT0 : Hid (Own3 wS bk A B ⟨#[]⟩ ∧ Below w2.heap.size w2 wS ∧ w2.heap.size ≤ bk) := by rw [hwS, hbk]; exact ⟨Zr.own P9y6.out, Below.setCell (Below.setCell (Below.setCell H9y6.out (Nat.le_refl _) _) (Nat.le_refl _) _) (Nat.le_refl _) _, (Nat.le_refl _)⟩
    rw [← hwS, ← hbk]
    clear hwS hbk o0 o1 o2 y0 y1 y2 oz
    have HT : Hid (Own3 wS bk A B ⟨#[]⟩ ∧ OpenAt w wS 2 G R ⟨pb, po, none⟩ 2 cap (a :: b :: []) ∧ bk ≠ G ∧ bk ≠ R) := ⟨HT0.out.1, H2.out.1.call HT0.out.2.1, fun c => absurd H2.out.1.1.2.2 (by rw [← c]; exact Nat.not_lt_of_le HT0.out.2.2), fun c => absurd H2.out.1.2.2.1 (by rw [← c]; exact Nat.not_lt_of_le HT0.out.2.2)⟩
    obtain ⟨⟨o0, o1, o2⟩, of, -⟩ := HT.out.1
    have of2 := of 2
    obtain ⟨⟨⟨g0, g1, g2⟩, gf, -⟩, ⟨r0, r1⟩, -, hS, -, -⟩ := HT.out.2.1
    have gf0 := gf 0
    have gf1 := gf 1
    have gf2 := gf 2
    have n1 : bk ≠ G := HT.out.2.2.1
    have n2 : bk ≠ R := HT.out.2.2.2
    have n3 : G ≠ bk := Ne.symm n1
    have n4 : R ≠ bk := Ne.symm n2
    clear hS of gf
    go_wp2_with fail
    obtain ⟨W, hW, e0, e1, e2, hBW⟩ := put3n (w := w) (w1 := wS) (B := w.heap.size) (G := G) (.int .i64 0) (.int .i64 0) (.string ⟨#[]⟩) HT.out.2.1.2.2.2.2.2 (by rw [HT.out.2.1.2.2.2.2.1]; exact Nat.le_refl _) g0 g1 g2
    rw [← hW]
    refine bodyPost_ret (v := .tuple #[.agg #[.int .i64 0, .int .i64 0, .string ⟨#[]⟩], .bool false]) ?_ rfl ⟨rfl, hBW⟩
    simp [results, Try.results24, go_sem, e0, e1, e2]
set_option maxRecDepth 100000 in
set_option maxHeartbeats 4000000 in
theorem ropen2_e (a b : ByteArray) (s : ByteArray) (A B : Int) (hA : numV a = A) (hB : numV b = B) (hs : s.size < 140737488351233) (h1 : upE s.data.toList = 0) (h2 : upK s.data.toList = 2) (h3 : upL s.data.toList = a :: b :: []) (c1 : ¬ (A < 1)) (c2 : ¬ (B < 0)) (w : World) :
    Calls Try.prog 24 #[.string s, .int .i64 2] w fun e w' => e = .returned (.tuple #[.agg #[.int .i64 A, .int .i64 B, .string ⟨#[]⟩], .bool true]) ∧ Below w.heap.size w w' := by
  have hz := upL_ok h1
  rw [h3] at hz
  have KA : Hid _ := fun w' : World => rnumber_any a (by have := hz a (by simp); omega) w'
  have KB : Hid _ := fun w' : World => rnumber_any b (by have := hz b (by simp); omega) w'
  rw [hA] at KA
  rw [hB] at KB
  have KU : Hid _ := fun w' : World => runpack_any s hs w'
  unfold rupPost at KU
  rw [h1, h2, h3] at KU
  have KU : Hid (∀ w' : World, Calls Try.prog 34 #[.string s] w' fun e w'' => ∃ p cap, e = .returned (.tuple #[.agg #[.int .i64 2, .slice p 2 cap], .int .i64 0]) ∧ Strs w'' p (a :: b :: []) ∧ Below w'.heap.size w' w'') := KU.out
  clear hz h1 h2 h3 hs hA hB
  go_enter Try.func24, Try.ntmps24
  go_wp2_with fail
  refine (KU.out _).mono ?_
  rintro e w1 ⟨p, cap, rfl, hS1, hb1⟩
  obtain ⟨pb, po, rfl, -, hpb⟩ := hS1 0 a rfl
  obtain ⟨G, hG⟩ : ∃ G, G = w.heap.size := ⟨_, rfl⟩
  have H1 : Hid (Own3 w1 G 0 0 ⟨#[]⟩ ∧ Strs w1 (some ⟨pb, po, none⟩) (a :: b :: []) ∧ Below w.heap.size w w1 ∧ G = w.heap.size) := by
    rw [hG]
    exact ⟨(Zr.new rfl).call hb1, hS1, below_call0 (below_alloc0 (Below.refl _ _) _) hb1, rfl⟩
  rw [← hG]
  clear hb1 hS1 KU hG hpb
  obtain ⟨⟨g0, g1, g2⟩, gf, gz⟩ := H1.out.1
  have gf0 := gf 0
  have gf1 := gf 1
  have gf2 := gf 2
  go_wp2_with fail
  obtain ⟨w2, hw2⟩ : ∃ y, y = w1.alloc (.cells #[.int .i64 2, .slice (some ⟨pb, po, none⟩) 2 cap] 83) := ⟨_, rfl⟩
  obtain ⟨R, hR⟩ : ∃ R, R = w1.heap.size := ⟨_, rfl⟩
  have H2 : Hid (OpenAt w w2 2 G R ⟨pb, po, none⟩ 2 cap (a :: b :: []) ∧ G ≠ R) := by
    rw [hw2, hR]
    have hb : Below w1.heap.size w1 (w1.alloc (.cells #[.int .i64 2, .slice (some ⟨pb, po, none⟩) 2 cap] 83)) := below_alloc0 (Below.refl _ _) _
    exact ⟨⟨H1.out.1.call hb, ⟨by simp [go_sem], by simp [go_sem]⟩, by simp, H1.out.2.1.call hb, H1.out.2.2.2, below_call0 H1.out.2.2.1 hb⟩, Nat.ne_of_lt H1.out.1.2.2⟩
  rw [← hw2, ← hR]
  clear hw2 hR g0 g1 g2 gf gf0 gf1 gf2 gz H1
  refine wp_region_N (fun w' => Below w2.heap.size w2 w') 12 13 rfl (by kernel_rfl) ?_
  refine wpAnyN_take (i := 0) (oi := ?o0) (v := ?v0) ?hi0 (by kernel_rfl) (by kernel_rfl) (by kernel_rfl) (by kernel_rfl) (by decide) (by kernel_rfl) ?hQ0 ?hy0 (Below.drew (Below.refl _ _)) ?more0
  case hi0 => rw [List.getElem?_toArray]; exact rfl
  case hQ0 => exact fun _ _ _ h => h
  case hy0 =>
    refine Or.inl ⟨by rfl, ?_⟩
    intro w' hSw
    have hO := H2.out.1.call hSw
    obtain ⟨-, ⟨-, r1⟩, -, hS, -⟩ := hO
    obtain ⟨_, _, he, i0, -⟩ := hS 0 a rfl
    cases he
    obtain ⟨_, _, he, i1, -⟩ := hS 1 b rfl
    cases he
    rw [Nat.add_zero] at i0
    clear hSw hS
    go_simp
    try with_reducible rfl
  simp only [Act.put, List.setIfInBounds_toArray, List.set_cons_zero, List.set_cons_succ]
  refine wpAnyN_take (i := 1) (oi := ?o1) (v := ?v1) ?hi1 (by kernel_rfl) (by kernel_rfl) (by kernel_rfl) (by kernel_rfl) (by decide) (by kernel_rfl) ?hQ1 ?hy1 (Below.drew (Below.refl _ _)) ?more1
  case hi1 => rw [List.getElem?_toArray]; exact rfl
  case hQ1 => exact fun _ _ _ h => h
  case hy1 =>
    refine Or.inl ⟨by rfl, ?_⟩
    intro w' hSw
    have hO := H2.out.1.call hSw
    obtain ⟨-, ⟨-, r1⟩, -, hS, -⟩ := hO
    obtain ⟨_, _, he, i0, -⟩ := hS 0 a rfl
    cases he
    obtain ⟨_, _, he, i1, -⟩ := hS 1 b rfl
    cases he
    rw [Nat.add_zero] at i0
    clear hSw hS
    go_simp
    try with_reducible rfl
  simp only [Act.put, List.setIfInBounds_toArray, List.set_cons_zero, List.set_cons_succ]
  refine wpAnyN_take (i := 2) (oi := ?o2) (v := ?v2) ?hi2 (by kernel_rfl) (by kernel_rfl) (by kernel_rfl) (by kernel_rfl) (by decide) (by kernel_rfl) ?hQ2 ?hy2 (Below.drew (Below.refl _ _)) ?more2
  case hi2 => rw [List.getElem?_toArray]; exact rfl
  case hQ2 => exact fun _ _ _ h => h
  case hy2 =>
    refine Or.inl ⟨by rfl, ?_⟩
    intro w' hSw
    have hO := H2.out.1.call hSw
    obtain ⟨-, ⟨-, r1⟩, -, hS, -⟩ := hO
    obtain ⟨_, _, he, i0, -⟩ := hS 0 a rfl
    cases he
    obtain ⟨_, _, he, i1, -⟩ := hS 1 b rfl
    cases he
    rw [Nat.add_zero] at i0
    clear hSw hS
    go_simp
    try with_reducible rfl
  simp only [Act.put, List.setIfInBounds_toArray, List.set_cons_zero, List.set_cons_succ]
  refine wpAnyN_take (i := 3) (oi := ?o3) (v := ?v3) ?hi3 (by kernel_rfl) (by kernel_rfl) (by kernel_rfl) (by kernel_rfl) (by decide) (by kernel_rfl) ?hQ3 ?hy3 (Below.drew (Below.refl _ _)) ?more3
  case hi3 => rw [List.getElem?_toArray]; exact rfl
  case hQ3 => exact fun _ _ _ h => h
  case hy3 =>
    refine Or.inl ⟨by rfl, ?_⟩
    intro w' hSw
    have hO := H2.out.1.call hSw
    obtain ⟨-, ⟨-, r1⟩, -, hS, -⟩ := hO
    obtain ⟨_, _, he, i0, -⟩ := hS 0 a rfl
    cases he
    obtain ⟨_, _, he, i1, -⟩ := hS 1 b rfl
    cases he
    rw [Nat.add_zero] at i0
    clear hSw hS
    go_simp
    try with_reducible rfl
  simp only [Act.put, List.setIfInBounds_toArray, List.set_cons_zero, List.set_cons_succ]
  refine wpAnyN_take (i := 5) (oi := ?o5) (v := ?v5) ?hi5 (by kernel_rfl) (by kernel_rfl) (by kernel_rfl) (by kernel_rfl) (by decide) (by kernel_rfl) ?hQ5 ?hy5 (Below.drew (Below.refl _ _)) ?more5
  case hi5 => rw [List.getElem?_toArray]; exact rfl
  case hQ5 => exact fun _ _ _ h => h
  case hy5 =>
    refine Or.inl ⟨by rfl, ?_⟩
    intro w' hSw
    have hO := H2.out.1.call hSw
    obtain ⟨-, ⟨-, r1⟩, -, hS, -⟩ := hO
    obtain ⟨_, _, he, i0, -⟩ := hS 0 a rfl
    cases he
    obtain ⟨_, _, he, i1, -⟩ := hS 1 b rfl
    cases he
    rw [Nat.add_zero] at i0
    clear hSw hS
    go_simp
    try with_reducible rfl
  simp only [Act.put, List.setIfInBounds_toArray, List.set_cons_zero, List.set_cons_succ]
  refine wpAnyN_take (i := 6) (oi := ?o6) (v := ?v6) ?hi6 (by kernel_rfl) (by kernel_rfl) (by kernel_rfl) (by kernel_rfl) (by decide) (by kernel_rfl) ?hQ6 ?hy6 (Below.drew (Below.refl _ _)) ?more6
  case hi6 => rw [List.getElem?_toArray]; exact rfl
  case hQ6 => exact fun _ _ _ h => h
  case hy6 =>
    refine Or.inl ⟨by rfl, ?_⟩
    intro w' hSw
    have hO := H2.out.1.call hSw
    obtain ⟨-, ⟨-, r1⟩, -, hS, -⟩ := hO
    obtain ⟨_, _, he, i0, -⟩ := hS 0 a rfl
    cases he
    obtain ⟨_, _, he, i1, -⟩ := hS 1 b rfl
    cases he
    rw [Nat.add_zero] at i0
    clear hSw hS
    go_simp
    try with_reducible rfl
  simp only [Act.put, List.setIfInBounds_toArray, List.set_cons_zero, List.set_cons_succ]
  refine wpAnyN_take (i := 7) (oi := ?o7) (v := ?v7) ?hi7 (by kernel_rfl) (by kernel_rfl) (by kernel_rfl) (by kernel_rfl) (by decide) (by kernel_rfl) ?hQ7 ?hy7 (Below.drew (Below.refl _ _)) ?more7
  case hi7 => rw [List.getElem?_toArray]; exact rfl
  case hQ7 => exact fun _ _ _ h => h
  case hy7 =>
    refine Or.inl ⟨by rfl, ?_⟩
    intro w' hSw
    have hO := H2.out.1.call hSw
    obtain ⟨-, ⟨-, r1⟩, -, hS, -⟩ := hO
    obtain ⟨_, _, he, i0, -⟩ := hS 0 a rfl
    cases he
    obtain ⟨_, _, he, i1, -⟩ := hS 1 b rfl
    cases he
    rw [Nat.add_zero] at i0
    clear hSw hS
    go_simp
    try with_reducible rfl
  simp only [Act.put, List.setIfInBounds_toArray, List.set_cons_zero, List.set_cons_succ]
  refine wpAnyN_take (i := 8) (oi := ?o8) (v := ?v8) ?hi8 (by kernel_rfl) (by kernel_rfl) (by kernel_rfl) (by kernel_rfl) (by decide) (by kernel_rfl) ?hQ8 ?hy8 (Below.drew (Below.refl _ _)) ?more8
  case hi8 => rw [List.getElem?_toArray]; exact rfl
  case hQ8 => exact fun _ _ _ h => h
  case hy8 =>
    refine Or.inl ⟨by rfl, ?_⟩
    intro w' hSw
    have hO := H2.out.1.call hSw
    obtain ⟨-, ⟨-, r1⟩, -, hS, -⟩ := hO
    obtain ⟨_, _, he, i0, -⟩ := hS 0 a rfl
    cases he
    obtain ⟨_, _, he, i1, -⟩ := hS 1 b rfl
    cases he
    rw [Nat.add_zero] at i0
    clear hSw hS
    go_simp
    try with_reducible rfl
  simp only [Act.put, List.setIfInBounds_toArray, List.set_cons_zero, List.set_cons_succ]
  refine wpAnyN_two (i := 4) (j := 11) (o := ?o4x1) (p := ?o11x1) (by kernel_rfl) ?hi4x1 ?hi11x1 ?hw4x1 ?hw11x1 ?st4x1 ?st11x1
  case hi4x1 => rw [List.getElem?_toArray]; exact rfl
  case hw4x1 => exact rfl
  case hi11x1 => rw [List.getElem?_toArray]; exact rfl
  case hw11x1 => exact rfl
  case st4x1 =>
    intro K hK
    have HK4y2 : Hid _ := hK
    clear hK
    go_simp
    refine (KA.out _).mono ?_
    rintro e w4y2 ⟨rfl, hq⟩
    have H4y2 : Hid (Below w2.heap.size w2 w4y2) := below_call0 (Below.drew (Below.refl _ _)) hq
    clear hq
    go_wp2_with fail
    refine HK4y2.out _ _ ⟨fun _ => H4y2.out, ?_⟩
    clear HK4y2 K
    try simp only [Act.put, List.setIfInBounds_toArray, List.set_cons_zero, List.set_cons_succ]
    refine wpAnyN_two (i := 9) (j := 11) (o := ?o9y2x3) (p := ?o11y2x3) (by kernel_rfl) ?hi9y2x3 ?hi11y2x3 ?hw9y2x3 ?hw11y2x3 ?st9y2x3 ?st11y2x3
    case hi9y2x3 => rw [List.getElem?_toArray]; exact rfl
    case hw9y2x3 => exact rfl
    case hi11y2x3 => rw [List.getElem?_toArray]; exact rfl
    case hw11y2x3 => exact rfl
    case st9y2x3 =>
      intro K hK
      have HK9y4 : Hid _ := hK
      clear hK
      go_simp
      refine (KB.out _).mono ?_
      rintro e w9y4 ⟨rfl, hq⟩
      have H9y4 : Hid (Below w2.heap.size w2 w9y4) := below_call0 H4y2.out hq
      clear hq
      go_wp2_with fail
      refine HK9y4.out _ _ ⟨fun _ => H9y4.out, ?_⟩
      clear HK9y4 K
      try simp only [Act.put, List.setIfInBounds_toArray, List.set_cons_zero, List.set_cons_succ]
      refine wpAnyN_takeF (i := 10) (oi := ?o10y4) (v := ?v10y4) ?hi10y4 (by kernel_rfl) (by kernel_rfl) (by kernel_rfl) (by decide) ?hQ10y4 ?hy10y4 H9y4.out ?more10y4
      case hi10y4 => rw [List.getElem?_toArray]; exact rfl
      case hQ10y4 => exact fun _ _ _ h => h
      case hy10y4 =>
        refine Or.inl ⟨by rfl, ?_⟩
        intro w' hSw
        clear hSw
        go_simp
        try with_reducible rfl
      simp only [Act.put, List.setIfInBounds_toArray, List.set_cons_zero, List.set_cons_succ]
      refine wpAnyN_one (i := 11) (o := ?o11y4) (by kernel_rfl) ?hi11y4 ?hw11y4 ?st11y4
      case hi11y4 => rw [List.getElem?_toArray]; exact rfl
      case hw11y4 => exact rfl
      intro K hK
      have HK11y4 : Hid _ := hK
      clear hK
      go_simp
      refine HK11y4.out _ _ ⟨fun _ => (below_alloc0 H9y4.out _), ?_⟩
      clear HK11y4 K
      try simp only [Act.put, List.setIfInBounds_toArray, List.set_cons_zero, List.set_cons_succ]
      refine wpAnyN_one (i := 12) (o := ?o12y4) (by kernel_rfl) ?hi12y4 ?hw12y4 ?st12y4
      case hi12y4 => rw [List.getElem?_toArray]; exact rfl
      case hw12y4 => exact rfl
      intro K hK
      have HK12y4 : Hid _ := hK
      clear hK
      obtain ⟨⟨o0, o1, o2⟩, ⟨y0, y1, y2⟩, oz⟩ := Zr.facts (Zr.new (q := 62) (W := w9y4) rfl)
      try simp only [World.size_alloc] at o0 o1 o2 y0 y1 y2 oz
      go_simp
      refine HK12y4.out _ _ ⟨fun h => absurd h (by decide +kernel), ?_⟩
      clear HK12y4 K
      try simp only [Act.put, List.setIfInBounds_toArray, List.set_cons_zero, List.set_cons_succ]
      refine wpAnyN_done (by kernel_rfl) ?_ _
      obtain ⟨wS, hwS⟩ : ∃ y, y = w9y4.alloc (.cells #[.int .i64 A, .int .i64 B, .string ⟨#[]⟩] 62) := ⟨_, rfl⟩
      obtain ⟨bk, hbk⟩ : ∃ y, y = w9y4.heap.size := ⟨_, rfl⟩
      have HT0 : Hid (Own3 wS bk A B ⟨#[]⟩ ∧ Below w2.heap.size w2 wS ∧ w2.heap.size ≤ bk) := by rw [hwS, hbk]; exact ⟨Own3.new rfl, below_alloc0 H9y4.out _, (Below.size H9y4.out)⟩
      rw [← hwS, ← hbk]
      clear hwS hbk o0 o1 o2 y0 y1 y2 oz
      have HT : Hid (Own3 wS bk A B ⟨#[]⟩ ∧ OpenAt w wS 2 G R ⟨pb, po, none⟩ 2 cap (a :: b :: []) ∧ bk ≠ G ∧ bk ≠ R) := ⟨HT0.out.1, H2.out.1.call HT0.out.2.1, fun c => absurd H2.out.1.1.2.2 (by rw [← c]; exact Nat.not_lt_of_le HT0.out.2.2), fun c => absurd H2.out.1.2.2.1 (by rw [← c]; exact Nat.not_lt_of_le HT0.out.2.2)⟩
      obtain ⟨⟨o0, o1, o2⟩, of, -⟩ := HT.out.1
      have of2 := of 2
      obtain ⟨⟨⟨g0, g1, g2⟩, gf, -⟩, ⟨r0, r1⟩, -, hS, -, -⟩ := HT.out.2.1
      have gf0 := gf 0
      have gf1 := gf 1
      have gf2 := gf 2
      have n1 : bk ≠ G := HT.out.2.2.1
      have n2 : bk ≠ R := HT.out.2.2.2
      have n3 : G ≠ bk := Ne.symm n1
      have n4 : R ≠ bk := Ne.symm n2
      clear hS of gf
      go_wp2_with fail
      obtain ⟨W, hW, e0, e1, e2, hBW⟩ := put3n (w := w) (w1 := wS) (B := w.heap.size) (G := G) (.int .i64 A) (.int .i64 B) (.string ⟨#[]⟩) HT.out.2.1.2.2.2.2.2 (by rw [HT.out.2.1.2.2.2.2.1]; exact Nat.le_refl _) g0 g1 g2
      rw [← hW]
      refine bodyPost_ret (v := .tuple #[.agg #[.int .i64 A, .int .i64 B, .string ⟨#[]⟩], .bool true]) ?_ rfl ⟨rfl, hBW⟩
      simp [results, Try.results24, go_sem, e0, e1, e2]
    case st11y2x3 =>
      intro K hK
      have HK11y5 : Hid _ := hK
      clear hK
      go_simp
      refine HK11y5.out _ _ ⟨fun _ => (below_alloc0 H4y2.out _), ?_⟩
      clear HK11y5 K
      try simp only [Act.put, List.setIfInBounds_toArray, List.set_cons_zero, List.set_cons_succ]
      refine wpAnyN_one (i := 9) (o := ?o9y5) (by kernel_rfl) ?hi9y5 ?hw9y5 ?st9y5
      case hi9y5 => rw [List.getElem?_toArray]; exact rfl
      case hw9y5 => exact rfl
      intro K hK
      have HK9y5 : Hid _ := hK
      clear hK
      go_simp
      refine (KB.out _).mono ?_
      rintro e w9y5 ⟨rfl, hq⟩
      have H9y5 : Hid (Below w2.heap.size w2 w9y5) := below_call0 (below_alloc0 H4y2.out _) hq
      have P9y5 : Hid (Zr w9y5 (w4y2.heap.size) ) := Zr.call (Zr.new (q := 62) (W := w4y2) rfl) hq
      clear hq
      go_wp2_with fail
      refine HK9y5.out _ _ ⟨fun _ => H9y5.out, ?_⟩
      clear HK9y5 K
      try simp only [Act.put, List.setIfInBounds_toArray, List.set_cons_zero, List.set_cons_succ]
      refine wpAnyN_takeF (i := 10) (oi := ?o10y5) (v := ?v10y5) ?hi10y5 (by kernel_rfl) (by kernel_rfl) (by kernel_rfl) (by decide) ?hQ10y5 ?hy10y5 H9y5.out ?more10y5
      case hi10y5 => rw [List.getElem?_toArray]; exact rfl
      case hQ10y5 => exact fun _ _ _ h => h
      case hy10y5 =>
        refine Or.inl ⟨by rfl, ?_⟩
        intro w' hSw
        clear hSw
        go_simp
        try with_reducible rfl
      simp only [Act.put, List.setIfInBounds_toArray, List.set_cons_zero, List.set_cons_succ]
      refine wpAnyN_one (i := 12) (o := ?o12y5) (by kernel_rfl) ?hi12y5 ?hw12y5 ?st12y5
      case hi12y5 => rw [List.getElem?_toArray]; exact rfl
      case hw12y5 => exact rfl
      intro K hK
      have HK12y5 : Hid _ := hK
      clear hK
      obtain ⟨⟨o0, o1, o2⟩, ⟨y0, y1, y2⟩, oz⟩ := Zr.facts P9y5.out
      try simp only [World.size_alloc] at o0 o1 o2 y0 y1 y2 oz
      go_simp
      refine HK12y5.out _ _ ⟨fun h => absurd h (by decide +kernel), ?_⟩
      clear HK12y5 K
      try simp only [Act.put, List.setIfInBounds_toArray, List.set_cons_zero, List.set_cons_succ]
      refine wpAnyN_done (by kernel_rfl) ?_ _
      obtain ⟨wS, hwS⟩ : ∃ y, y = (((w9y5.setCell ⟨w4y2.heap.size, 0, none⟩ (.int .i64 A)).setCell ⟨w4y2.heap.size, 1, none⟩ (.int .i64 B)).setCell ⟨w4y2.heap.size, 2, none⟩ (.string ⟨#[]⟩)) := ⟨_, rfl⟩
      obtain ⟨bk, hbk⟩ : ∃ y, y = w4y2.heap.size := ⟨_, rfl⟩
      have HT0 : Hid (Own3 wS bk A B ⟨#[]⟩ ∧ Below w2.heap.size w2 wS ∧ w2.heap.size ≤ bk) := by rw [hwS, hbk]; exact ⟨Zr.own P9y5.out, Below.setCell (Below.setCell (Below.setCell H9y5.out (Below.size H4y2.out) _) (Below.size H4y2.out) _) (Below.size H4y2.out) _, (Below.size H4y2.out)⟩
      rw [← hwS, ← hbk]
      clear hwS hbk o0 o1 o2 y0 y1 y2 oz
      have HT : Hid (Own3 wS bk A B ⟨#[]⟩ ∧ OpenAt w wS 2 G R ⟨pb, po, none⟩ 2 cap (a :: b :: []) ∧ bk ≠ G ∧ bk ≠ R) := ⟨HT0.out.1, H2.out.1.call HT0.out.2.1, fun c => absurd H2.out.1.1.2.2 (by rw [← c]; exact Nat.not_lt_of_le HT0.out.2.2), fun c => absurd H2.out.1.2.2.1 (by rw [← c]; exact Nat.not_lt_of_le HT0.out.2.2)⟩
      obtain ⟨⟨o0, o1, o2⟩, of, -⟩ := HT.out.1
      have of2 := of 2
      obtain ⟨⟨⟨g0, g1, g2⟩, gf, -⟩, ⟨r0, r1⟩, -, hS, -, -⟩ := HT.out.2.1
      have gf0 := gf 0
      have gf1 := gf 1
      have gf2 := gf 2
      have n1 : bk ≠ G := HT.out.2.2.1
      have n2 : bk ≠ R := HT.out.2.2.2
      have n3 : G ≠ bk := Ne.symm n1
      have n4 : R ≠ bk := Ne.symm n2
      clear hS of gf
      go_wp2_with fail
      obtain ⟨W, hW, e0, e1, e2, hBW⟩ := put3n (w := w) (w1 := wS) (B := w.heap.size) (G := G) (.int .i64 A) (.int .i64 B) (.string ⟨#[]⟩) HT.out.2.1.2.2.2.2.2 (by rw [HT.out.2.1.2.2.2.2.1]; exact Nat.le_refl _) g0 g1 g2
      rw [← hW]
      refine bodyPost_ret (v := .tuple #[.agg #[.int .i64 A, .int .i64 B, .string ⟨#[]⟩], .bool true]) ?_ rfl ⟨rfl, hBW⟩
      simp [results, Try.results24, go_sem, e0, e1, e2]
  case st11x1 =>
    intro K hK
    have HK11y6 : Hid _ := hK
    clear hK
    go_simp
    refine HK11y6.out _ _ ⟨fun _ => (below_alloc0 (Below.drew (Below.refl _ _)) _), ?_⟩
    clear HK11y6 K
    try simp only [Act.put, List.setIfInBounds_toArray, List.set_cons_zero, List.set_cons_succ]
    refine wpAnyN_one (i := 4) (o := ?o4y6) (by kernel_rfl) ?hi4y6 ?hw4y6 ?st4y6
    case hi4y6 => rw [List.getElem?_toArray]; exact rfl
    case hw4y6 => exact rfl
    intro K hK
    have HK4y6 : Hid _ := hK
    clear hK
    go_simp
    refine (KA.out _).mono ?_
    rintro e w4y6 ⟨rfl, hq⟩
    have H4y6 : Hid (Below w2.heap.size w2 w4y6) := below_call0 (below_alloc0 (Below.drew (Below.refl _ _)) _) hq
    have P4y6 : Hid (Zr w4y6 (w2.heap.size) ) := Zr.call (Zr.new (q := 62) (W := w2.drew) rfl) hq
    clear hq
    go_wp2_with fail
    refine HK4y6.out _ _ ⟨fun _ => H4y6.out, ?_⟩
    clear HK4y6 K
    try simp only [Act.put, List.setIfInBounds_toArray, List.set_cons_zero, List.set_cons_succ]
    refine wpAnyN_one (i := 9) (o := ?o9y6) (by kernel_rfl) ?hi9y6 ?hw9y6 ?st9y6
    case hi9y6 => rw [List.getElem?_toArray]; exact rfl
    case hw9y6 => exact rfl
    intro K hK
    have HK9y6 : Hid _ := hK
    clear hK
    go_simp
    refine (KB.out _).mono ?_
    rintro e w9y6 ⟨rfl, hq⟩
    have H9y6 : Hid (Below w2.heap.size w2 w9y6) := below_call0 H4y6.out hq
    have P9y6 : Hid (Zr w9y6 (w2.heap.size) ) := Zr.call P4y6.out hq
    clear hq
    go_wp2_with fail
    refine HK9y6.out _ _ ⟨fun _ => H9y6.out, ?_⟩
    clear HK9y6 K
    try simp only [Act.put, List.setIfInBounds_toArray, List.set_cons_zero, List.set_cons_succ]
    refine wpAnyN_takeF (i := 10) (oi := ?o10y6) (v := ?v10y6) ?hi10y6 (by kernel_rfl) (by kernel_rfl) (by kernel_rfl) (by decide) ?hQ10y6 ?hy10y6 H9y6.out ?more10y6
    case hi10y6 => rw [List.getElem?_toArray]; exact rfl
    case hQ10y6 => exact fun _ _ _ h => h
    case hy10y6 =>
      refine Or.inl ⟨by rfl, ?_⟩
      intro w' hSw
      clear hSw
      go_simp
      try with_reducible rfl
    simp only [Act.put, List.setIfInBounds_toArray, List.set_cons_zero, List.set_cons_succ]
    refine wpAnyN_one (i := 12) (o := ?o12y6) (by kernel_rfl) ?hi12y6 ?hw12y6 ?st12y6
    case hi12y6 => rw [List.getElem?_toArray]; exact rfl
    case hw12y6 => exact rfl
    intro K hK
    have HK12y6 : Hid _ := hK
    clear hK
    obtain ⟨⟨o0, o1, o2⟩, ⟨y0, y1, y2⟩, oz⟩ := Zr.facts P9y6.out
    try simp only [World.size_alloc] at o0 o1 o2 y0 y1 y2 oz
    go_simp
    refine HK12y6.out _ _ ⟨fun h => absurd h (by decide +kernel), ?_⟩
    clear HK12y6 K
    try simp only [Act.put, List.setIfInBounds_toArray, List.set_cons_zero, List.set_cons_succ]
    refine wpAnyN_done (by kernel_rfl) ?_ _
    obtain ⟨wS, hwS⟩ : ∃ y, y = (((w9y6.setCell ⟨w2.heap.size, 0, none⟩ (.int .i64 A)).setCell ⟨w2.heap.size, 1, none⟩ (.int .i64 B)).setCell ⟨w2.heap.size, 2, none⟩ (.string ⟨#[]⟩)) := ⟨_, rfl⟩
    obtain ⟨bk, hbk⟩ : ∃ y, y = w2.heap.size := ⟨_, rfl⟩
    have HT0 : Hid (Own3 wS bk A B ⟨#[]⟩ ∧ Below w2.heap.size w2 wS ∧ w2.heap.size ≤ bk) := by rw [hwS, hbk]; exact ⟨Zr.own P9y6.out, Below.setCell (Below.setCell (Below.setCell H9y6.out (Nat.le_refl _) _) (Nat.le_refl _) _) (Nat.le_refl _) _, (Nat.le_refl _)⟩
    rw [← hwS, ← hbk]
    clear hwS hbk o0 o1 o2 y0 y1 y2 oz
    have HT : Hid (Own3 wS bk A B ⟨#[]⟩ ∧ OpenAt w wS 2 G R ⟨pb, po, none⟩ 2 cap (a :: b :: []) ∧ bk ≠ G ∧ bk ≠ R) := ⟨HT0.out.1, H2.out.1.call HT0.out.2.1, fun c => absurd H2.out.1.1.2.2 (by rw [← c]; exact Nat.not_lt_of_le HT0.out.2.2), fun c => absurd H2.out.1.2.2.1 (by rw [← c]; exact Nat.not_lt_of_le HT0.out.2.2)⟩
    obtain ⟨⟨o0, o1, o2⟩, of, -⟩ := HT.out.1
    have of2 := of 2
    obtain ⟨⟨⟨g0, g1, g2⟩, gf, -⟩, ⟨r0, r1⟩, -, hS, -, -⟩ := HT.out.2.1
    have gf0 := gf 0
    have gf1 := gf 1
    have gf2 := gf 2
    have n1 : bk ≠ G := HT.out.2.2.1
    have n2 : bk ≠ R := HT.out.2.2.2
    have n3 : G ≠ bk := Ne.symm n1
    have n4 : R ≠ bk := Ne.symm n2
    clear hS of gf
    go_wp2_with fail
    obtain ⟨W, hW, e0, e1, e2, hBW⟩ := put3n (w := w) (w1 := wS) (B := w.heap.size) (G := G) (.int .i64 A) (.int .i64 B) (.string ⟨#[]⟩) HT.out.2.1.2.2.2.2.2 (by rw [HT.out.2.1.2.2.2.2.1]; exact Nat.le_refl _) g0 g1 g2
    rw [← hW]
    refine bodyPost_ret (v := .tuple #[.agg #[.int .i64 A, .int .i64 B, .string ⟨#[]⟩], .bool true]) ?_ rfl ⟨rfl, hBW⟩
    simp [results, Try.results24, go_sem, e0, e1, e2]
theorem numV_none {s : ByteArray} (h : n8v s = none) : numV s = -1 := by unfold numV; rw [h]
theorem numV_some {s : ByteArray} {v : Nat} (h : n8v s = some v) : numV s = if v ≤ 1099511627776 then (v : Int) else -1 := by unfold numV; rw [h]
theorem ropen1_any (s : ByteArray) (hs : s.size < 140737488351233) (w : World) : Calls Try.prog 24 #[.string s, .int .i64 1] w fun e w' => opPost w (rdF s) e w' := by
  match h : rdF s with
  | some (l, n, t) =>
    obtain ⟨hU, n0, ht, -⟩ := rdF_inv h
    obtain ⟨a, b, h1, h2, h3, h4, h5, h6, h7, h8, h9⟩ := lkU_inv hU
    have e1 := numV_some h5
    have e2 := numV_some h6
    rw [if_pos h8] at e1
    rw [if_pos h9] at e2
    exact ropen1_e a b t s _ _ e1 e2 hs h1 h2 h3 (by omega) (by omega) (by omega) (by omega) w
  | none =>
    rcases rdF_no h with h | ⟨l, n, t, h, hx⟩
    · rcases lkU_no h with h1 | ⟨h1, h2⟩ | ⟨h1, h2, h3⟩ | ⟨a, b, r, h1, h2, h3, h4, h5⟩
      · exact ropen_pre (k := 1) (.inl rfl) hs (.inl h1) w
      · exact ropen_pre (k := 1) (.inl rfl) hs (.inr (.inl ⟨h1, h2⟩)) w
      · exact ropen_pre (k := 1) (.inl rfl) hs (.inr (.inr ⟨h1, h2, h3⟩)) w
      · match r, h4 with
        | [t], _ =>
          rcases h5 with h5 | ⟨l, h5, h6⟩ | ⟨l, h5, h6, h7⟩
          · exact ropen1_a a b t s _ _ (numV_none h5) rfl hs h1 h2 h3 (by decide) w
          · have e1 := numV_some h5
            by_cases hl : l ≤ 1099511627776
            · rw [if_pos hl] at e1
              exact ropen1_a a b t s _ _ e1 rfl hs h1 h2 h3 (by omega) w
            · rw [if_neg hl] at e1
              exact ropen1_a a b t s _ _ e1 rfl hs h1 h2 h3 (by decide) w
          · have e1 := numV_some h5
            rw [if_pos h6.2] at e1
            rcases h7 with h7 | ⟨n, h7, h8⟩
            · exact ropen1_b a b t s _ _ e1 (numV_none h7) hs h1 h2 h3 (by omega) (by decide) w
            · have e2 := numV_some h7
              rw [if_neg h8] at e2
              exact ropen1_b a b t s _ _ e1 e2 hs h1 h2 h3 (by omega) (by decide) w
    · obtain ⟨a, b, h1, h2, h3, h4, h5, h6, h7, h8, h9⟩ := lkU_inv h
      have e1 := numV_some h5
      have e2 := numV_some h6
      rw [if_pos h8] at e1
      rw [if_pos h9] at e2
      rcases hx with hx | ⟨hx, hy⟩
      · exact ropen1_c a b t s _ _ e1 e2 hs h1 h2 h3 (by omega) (by omega) (by omega) w
      · exact ropen1_d a b t s _ _ e1 e2 hs h1 h2 h3 (by omega) (by omega) (by omega) (by omega) w
/-- The life and the number of an ack. -/
def rdA (s : ByteArray) : Option (Nat × Nat × ByteArray) := (lkU 2 0 s).map fun x => (x.1, x.2.1, ⟨#[]⟩)
theorem ropen2_any (s : ByteArray) (hs : s.size < 140737488351233) (w : World) : Calls Try.prog 24 #[.string s, .int .i64 2] w fun e w' => opPost w (rdA s) e w' := by
  match h : lkU 2 0 s with
  | some (l, n, r) =>
    have er : rdA s = some (l, n, ⟨#[]⟩) := by unfold rdA; rw [h]; rfl
    rw [er]
    obtain ⟨a, b, h1, h2, h3, h4, h5, h6, h7, h8, h9⟩ := lkU_inv h
    have r0 : r = [] := List.eq_nil_of_length_eq_zero h4
    subst r0
    have e1 := numV_some h5
    have e2 := numV_some h6
    rw [if_pos h8] at e1
    rw [if_pos h9] at e2
    exact ropen2_e a b s _ _ e1 e2 hs h1 h2 h3 (by omega) (by omega) w
  | none =>
    have er : rdA s = none := by unfold rdA; rw [h]; rfl
    rw [er]
    rcases lkU_no h with h1 | ⟨h1, h2⟩ | ⟨h1, h2, h3⟩ | ⟨a, b, r, h1, h2, h3, h4, h5⟩
    · exact ropen_pre (k := 2) (.inr rfl) hs (.inl h1) w
    · exact ropen_pre (k := 2) (.inr rfl) hs (.inr (.inl ⟨h1, h2⟩)) w
    · exact ropen_pre (k := 2) (.inr rfl) hs (.inr (.inr ⟨h1, h2, h3⟩)) w
    · have r0 : r = [] := List.eq_nil_of_length_eq_zero h4
      subst r0
      rcases h5 with h5 | ⟨l, h5, h6⟩ | ⟨l, h5, h6, h7⟩
      · exact ropen2_a a b s _ _ (numV_none h5) rfl hs h1 h2 h3 (by decide) w
      · have e1 := numV_some h5
        by_cases hl : l ≤ 1099511627776
        · rw [if_pos hl] at e1
          exact ropen2_a a b s _ _ e1 rfl hs h1 h2 h3 (by omega) w
        · rw [if_neg hl] at e1
          exact ropen2_a a b s _ _ e1 rfl hs h1 h2 h3 (by decide) w
      · have e1 := numV_some h5
        rw [if_pos h6.2] at e1
        rcases h7 with h7 | ⟨n, h7, h8⟩
        · exact ropen2_b a b s _ _ e1 (numV_none h7) hs h1 h2 h3 (by omega) (by decide) w
        · have e2 := numV_some h7
          rw [if_neg h8] at e2
          exact ropen2_b a b s _ _ e1 e2 hs h1 h2 h3 (by omega) (by decide) w
end Go.Proofs.Ytadcjdffjhiniaa
