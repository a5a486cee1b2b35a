/- The reference of layer 12: Open. -/
import Derived.Test.YtadcjdffjhiniaaLkI
namespace Go.Proofs.Ytadcjdffjhiniaa
open Go Go.RowKit Go.Lib

/-- A block of one's own that holds two numbers and a text. -/
def Own3 (w : World) (b : Nat) (x y : Int) (t : ByteArray) : Prop := (w.cell? ⟨b, 0, none⟩ = some (.int .i64 x) ∧ w.cell? ⟨b, 1, none⟩ = some (.int .i64 y) ∧ w.cell? ⟨b, 2, none⟩ = some (.string t)) ∧ (∀ o, w.frozen? ⟨b, o, none⟩ = false) ∧ b < w.heap.size
theorem Own3.new {W : World} {b : Nat} {x y : Int} {t : ByteArray} {q : TypeId} (h : b = W.heap.size) : Own3 (W.alloc (.cells #[.int .i64 x, .int .i64 y, .string t] q)) b x y t := by
  subst h; exact ⟨⟨by simp [go_sem], by simp [go_sem], by simp [go_sem]⟩, fun o => by simp [go_sem], by simp⟩
theorem Own3.call {W w1 : World} {b : Nat} {x y : Int} {t : ByteArray} (h : Own3 W b x y t) (hb : Below W.heap.size W w1) : Own3 w1 b x y t :=
  ⟨⟨(hb.cell (p := ⟨b, 0, none⟩) h.2.2).trans h.1.1, (hb.cell (p := ⟨b, 1, none⟩) h.2.2).trans h.1.2.1, (hb.cell (p := ⟨b, 2, none⟩) h.2.2).trans h.1.2.2⟩, fun o => (hb.frozen (p := ⟨b, o, none⟩) h.2.2).trans (h.2.1 o), Nat.lt_of_lt_of_le h.2.2 hb.size⟩
def Zr (w : World) (b : Nat) : Prop := Own3 w b 0 0 ⟨#[]⟩
theorem Zr.new {W : World} {b : Nat} {q : TypeId} (h : b = W.heap.size) : Zr (W.alloc (.cells #[.int .i64 0, .int .i64 0, .string ⟨#[]⟩] q)) b := Own3.new h
theorem Zr.call {W w1 : World} {b : Nat} (h : Zr W b) (hb : Below W.heap.size W w1) : Zr w1 b := Own3.call h hb
theorem Zr.facts {w : World} {b : Nat} (h : Zr w b) : (w.cell? ⟨b, 0, none⟩ = some (.int .i64 0) ∧ w.cell? ⟨b, 1, none⟩ = some (.int .i64 0) ∧ w.cell? ⟨b, 2, none⟩ = some (.string ⟨#[]⟩)) ∧ (w.frozen? ⟨b, 0, none⟩ = false ∧ w.frozen? ⟨b, 1, none⟩ = false ∧ w.frozen? ⟨b, 2, none⟩ = false) ∧ b < w.heap.size := ⟨h.1, ⟨h.2.1 0, h.2.1 1, h.2.1 2⟩, h.2.2⟩
theorem put3n {w w1 : World} {B G : Nat} {a0 a1 a2 : Value} (v0 v1 v2 : Value) (hb : Below B w w1) (hG : B ≤ G) (q0 : w1.cell? ⟨G, 0, none⟩ = some a0) (q1 : w1.cell? ⟨G, 1, none⟩ = some a1) (q2 : w1.cell? ⟨G, 2, none⟩ = some a2) :
    ∃ W, W = (((w1.setCell ⟨G, 0, none⟩ v0).setCell ⟨G, 1, none⟩ v1).setCell ⟨G, 2, none⟩ v2) ∧ W.cell? ⟨G, 0, none⟩ = some v0 ∧ W.cell? ⟨G, 1, none⟩ = some v1 ∧ W.cell? ⟨G, 2, none⟩ = some v2 ∧ Below B w W := by
  refine ⟨_, rfl, ?_, ?_, ?_, ((hb.setCell hG v0).setCell hG v1).setCell hG v2⟩
  · rw [World.cell?_setCell_other _ _ _ _ (by intro c; injection c with _ c2 _; omega), World.cell?_setCell_other _ _ _ _ (by intro c; injection c with _ c2 _; omega)]
    exact World.cell?_setCell_same _ _ _ q0
  · rw [World.cell?_setCell_other _ _ _ _ (by intro c; injection c with _ c2 _; omega)]
    exact World.cell?_setCell_same _ _ _ (by rw [World.cell?_setCell_other _ _ _ _ (by intro c; injection c with _ c2 _; omega)]; exact q1)
  · exact World.cell?_setCell_same _ _ _ (by rw [World.cell?_setCell_other _ _ _ _ (by intro c; injection c with _ c2 _; omega), World.cell?_setCell_other _ _ _ _ (by intro c; injection c with _ c2 _; omega)]; exact q2)
theorem Zr.own {W : World} {b : Nat} {x y : Int} {t : ByteArray} (h : Zr W b) : Own3 (((W.setCell ⟨b, 0, none⟩ (.int .i64 x)).setCell ⟨b, 1, none⟩ (.int .i64 y)).setCell ⟨b, 2, none⟩ (.string t)) b x y t := by
  obtain ⟨_, rfl, f0, f1, f2, _⟩ := put3n (w := W) (B := 0) (.int .i64 x) (.int .i64 y) (.string t) (Below.refl _ _) (Nat.zero_le _) h.1.1 h.1.2.1 h.1.2.2
  exact ⟨⟨f0, f1, f2⟩, fun o => by rw [World.frozen?_setCell, World.frozen?_setCell, World.frozen?_setCell]; exact h.2.1 o, by rw [World.size_setCell, World.size_setCell, World.size_setCell]; exact h.2.2⟩
theorem cell_otherB {w : World} {b g o o' : Nat} {v : Value} (h : b ≠ g) : (w.setCell ⟨b, o, none⟩ v).cell? ⟨g, o', none⟩ = w.cell? ⟨g, o', none⟩ :=
  World.cell?_setCell_other _ _ _ _ (by intro c; injection c with c1 _ _; omega)
/-- The world in which Open reads its record. -/
def OpenAt (w w2 : World) (k : Nat) (G R : Nat) (p : Addr) (n cap : Nat) (l : List ByteArray) : Prop :=
  Own3 w2 G 0 0 ⟨#[]⟩ ∧ (w2.cell? ⟨R, 0, none⟩ = some (.int .i64 (k : Nat)) ∧ w2.cell? ⟨R, 1, none⟩ = some (.slice (some p) n cap)) ∧ R < w2.heap.size ∧ Strs w2 (some p) l ∧ G = w.heap.size ∧ Below w.heap.size w w2
theorem OpenAt.call {w w2 w3 : World} {k G R n cap : Nat} {p : Addr} {l : List ByteArray} (h : OpenAt w w2 k G R p n cap l) (hb : Below w2.heap.size w2 w3) : OpenAt w w3 k G R p n cap l :=
  ⟨h.1.call hb, ⟨(hb.cell (p := ⟨R, 0, none⟩) h.2.2.1).trans h.2.1.1, (hb.cell (p := ⟨R, 1, none⟩) h.2.2.1).trans h.2.1.2⟩, Nat.lt_of_lt_of_le h.2.2.1 hb.size, h.2.2.2.1.call hb, h.2.2.2.2.1, below_call0 h.2.2.2.2.2 hb⟩
set_option maxRecDepth 100000 in
set_option maxHeartbeats 4000000 in
theorem ropen1_a (a b : ByteArray) (t : ByteArray) (s : ByteArray) (A B : Int) (hA : numV a = A) (hB : numV b = B) (hs : s.size < 140737488351233) (h1 : upE s.data.toList = 0) (h2 : upK s.data.toList = 1) (h3 : upL s.data.toList = a :: b :: [t]) (c1 : A < 1) (w : World) :
    Calls Try.prog 24 #[.string s, .int .i64 1] w fun e w' => e = .returned (.tuple #[.agg #[.int .i64 0, .int .i64 0, .string ⟨#[]⟩], .bool false]) ∧ Below w.heap.size w w' := by
  have hz := upL_ok h1
  rw [h3] at hz
  have KA : Hid _ := fun w' : World => rnumber_any a (by have := hz a (by simp); omega) w'
  have KB : Hid _ := fun w' : World => rnumber_any b (by have := hz b (by simp); omega) w'
  rw [hA] at KA
  rw [hB] at KB
  have KU : Hid _ := fun w' : World => runpack_any s hs w'
  unfold rupPost at KU
  rw [h1, h2, h3] at KU
  have KU : Hid (∀ w' : World, Calls Try.prog 34 #[.string s] w' fun e w'' => ∃ p cap, e = .returned (.tuple #[.agg #[.int .i64 1, .slice p 3 cap], .int .i64 0]) ∧ Strs w'' p (a :: b :: [t]) ∧ Below w'.heap.size w' w'') := KU.out
  clear hz h1 h2 h3 hs hA hB
  go_enter Try.func24, Try.ntmps24
  go_wp2_with fail
  refine (KU.out _).mono ?_
  rintro e w1 ⟨p, cap, rfl, hS1, hb1⟩
  obtain ⟨pb, po, rfl, -, hpb⟩ := hS1 0 a rfl
  obtain ⟨G, hG⟩ : ∃ G, G = w.heap.size := ⟨_, rfl⟩
  have H1 : Hid (Own3 w1 G 0 0 ⟨#[]⟩ ∧ Strs w1 (some ⟨pb, po, none⟩) (a :: b :: [t]) ∧ Below w.heap.size w w1 ∧ G = w.heap.size) := by
    rw [hG]
    exact ⟨(Zr.new rfl).call hb1, hS1, below_call0 (below_alloc0 (Below.refl _ _) _) hb1, rfl⟩
  rw [← hG]
  clear hb1 hS1 KU hG hpb
  obtain ⟨⟨g0, g1, g2⟩, gf, gz⟩ := H1.out.1
  have gf0 := gf 0
  have gf1 := gf 1
  have gf2 := gf 2
  go_wp2_with fail
  obtain ⟨w2, hw2⟩ : ∃ y, y = w1.alloc (.cells #[.int .i64 1, .slice (some ⟨pb, po, none⟩) 3 cap] 83) := ⟨_, rfl⟩
  obtain ⟨R, hR⟩ : ∃ R, R = w1.heap.size := ⟨_, rfl⟩
  have H2 : Hid (OpenAt w w2 1 G R ⟨pb, po, none⟩ 3 cap (a :: b :: [t]) ∧ G ≠ R) := by
    rw [hw2, hR]
    have hb : Below w1.heap.size w1 (w1.alloc (.cells #[.int .i64 1, .slice (some ⟨pb, po, none⟩) 3 cap] 83)) := below_alloc0 (Below.refl _ _) _
    exact ⟨⟨H1.out.1.call hb, ⟨by simp [go_sem], by simp [go_sem]⟩, by simp, H1.out.2.1.call hb, H1.out.2.2.2, below_call0 H1.out.2.2.1 hb⟩, Nat.ne_of_lt H1.out.1.2.2⟩
  rw [← hw2, ← hR]
  clear hw2 hR g0 g1 g2 gf gf0 gf1 gf2 gz H1
  refine wp_region_N (fun w' => Below w2.heap.size w2 w') 12 13 rfl (by kernel_rfl) ?_
  refine wpAnyN_take (i := 0) (oi := ?o0) (v := ?v0) ?hi0 (by kernel_rfl) (by kernel_rfl) (by kernel_rfl) (by kernel_rfl) (by decide) (by kernel_rfl) ?hQ0 ?hy0 (Below.drew (Below.refl _ _)) ?more0
  case hi0 => rw [List.getElem?_toArray]; exact rfl
  case hQ0 => exact fun _ _ _ h => h
  case hy0 =>
    refine Or.inl ⟨by rfl, ?_⟩
    intro w' hSw
    have hO := H2.out.1.call hSw
    obtain ⟨-, ⟨-, r1⟩, -, hS, -⟩ := hO
    obtain ⟨_, _, he, i0, -⟩ := hS 0 a rfl
    cases he
    obtain ⟨_, _, he, i1, -⟩ := hS 1 b rfl
    cases he
    rw [Nat.add_zero] at i0
    clear hSw hS
    go_simp
    try with_reducible rfl
  simp only [Act.put, List.setIfInBounds_toArray, List.set_cons_zero, List.set_cons_succ]
  refine wpAnyN_take (i := 1) (oi := ?o1) (v := ?v1) ?hi1 (by kernel_rfl) (by kernel_rfl) (by kernel_rfl) (by kernel_rfl) (by decide) (by kernel_rfl) ?hQ1 ?hy1 (Below.drew (Below.refl _ _)) ?more1
  case hi1 => rw [List.getElem?_toArray]; exact rfl
  case hQ1 => exact fun _ _ _ h => h
  case hy1 =>
    refine Or.inl ⟨by rfl, ?_⟩
    intro w' hSw
    have hO := H2.out.1.call hSw
    obtain ⟨-, ⟨-, r1⟩, -, hS, -⟩ := hO
    obtain ⟨_, _, he, i0, -⟩ := hS 0 a rfl
    cases he
    obtain ⟨_, _, he, i1, -⟩ := hS 1 b rfl
    cases he
    rw [Nat.add_zero] at i0
    clear hSw hS
    go_simp
    try with_reducible rfl
  simp only [Act.put, List.setIfInBounds_toArray, List.set_cons_zero, List.set_cons_succ]
  refine wpAnyN_take (i := 2) (oi := ?o2) (v := ?v2) ?hi2 (by kernel_rfl) (by kernel_rfl) (by kernel_rfl) (by kernel_rfl) (by decide) (by kernel_rfl) ?hQ2 ?hy2 (Below.drew (Below.refl _ _)) ?more2
  case hi2 => rw [List.getElem?_toArray]; exact rfl
  case hQ2 => exact fun _ _ _ h => h
  case hy2 =>
    refine Or.inl ⟨by rfl, ?_⟩
    intro w' hSw
    have hO := H2.out.1.call hSw
    obtain ⟨-, ⟨-, r1⟩, -, hS, -⟩ := hO
    obtain ⟨_, _, he, i0, -⟩ := hS 0 a rfl
    cases he
    obtain ⟨_, _, he, i1, -⟩ := hS 1 b rfl
    cases he
    rw [Nat.add_zero] at i0
    clear hSw hS
    go_simp
    try with_reducible rfl
  simp only [Act.put, List.setIfInBounds_toArray, List.set_cons_zero, List.set_cons_succ]
  refine wpAnyN_take (i := 3) (oi := ?o3) (v := ?v3) ?hi3 (by kernel_rfl) (by kernel_rfl) (by kernel_rfl) (by kernel_rfl) (by decide) (by kernel_rfl) ?hQ3 ?hy3 (Below.drew (Below.refl _ _)) ?more3
  case hi3 => rw [List.getElem?_toArray]; exact rfl
  case hQ3 => exact fun _ _ _ h => h
  case hy3 =>
    refine Or.inl ⟨by rfl, ?_⟩
    intro w' hSw
    have hO := H2.out.1.call hSw
    obtain ⟨-, ⟨-, r1⟩, -, hS, -⟩ := hO
    obtain ⟨_, _, he, i0, -⟩ := hS 0 a rfl
    cases he
    obtain ⟨_, _, he, i1, -⟩ := hS 1 b rfl
    cases he
    rw [Nat.add_zero] at i0
    clear hSw hS
    go_simp
    try with_reducible rfl
  simp only [Act.put, List.setIfInBounds_toArray, List.set_cons_zero, List.set_cons_succ]
  refine wpAnyN_take (i := 5) (oi := ?o5) (v := ?v5) ?hi5 (by kernel_rfl) (by kernel_rfl) (by kernel_rfl) (by kernel_rfl) (by decide) (by kernel_rfl) ?hQ5 ?hy5 (Below.drew (Below.refl _ _)) ?more5
  case hi5 => rw [List.getElem?_toArray]; exact rfl
  case hQ5 => exact fun _ _ _ h => h
  case hy5 =>
    refine Or.inl ⟨by rfl, ?_⟩
    intro w' hSw
    have hO := H2.out.1.call hSw
    obtain ⟨-, ⟨-, r1⟩, -, hS, -⟩ := hO
    obtain ⟨_, _, he, i0, -⟩ := hS 0 a rfl
    cases he
    obtain ⟨_, _, he, i1, -⟩ := hS 1 b rfl
    cases he
    rw [Nat.add_zero] at i0
    clear hSw hS
    go_simp
    try with_reducible rfl
  simp only [Act.put, List.setIfInBounds_toArray, List.set_cons_zero, List.set_cons_succ]
  refine wpAnyN_take (i := 6) (oi := ?o6) (v := ?v6) ?hi6 (by kernel_rfl) (by kernel_rfl) (by kernel_rfl) (by kernel_rfl) (by decide) (by kernel_rfl) ?hQ6 ?hy6 (Below.drew (Below.refl _ _)) ?more6
  case hi6 => rw [List.getElem?_toArray]; exact rfl
  case hQ6 => exact fun _ _ _ h => h
  case hy6 =>
    refine Or.inl ⟨by rfl, ?_⟩
    intro w' hSw
    have hO := H2.out.1.call hSw
    obtain ⟨-, ⟨-, r1⟩, -, hS, -⟩ := hO
    obtain ⟨_, _, he, i0, -⟩ := hS 0 a rfl
    cases he
    obtain ⟨_, _, he, i1, -⟩ := hS 1 b rfl
    cases he
    rw [Nat.add_zero] at i0
    clear hSw hS
    go_simp
    try with_reducible rfl
  simp only [Act.put, List.setIfInBounds_toArray, List.set_cons_zero, List.set_cons_succ]
  refine wpAnyN_take (i := 7) (oi := ?o7) (v := ?v7) ?hi7 (by kernel_rfl) (by kernel_rfl) (by kernel_rfl) (by kernel_rfl) (by decide) (by kernel_rfl) ?hQ7 ?hy7 (Below.drew (Below.refl _ _)) ?more7
  case hi7 => rw [List.getElem?_toArray]; exact rfl
  case hQ7 => exact fun _ _ _ h => h
  case hy7 =>
    refine Or.inl ⟨by rfl, ?_⟩
    intro w' hSw
    have hO := H2.out.1.call hSw
    obtain ⟨-, ⟨-, r1⟩, -, hS, -⟩ := hO
    obtain ⟨_, _, he, i0, -⟩ := hS 0 a rfl
    cases he
    obtain ⟨_, _, he, i1, -⟩ := hS 1 b rfl
    cases he
    rw [Nat.add_zero] at i0
    clear hSw hS
    go_simp
    try with_reducible rfl
  simp only [Act.put, List.setIfInBounds_toArray, List.set_cons_zero, List.set_cons_succ]
  refine wpAnyN_take (i := 8) (oi := ?o8) (v := ?v8) ?hi8 (by kernel_rfl) (by kernel_rfl) (by kernel_rfl) (by kernel_rfl) (by decide) (by kernel_rfl) ?hQ8 ?hy8 (Below.drew (Below.refl _ _)) ?more8
  case hi8 => rw [List.getElem?_toArray]; exact rfl
  case hQ8 => exact fun _ _ _ h => h
  case hy8 =>
    refine Or.inl ⟨by rfl, ?_⟩
    intro w' hSw
    have hO := H2.out.1.call hSw
    obtain ⟨-, ⟨-, r1⟩, -, hS, -⟩ := hO
    obtain ⟨_, _, he, i0, -⟩ := hS 0 a rfl
    cases he
    obtain ⟨_, _, he, i1, -⟩ := hS 1 b rfl
    cases he
    rw [Nat.add_zero] at i0
    clear hSw hS
    go_simp
    try with_reducible rfl
  simp only [Act.put, List.setIfInBounds_toArray, List.set_cons_zero, List.set_cons_succ]
  refine wpAnyN_two (i := 4) (j := 11) (o := ?o4x1) (p := ?o11x1) (by kernel_rfl) ?hi4x1 ?hi11x1 ?hw4x1 ?hw11x1 ?st4x1 ?st11x1
  case hi4x1 => rw [List.getElem?_toArray]; exact rfl
  case hw4x1 => exact rfl
  case hi11x1 => rw [List.getElem?_toArray]; exact rfl
  case hw11x1 => exact rfl
  case st4x1 =>
    intro K hK
    have HK4y2 : Hid _ := hK
    clear hK
    go_simp
    refine (KA.out _).mono ?_
    rintro e w4y2 ⟨rfl, hq⟩
    have H4y2 : Hid (Below w2.heap.size w2 w4y2) := below_call0 (Below.drew (Below.refl _ _)) hq
    clear hq
    go_wp2_with fail
    refine HK4y2.out _ _ ⟨fun _ => H4y2.out, ?_⟩
    clear HK4y2 K
    try simp only [Act.put, List.setIfInBounds_toArray, List.set_cons_zero, List.set_cons_succ]
    refine wpAnyN_two (i := 9) (j := 11) (o := ?o9y2x3) (p := ?o11y2x3) (by kernel_rfl) ?hi9y2x3 ?hi11y2x3 ?hw9y2x3 ?hw11y2x3 ?st9y2x3 ?st11y2x3
    case hi9y2x3 => rw [List.getElem?_toArray]; exact rfl
    case hw9y2x3 => exact rfl
    case hi11y2x3 => rw [List.getElem?_toArray]; exact rfl
    case hw11y2x3 => exact rfl
    case st9y2x3 =>
      intro K hK
      have HK9y4 : Hid _ := hK
      clear hK
      go_simp
      refine (KB.out _).mono ?_
      rintro e w9y4 ⟨rfl, hq⟩
      have H9y4 : Hid (Below w2.heap.size w2 w9y4) := below_call0 H4y2.out hq
      clear hq
      go_wp2_with fail
      refine HK9y4.out _ _ ⟨fun _ => H9y4.out, ?_⟩
      clear HK9y4 K
      try simp only [Act.put, List.setIfInBounds_toArray, List.set_cons_zero, List.set_cons_succ]
      refine wpAnyN_takeF (i := 10) (oi := ?o10y4) (v := ?v10y4) ?hi10y4 (by kernel_rfl) (by kernel_rfl) (by kernel_rfl) (by decide) ?hQ10y4 ?hy10y4 H9y4.out ?more10y4
      case hi10y4 => rw [List.getElem?_toArray]; exact rfl
      case hQ10y4 => exact fun _ _ _ h => h
      case hy10y4 =>
        refine Or.inl ⟨by rfl, ?_⟩
        intro w' hSw
        clear hSw
        go_simp
        try with_reducible rfl
      simp only [Act.put, List.setIfInBounds_toArray, List.set_cons_zero, List.set_cons_succ]
      refine wpAnyN_one (i := 11) (o := ?o11y4) (by kernel_rfl) ?hi11y4 ?hw11y4 ?st11y4
      case hi11y4 => rw [List.getElem?_toArray]; exact rfl
      case hw11y4 => exact rfl
      intro K hK
      have HK11y4 : Hid _ := hK
      clear hK
      go_simp
      refine HK11y4.out _ _ ⟨fun _ => (below_alloc0 H9y4.out _), ?_⟩
      clear HK11y4 K
      try simp only [Act.put, List.setIfInBounds_toArray, List.set_cons_zero, List.set_cons_succ]
      refine wpAnyN_one (i := 12) (o := ?o12y4) (by kernel_rfl) ?hi12y4 ?hw12y4 ?st12y4
      case hi12y4 => rw [List.getElem?_toArray]; exact rfl
      case hw12y4 => exact rfl
      intro K hK
      have HK12y4 : Hid _ := hK
      clear hK
      obtain ⟨⟨o0, o1, o2⟩, ⟨y0, y1, y2⟩, oz⟩ := Zr.facts (Zr.new (q := 62) (W := w9y4) rfl)
      try simp only [World.size_alloc] at o0 o1 o2 y0 y1 y2 oz
      go_simp
      refine HK12y4.out _ _ ⟨fun h => absurd h (by decide +kernel), ?_⟩
      clear HK12y4 K
      try simp only [Act.put, List.setIfInBounds_toArray, List.set_cons_zero, List.set_cons_succ]
      refine wpAnyN_done (by kernel_rfl) ?_ _
      obtain ⟨wS, hwS⟩ : ∃ y, y = w9y4.alloc (.cells #[.int .i64 A, .int .i64 B, .string ⟨#[]⟩] 62) := ⟨_, rfl⟩
      obtain ⟨bk, hbk⟩ : ∃ y, y = w9y4.heap.size := ⟨_, rfl⟩
      have HT0 : Hid (Own3 wS bk A B ⟨#[]⟩ ∧ Below w2.heap.size w2 wS ∧ w2.heap.size ≤ bk) := by rw [hwS, hbk]; exact ⟨Own3.new rfl, below_alloc0 H9y4.out _, (Below.size H9y4.out)⟩
      rw [← hwS, ← hbk]
      clear hwS hbk o0 o1 o2 y0 y1 y2 oz
      have HT : Hid (Own3 wS bk A B ⟨#[]⟩ ∧ OpenAt w wS 1 G R ⟨pb, po, none⟩ 3 cap (a :: b :: [t]) ∧ bk ≠ G ∧ bk ≠ R) := ⟨HT0.out.1, H2.out.1.call HT0.out.2.1, fun c => absurd H2.out.1.1.2.2 (by rw [← c]; exact Nat.not_lt_of_le HT0.out.2.2), fun c => absurd H2.out.1.2.2.1 (by rw [← c]; exact Nat.not_lt_of_le HT0.out.2.2)⟩
      obtain ⟨⟨o0, o1, o2⟩, of, -⟩ := HT.out.1
      have of2 := of 2
      obtain ⟨⟨⟨g0, g1, g2⟩, gf, -⟩, ⟨r0, r1⟩, -, hS, -, -⟩ := HT.out.2.1
      have gf0 := gf 0
      have gf1 := gf 1
      have gf2 := gf 2
      have n1 : bk ≠ G := HT.out.2.2.1
      have n2 : bk ≠ R := HT.out.2.2.2
      have n3 : G ≠ bk := Ne.symm n1
      have n4 : R ≠ bk := Ne.symm n2
      obtain ⟨_, _, he, i2, hpb⟩ := hS 2 t rfl
      cases he
      clear hS of gf
      go_wp2_with fail
      obtain ⟨W, hW, e0, e1, e2, hBW⟩ := put3n (w := w) (w1 := (wS.setCell ⟨bk, 2, none⟩ (.string t))) (B := w.heap.size) (G := G) (.int .i64 0) (.int .i64 0) (.string ⟨#[]⟩) (Below.setCell HT.out.2.1.2.2.2.2.2 (Nat.le_trans H2.out.1.2.2.2.2.2.size HT0.out.2.2) _) (by rw [HT.out.2.1.2.2.2.2.1]; exact Nat.le_refl _) (by rw [cell_otherB n1]; exact g0) (by rw [cell_otherB n1]; exact g1) (by rw [cell_otherB n1]; exact g2)
      rw [← hW]
      refine bodyPost_ret (v := .tuple #[.agg #[.int .i64 0, .int .i64 0, .string ⟨#[]⟩], .bool false]) ?_ rfl ⟨rfl, hBW⟩
      simp [results, Try.results24, go_sem, e0, e1, e2]
    case st11y2x3 =>
      intro K hK
      have HK11y5 : Hid _ := hK
      clear hK
      go_simp
      refine HK11y5.out _ _ ⟨fun _ => (below_alloc0 H4y2.out _), ?_⟩
      clear HK11y5 K
      try simp only [Act.put, List.setIfInBounds_toArray, List.set_cons_zero, List.set_cons_succ]
      refine wpAnyN_one (i := 9) (o := ?o9y5) (by kernel_rfl) ?hi9y5 ?hw9y5 ?st9y5
      case hi9y5 => rw [List.getElem?_toArray]; exact rfl
      case hw9y5 => exact rfl
      intro K hK
      have HK9y5 : Hid _ := hK
      clear hK
      go_simp
      refine (KB.out _).mono ?_
      rintro e w9y5 ⟨rfl, hq⟩
      have H9y5 : Hid (Below w2.heap.size w2 w9y5) := below_call0 (below_alloc0 H4y2.out _) hq
      have P9y5 : Hid (Zr w9y5 (w4y2.heap.size) ) := Zr.call (Zr.new (q := 62) (W := w4y2) rfl) hq
      clear hq
      go_wp2_with fail
      refine HK9y5.out _ _ ⟨fun _ => H9y5.out, ?_⟩
      clear HK9y5 K
      try simp only [Act.put, List.setIfInBounds_toArray, List.set_cons_zero, List.set_cons_succ]
      refine wpAnyN_takeF (i := 10) (oi := ?o10y5) (v := ?v10y5) ?hi10y5 (by kernel_rfl) (by kernel_rfl) (by kernel_rfl) (by decide) ?hQ10y5 ?hy10y5 H9y5.out ?more10y5
      case hi10y5 => rw [List.getElem?_toArray]; exact rfl
      case hQ10y5 => exact fun _ _ _ h => h
      case hy10y5 =>
        refine Or.inl ⟨by rfl, ?_⟩
        intro w' hSw
        clear hSw
        go_simp
        try with_reducible rfl
      simp only [Act.put, List.setIfInBounds_toArray, List.set_cons_zero, List.set_cons_succ]
      refine wpAnyN_one (i := 12) (o := ?o12y5) (by kernel_rfl) ?hi12y5 ?hw12y5 ?st12y5
      case hi12y5 => rw [List.getElem?_toArray]; exact rfl
      case hw12y5 => exact rfl
      intro K hK
      have HK12y5 : Hid _ := hK
      clear hK
      obtain ⟨⟨o0, o1, o2⟩, ⟨y0, y1, y2⟩, oz⟩ := Zr.facts P9y5.out
      try simp only [World.size_alloc] at o0 o1 o2 y0 y1 y2 oz
      go_simp
      refine HK12y5.out _ _ ⟨fun h => absurd h (by decide +kernel), ?_⟩
      clear HK12y5 K
      try simp only [Act.put, List.setIfInBounds_toArray, List.set_cons_zero, List.set_cons_succ]
      refine wpAnyN_done (by kernel_rfl) ?_ _
      obtain ⟨wS, hwS⟩ : ∃ y, y = (((w9y5.setCell ⟨w4y2.heap.size, 0, none⟩ (.int .i64 A)).setCell ⟨w4y2.heap.size, 1, none⟩ (.int .i64 B)).setCell ⟨w4y2.heap.size, 2, none⟩ (.string ⟨#[]⟩)) := ⟨_, rfl⟩
      obtain ⟨bk, hbk⟩ : ∃ y, y = w4y2.heap.size := ⟨_, rfl⟩
      have HT0 : Hid (Own3 wS bk A B ⟨#[]⟩ ∧ Below w2.heap.size w2 wS ∧ w2.heap.size ≤ bk) := by rw [hwS, hbk]; exact ⟨Zr.own P9y5.out, Below.setCell (Below.setCell (Below.setCell H9y5.out (Below.size H4y2.out) _) (Below.size H4y2.out) _) (Below.size H4y2.out) _, (Below.size H4y2.out)⟩
      rw [← hwS, ← hbk]
      clear hwS hbk o0 o1 o2 y0 y1 y2 oz
      have HT : Hid (Own3 wS bk A B ⟨#[]⟩ ∧ OpenAt w wS 1 G R ⟨pb, po, none⟩ 3 cap (a :: b :: [t]) ∧ bk ≠ G ∧ bk ≠ R) := ⟨HT0.out.1, H2.out.1.call HT0.out.2.1, fun c => absurd H2.out.1.1.2.2 (by rw [← c]; exact Nat.not_lt_of_le HT0.out.2.2), fun c => absurd H2.out.1.2.2.1 (by rw [← c]; exact Nat.not_lt_of_le HT0.out.2.2)⟩
      obtain ⟨⟨o0, o1, o2⟩, of, -⟩ := HT.out.1
      have of2 := of 2
      obtain ⟨⟨⟨g0, g1, g2⟩, gf, -⟩, ⟨r0, r1⟩, -, hS, -, -⟩ := HT.out.2.1
      have gf0 := gf 0
      have gf1 := gf 1
      have gf2 := gf 2
      have n1 : bk ≠ G := HT.out.2.2.1
      have n2 : bk ≠ R := HT.out.2.2.2
      have n3 : G ≠ bk := Ne.symm n1
      have n4 : R ≠ bk := Ne.symm n2
      obtain ⟨_, _, he, i2, hpb⟩ := hS 2 t rfl
      cases he
      clear hS of gf
      go_wp2_with fail
      obtain ⟨W, hW, e0, e1, e2, hBW⟩ := put3n (w := w) (w1 := (wS.setCell ⟨bk, 2, none⟩ (.string t))) (B := w.heap.size) (G := G) (.int .i64 0) (.int .i64 0) (.string ⟨#[]⟩) (Below.setCell HT.out.2.1.2.2.2.2.2 (Nat.le_trans H2.out.1.2.2.2.2.2.size HT0.out.2.2) _) (by rw [HT.out.2.1.2.2.2.2.1]; exact Nat.le_refl _) (by rw [cell_otherB n1]; exact g0) (by rw [cell_otherB n1]; exact g1) (by rw [cell_otherB n1]; exact g2)
      rw [← hW]
      refine bodyPost_ret (v := .tuple #[.agg #[.int .i64 0, .int .i64 0, .string ⟨#[]⟩], .bool false]) ?_ rfl ⟨rfl, hBW⟩
      simp [results, Try.results24, go_sem, e0, e1, e2]
  case st11x1 =>
    intro K hK
    have HK11y6 : Hid _ := hK
    clear hK
    go_simp
    refine HK11y6.out _ _ ⟨fun _ => (below_alloc0 (Below.drew (Below.refl _ _)) _), ?_⟩
    clear HK11y6 K
    try simp only [Act.put, List.setIfInBounds_toArray, List.set_cons_zero, List.set_cons_succ]
    refine wpAnyN_one (i := 4) (o := ?o4y6) (by kernel_rfl) ?hi4y6 ?hw4y6 ?st4y6
    case hi4y6 => rw [List.getElem?_toArray]; exact rfl
    case hw4y6 => exact rfl
    intro K hK
    have HK4y6 : Hid _ := hK
    clear hK
    go_simp
    refine (KA.out _).mono ?_
    rintro e w4y6 ⟨rfl, hq⟩
    have H4y6 : Hid (Below w2.heap.size w2 w4y6) := below_call0 (below_alloc0 (Below.drew (Below.refl _ _)) _) hq
    have P4y6 : Hid (Zr w4y6 (w2.heap.size) ) := Zr.call (Zr.new (q := 62) (W := w2.drew) rfl) hq
    clear hq
    go_wp2_with fail
    refine HK4y6.out _ _ ⟨fun _ => H4y6.out, ?_⟩
    clear HK4y6 K
    try simp only [Act.put, List.setIfInBounds_toArray, List.set_cons_zero, List.set_cons_succ]
    refine wpAnyN_one (i := 9) (o := ?o9y6) (by kernel_rfl) ?hi9y6 ?hw9y6 ?st9y6
    case hi9y6 => rw [List.getElem?_toArray]; exact rfl
    case hw9y6 => exact rfl
    intro K hK
    have HK9y6 : Hid _ := hK
    clear hK
    go_simp
    refine (KB.out _).mono ?_
    rintro e w9y6 ⟨rfl, hq⟩
    have H9y6 : Hid (Below w2.heap.size w2 w9y6) := below_call0 H4y6.out hq
    have P9y6 : Hid (Zr w9y6 (w2.heap.size) ) := Zr.call P4y6.out hq
    clear hq
    go_wp2_with fail
    refine HK9y6.out _ _ ⟨fun _ => H9y6.out, ?_⟩
    clear HK9y6 K
    try simp only [Act.put, List.setIfInBounds_toArray, List.set_cons_zero, List.set_cons_succ]
    refine wpAnyN_takeF (i := 10) (oi := ?o10y6) (v := ?v10y6) ?hi10y6 (by kernel_rfl) (by kernel_rfl) (by kernel_rfl) (by decide) ?hQ10y6 ?hy10y6 H9y6.out ?more10y6
    case hi10y6 => rw [List.getElem?_toArray]; exact rfl
    case hQ10y6 => exact fun _ _ _ h => h
    case hy10y6 =>
      refine Or.inl ⟨by rfl, ?_⟩
      intro w' hSw
      clear hSw
      go_simp
      try with_reducible rfl
    simp only [Act.put, List.setIfInBounds_toArray, List.set_cons_zero, List.set_cons_succ]
    refine wpAnyN_one (i := 12) (o := ?o12y6) (by kernel_rfl) ?hi12y6 ?hw12y6 ?st12y6
    case hi12y6 => rw [List.getElem?_toArray]; exact rfl
    case hw12y6 => exact rfl
    intro K hK
    have HK12y6 : Hid _ := hK
    clear hK
    obtain ⟨⟨o0, o1, o2⟩, ⟨y0, y1, y2⟩, oz⟩ := Zr.facts P9y6.out
    try simp only [World.size_alloc] at o0 o1 o2 y0 y1 y2 oz
    go_simp
    refine HK12y6.out _ _ ⟨fun h => absurd h (by decide +kernel), ?_⟩
    clear HK12y6 K
    try simp only [Act.put, List.setIfInBounds_toArray, List.set_cons_zero, List.set_cons_succ]
    refine wpAnyN_done (by kernel_rfl) ?_ _
    obtain ⟨wS, hwS⟩ : ∃ y, y = (((w9y6.setCell ⟨w2.heap.size, 0, none⟩ (.int .i64 A)).setCell ⟨w2.heap.size, 1, none⟩ (.int .i64 B)).setCell ⟨w2.heap.size, 2, none⟩ (.string ⟨#[]⟩)) := ⟨_, rfl⟩
    obtain ⟨bk, hbk⟩ : ∃ y, y = w2.heap.size := ⟨_, rfl⟩
    have HT0 : Hid (Own3 wS bk A B ⟨#[]⟩ ∧ Below w2.heap.size w2 wS ∧ w2.heap.size ≤ bk) := by rw [hwS, hbk]; exact ⟨Zr.own P9y6.out, Below.setCell (Below.setCell (Below.setCell H9y6.out (Nat.le_refl _) _) (Nat.le_refl _) _) (Nat.le_refl _) _, (Nat.le_refl _)⟩
    rw [← hwS, ← hbk]
    clear hwS hbk o0 o1 o2 y0 y1 y2 oz
    have HT : Hid (Own3 wS bk A B ⟨#[]⟩ ∧ OpenAt w wS 1 G R ⟨pb, po, none⟩ 3 cap (a :: b :: [t]) ∧ bk ≠ G ∧ bk ≠ R) := ⟨HT0.out.1, H2.out.1.call HT0.out.2.1, fun c => absurd H2.out.1.1.2.2 (by rw [← c]; exact Nat.not_lt_of_le HT0.out.2.2), fun c => absurd H2.out.1.2.2.1 (by rw [← c]; exact Nat.not_lt_of_le HT0.out.2.2)⟩
    obtain ⟨⟨o0, o1, o2⟩, of, -⟩ := HT.out.1
    have of2 := of 2
    obtain ⟨⟨⟨g0, g1, g2⟩, gf, -⟩, ⟨r0, r1⟩, -, hS, -, -⟩ := HT.out.2.1
    have gf0 := gf 0
    have gf1 := gf 1
    have gf2 := gf 2
    have n1 : bk ≠ G := HT.out.2.2.1
    have n2 : bk ≠ R := HT.out.2.2.2
    have n3 : G ≠ bk := Ne.symm n1
    have n4 : R ≠ bk := Ne.symm n2
    obtain ⟨_, _, he, i2, hpb⟩ := hS 2 t rfl
    cases he
    clear hS of gf
    go_wp2_with fail
    obtain ⟨W, hW, e0, e1, e2, hBW⟩ := put3n (w := w) (w1 := (wS.setCell ⟨bk, 2, none⟩ (.string t))) (B := w.heap.size) (G := G) (.int .i64 0) (.int .i64 0) (.string ⟨#[]⟩) (Below.setCell HT.out.2.1.2.2.2.2.2 (Nat.le_trans H2.out.1.2.2.2.2.2.size HT0.out.2.2) _) (by rw [HT.out.2.1.2.2.2.2.1]; exact Nat.le_refl _) (by rw [cell_otherB n1]; exact g0) (by rw [cell_otherB n1]; exact g1) (by rw [cell_otherB n1]; exact g2)
    rw [← hW]
    refine bodyPost_ret (v := .tuple #[.agg #[.int .i64 0, .int .i64 0, .string ⟨#[]⟩], .bool false]) ?_ rfl ⟨rfl, hBW⟩
    simp [results, Try.results24, go_sem, e0, e1, e2]
set_option maxRecDepth 100000 in
set_option maxHeartbeats 4000000 in
theorem ropen1_b (a b : ByteArray) (t : ByteArray) (s : ByteArray) (A B : Int) (hA : numV a = A) (hB : numV b = B) (hs : s.size < 140737488351233) (h1 : upE s.data.toList = 0) (h2 : upK s.data.toList = 1) (h3 : upL s.data.toList = a :: b :: [t]) (c1 : ¬ (A < 1)) (c2 : B < 0) (w : World) :
    Calls Try.prog 24 #[.string s, .int .i64 1] w fun e w' => e = .returned (.tuple #[.agg #[.int .i64 0, .int .i64 0, .string ⟨#[]⟩], .bool false]) ∧ Below w.heap.size w w' := by
  have hz := upL_ok h1
  rw [h3] at hz
  have KA : Hid _ := fun w' : World => rnumber_any a (by have := hz a (by simp); omega) w'
  have KB : Hid _ := fun w' : World => rnumber_any b (by have := hz b (by simp); omega) w'
  rw [hA] at KA
  rw [hB] at KB
  have KU : Hid _ := fun w' : World => runpack_any s hs w'
  unfold rupPost at KU
  rw [h1, h2, h3] at KU
  have KU : Hid (∀ w' : World, Calls Try.prog 34 #[.string s] w' fun e w'' => ∃ p cap, e = .returned (.tuple #[.agg #[.int .i64 1, .slice p 3 cap], .int .i64 0]) ∧ Strs w'' p (a :: b :: [t]) ∧ Below w'.heap.size w' w'') := KU.out
  clear hz h1 h2 h3 hs hA hB
  go_enter Try.func24, Try.ntmps24
  go_wp2_with fail
  refine (KU.out _).mono ?_
  rintro e w1 ⟨p, cap, rfl, hS1, hb1⟩
  obtain ⟨pb, po, rfl, -, hpb⟩ := hS1 0 a rfl
  obtain ⟨G, hG⟩ : ∃ G, G = w.heap.size := ⟨_, rfl⟩
  have H1 : Hid (Own3 w1 G 0 0 ⟨#[]⟩ ∧ Strs w1 (some ⟨pb, po, none⟩) (a :: b :: [t]) ∧ Below w.heap.size w w1 ∧ G = w.heap.size) := by
    rw [hG]
    exact ⟨(Zr.new rfl).call hb1, hS1, below_call0 (below_alloc0 (Below.refl _ _) _) hb1, rfl⟩
  rw [← hG]
  clear hb1 hS1 KU hG hpb
  obtain ⟨⟨g0, g1, g2⟩, gf, gz⟩ := H1.out.1
  have gf0 := gf 0
  have gf1 := gf 1
  have gf2 := gf 2
  go_wp2_with fail
  obtain ⟨w2, hw2⟩ : ∃ y, y = w1.alloc (.cells #[.int .i64 1, .slice (some ⟨pb, po, none⟩) 3 cap] 83) := ⟨_, rfl⟩
  obtain ⟨R, hR⟩ : ∃ R, R = w1.heap.size := ⟨_, rfl⟩
  have H2 : Hid (OpenAt w w2 1 G R ⟨pb, po, none⟩ 3 cap (a :: b :: [t]) ∧ G ≠ R) := by
    rw [hw2, hR]
    have hb : Below w1.heap.size w1 (w1.alloc (.cells #[.int .i64 1, .slice (some ⟨pb, po, none⟩) 3 cap] 83)) := below_alloc0 (Below.refl _ _) _
    exact ⟨⟨H1.out.1.call hb, ⟨by simp [go_sem], by simp [go_sem]⟩, by simp, H1.out.2.1.call hb, H1.out.2.2.2, below_call0 H1.out.2.2.1 hb⟩, Nat.ne_of_lt H1.out.1.2.2⟩
  rw [← hw2, ← hR]
  clear hw2 hR g0 g1 g2 gf gf0 gf1 gf2 gz H1
  refine wp_region_N (fun w' => Below w2.heap.size w2 w') 12 13 rfl (by kernel_rfl) ?_
  refine wpAnyN_take (i := 0) (oi := ?o0) (v := ?v0) ?hi0 (by kernel_rfl) (by kernel_rfl) (by kernel_rfl) (by kernel_rfl) (by decide) (by kernel_rfl) ?hQ0 ?hy0 (Below.drew (Below.refl _ _)) ?more0
  case hi0 => rw [List.getElem?_toArray]; exact rfl
  case hQ0 => exact fun _ _ _ h => h
  case hy0 =>
    refine Or.inl ⟨by rfl, ?_⟩
    intro w' hSw
    have hO := H2.out.1.call hSw
    obtain ⟨-, ⟨-, r1⟩, -, hS, -⟩ := hO
    obtain ⟨_, _, he, i0, -⟩ := hS 0 a rfl
    cases he
    obtain ⟨_, _, he, i1, -⟩ := hS 1 b rfl
    cases he
    rw [Nat.add_zero] at i0
    clear hSw hS
    go_simp
    try with_reducible rfl
  simp only [Act.put, List.setIfInBounds_toArray, List.set_cons_zero, List.set_cons_succ]
  refine wpAnyN_take (i := 1) (oi := ?o1) (v := ?v1) ?hi1 (by kernel_rfl) (by kernel_rfl) (by kernel_rfl) (by kernel_rfl) (by decide) (by kernel_rfl) ?hQ1 ?hy1 (Below.drew (Below.refl _ _)) ?more1
  case hi1 => rw [List.getElem?_toArray]; exact rfl
  case hQ1 => exact fun _ _ _ h => h
  case hy1 =>
    refine Or.inl ⟨by rfl, ?_⟩
    intro w' hSw
    have hO := H2.out.1.call hSw
    obtain ⟨-, ⟨-, r1⟩, -, hS, -⟩ := hO
    obtain ⟨_, _, he, i0, -⟩ := hS 0 a rfl
    cases he
    obtain ⟨_, _, he, i1, -⟩ := hS 1 b rfl
    cases he
    rw [Nat.add_zero] at i0
    clear hSw hS
    go_simp
    try with_reducible rfl
  simp only [Act.put, List.setIfInBounds_toArray, List.set_cons_zero, List.set_cons_succ]
  refine wpAnyN_take (i := 2) (oi := ?o2) (v := ?v2) ?hi2 (by kernel_rfl) (by kernel_rfl) (by kernel_rfl) (by kernel_rfl) (by decide) (by kernel_rfl) ?hQ2 ?hy2 (Below.drew (Below.refl _ _)) ?more2
  case hi2 => rw [List.getElem?_toArray]; exact rfl
  case hQ2 => exact fun _ _ _ h => h
  case hy2 =>
    refine Or.inl ⟨by rfl, ?_⟩
    intro w' hSw
    have hO := H2.out.1.call hSw
    obtain ⟨-, ⟨-, r1⟩, -, hS, -⟩ := hO
    obtain ⟨_, _, he, i0, -⟩ := hS 0 a rfl
    cases he
    obtain ⟨_, _, he, i1, -⟩ := hS 1 b rfl
    cases he
    rw [Nat.add_zero] at i0
    clear hSw hS
    go_simp
    try with_reducible rfl
  simp only [Act.put, List.setIfInBounds_toArray, List.set_cons_zero, List.set_cons_succ]
  refine wpAnyN_take (i := 3) (oi := ?o3) (v := ?v3) ?hi3 (by kernel_rfl) (by kernel_rfl) (by kernel_rfl) (by kernel_rfl) (by decide) (by kernel_rfl) ?hQ3 ?hy3 (Below.drew (Below.refl _ _)) ?more3
  case hi3 => rw [List.getElem?_toArray]; exact rfl
  case hQ3 => exact fun _ _ _ h => h
  case hy3 =>
    refine Or.inl ⟨by rfl, ?_⟩
    intro w' hSw
    have hO := H2.out.1.call hSw
    obtain ⟨-, ⟨-, r1⟩, -, hS, -⟩ := hO
    obtain ⟨_, _, he, i0, -⟩ := hS 0 a rfl
    cases he
    obtain ⟨_, _, he, i1, -⟩ := hS 1 b rfl
    cases he
    rw [Nat.add_zero] at i0
    clear hSw hS
    go_simp
    try with_reducible rfl
  simp only [Act.put, List.setIfInBounds_toArray, List.set_cons_zero, List.set_cons_succ]
  refine wpAnyN_take (i := 5) (oi := ?o5) (v := ?v5) ?hi5 (by kernel_rfl) (by kernel_rfl) (by kernel_rfl) (by kernel_rfl) (by decide) (by kernel_rfl) ?hQ5 ?hy5 (Below.drew (Below.refl _ _)) ?more5
  case hi5 => rw [List.getElem?_toArray]; exact rfl
  case hQ5 => exact fun _ _ _ h => h
  case hy5 =>
    refine Or.inl ⟨by rfl, ?_⟩
    intro w' hSw
    have hO := H2.out.1.call hSw
    obtain ⟨-, ⟨-, r1⟩, -, hS, -⟩ := hO
    obtain ⟨_, _, he, i0, -⟩ := hS 0 a rfl
    cases he
    obtain ⟨_, _, he, i1, -⟩ := hS 1 b rfl
    cases he
    rw [Nat.add_zero] at i0
    clear hSw hS
    go_simp
    try with_reducible rfl
  simp only [Act.put, List.setIfInBounds_toArray, List.set_cons_zero, List.set_cons_succ]
  refine wpAnyN_take (i := 6) (oi := ?o6) (v := ?v6) ?hi6 (by kernel_rfl) (by kernel_rfl) (by kernel_rfl) (by kernel_rfl) (by decide) (by kernel_rfl) ?hQ6 ?hy6 (Below.drew (Below.refl _ _)) ?more6
  case hi6 => rw [List.getElem?_toArray]; exact rfl
  case hQ6 => exact fun _ _ _ h => h
  case hy6 =>
    refine Or.inl ⟨by rfl, ?_⟩
    intro w' hSw
    have hO := H2.out.1.call hSw
    obtain ⟨-, ⟨-, r1⟩, -, hS, -⟩ := hO
    obtain ⟨_, _, he, i0, -⟩ := hS 0 a rfl
    cases he
    obtain ⟨_, _, he, i1, -⟩ := hS 1 b rfl
    cases he
    rw [Nat.add_zero] at i0
    clear hSw hS
    go_simp
    try with_reducible rfl
  simp only [Act.put, List.setIfInBounds_toArray, List.set_cons_zero, List.set_cons_succ]
  refine wpAnyN_take (i := 7) (oi := ?o7) (v := ?v7) ?hi7 (by kernel_rfl) (by kernel_rfl) (by kernel_rfl) (by kernel_rfl) (by decide) (by kernel_rfl) ?hQ7 ?hy7 (Below.drew (Below.refl _ _)) ?more7
  case hi7 => rw [List.getElem?_toArray]; exact rfl
  case hQ7 => exact fun _ _ _ h => h
  case hy7 =>
    refine Or.inl ⟨by rfl, ?_⟩
    intro w' hSw
    have hO := H2.out.1.call hSw
    obtain ⟨-, ⟨-, r1⟩, -, hS, -⟩ := hO
    obtain ⟨_, _, he, i0, -⟩ := hS 0 a rfl
    cases he
    obtain ⟨_, _, he, i1, -⟩ := hS 1 b rfl
    cases he
    rw [Nat.add_zero] at i0
    clear hSw hS
    go_simp
    try with_reducible rfl
  simp only [Act.put, List.setIfInBounds_toArray, List.set_cons_zero, List.set_cons_succ]
  refine wpAnyN_take (i := 8) (oi := ?o8) (v := ?v8) ?hi8 (by kernel_rfl) (by kernel_rfl) (by kernel_rfl) (by kernel_rfl) (by decide) (by kernel_rfl) ?hQ8 ?hy8 (Below.drew (Below.refl _ _)) ?more8
  case hi8 => rw [List.getElem?_toArray]; exact rfl
  case hQ8 => exact fun _ _ _ h => h
  case hy8 =>
    refine Or.inl ⟨by rfl, ?_⟩
    intro w' hSw
    have hO := H2.out.1.call hSw
    obtain ⟨-, ⟨-, r1⟩, -, hS, -⟩ := hO
    obtain ⟨_, _, he, i0, -⟩ := hS 0 a rfl
    cases he
    obtain ⟨_, _, he, i1, -⟩ := hS 1 b rfl
    cases he
    rw [Nat.add_zero] at i0
    clear hSw hS
    go_simp
    try with_reducible rfl
  simp only [Act.put, List.setIfInBounds_toArray, List.set_cons_zero, List.set_cons_succ]
  refine wpAnyN_two (i := 4) (j := 11) (o := ?o4x1) (p := ?o11x1) (by kernel_rfl) ?hi4x1 ?hi11x1 ?hw4x1 ?hw11x1 ?st4x1 ?st11x1
  case hi4x1 => rw [List.getElem?_toArray]; exact rfl
  case hw4x1 => exact rfl
  case hi11x1 => rw [List.getElem?_toArray]; exact rfl
  case hw11x1 => exact rfl
  case st4x1 =>
    intro K hK
    have HK4y2 : Hid _ := hK
    clear hK
    go_simp
    refine (KA.out _).mono ?_
    rintro e w4y2 ⟨rfl, hq⟩
    have H4y2 : Hid (Below w2.heap.size w2 w4y2) := below_call0 (Below.drew (Below.refl _ _)) hq
    clear hq
    go_wp2_with fail
    refine HK4y2.out _ _ ⟨fun _ => H4y2.out, ?_⟩
    clear HK4y2 K
    try simp only [Act.put, List.setIfInBounds_toArray, List.set_cons_zero, List.set_cons_succ]
    refine wpAnyN_two (i := 9) (j := 11) (o := ?o9y2x3) (p := ?o11y2x3) (by kernel_rfl) ?hi9y2x3 ?hi11y2x3 ?hw9y2x3 ?hw11y2x3 ?st9y2x3 ?st11y2x3
    case hi9y2x3 => rw [List.getElem?_toArray]; exact rfl
    case hw9y2x3 => exact rfl
    case hi11y2x3 => rw [List.getElem?_toArray]; exact rfl
    case hw11y2x3 => exact rfl
    case st9y2x3 =>
      intro K hK
      have HK9y4 : Hid _ := hK
      clear hK
      go_simp
      refine (KB.out _).mono ?_
      rintro e w9y4 ⟨rfl, hq⟩
      have H9y4 : Hid (Below w2.heap.size w2 w9y4) := below_call0 H4y2.out hq
      clear hq
      go_wp2_with fail
      refine HK9y4.out _ _ ⟨fun _ => H9y4.out, ?_⟩
      clear HK9y4 K
      try simp only [Act.put, List.setIfInBounds_toArray, List.set_cons_zero, List.set_cons_succ]
      refine wpAnyN_takeF (i := 10) (oi := ?o10y4) (v := ?v10y4) ?hi10y4 (by kernel_rfl) (by kernel_rfl) (by kernel_rfl) (by decide) ?hQ10y4 ?hy10y4 H9y4.out ?more10y4
      case hi10y4 => rw [List.getElem?_toArray]; exact rfl
      case hQ10y4 => exact fun _ _ _ h => h
      case hy10y4 =>
        refine Or.inl ⟨by rfl, ?_⟩
        intro w' hSw
        clear hSw
        go_simp
        try with_reducible rfl
      simp only [Act.put, List.setIfInBounds_toArray, List.set_cons_zero, List.set_cons_succ]
      refine wpAnyN_one (i := 11) (o := ?o11y4) (by kernel_rfl) ?hi11y4 ?hw11y4 ?st11y4
      case hi11y4 => rw [List.getElem?_toArray]; exact rfl
      case hw11y4 => exact rfl
      intro K hK
      have HK11y4 : Hid _ := hK
      clear hK
      go_simp
      refine HK11y4.out _ _ ⟨fun _ => (below_alloc0 H9y4.out _), ?_⟩
      clear HK11y4 K
      try simp only [Act.put, List.setIfInBounds_toArray, List.set_cons_zero, List.set_cons_succ]
      refine wpAnyN_one (i := 12) (o := ?o12y4) (by kernel_rfl) ?hi12y4 ?hw12y4 ?st12y4
      case hi12y4 => rw [List.getElem?_toArray]; exact rfl
      case hw12y4 => exact rfl
      intro K hK
      have HK12y4 : Hid _ := hK
      clear hK
      obtain ⟨⟨o0, o1, o2⟩, ⟨y0, y1, y2⟩, oz⟩ := Zr.facts (Zr.new (q := 62) (W := w9y4) rfl)
      try simp only [World.size_alloc] at o0 o1 o2 y0 y1 y2 oz
      go_simp
      refine HK12y4.out _ _ ⟨fun h => absurd h (by decide +kernel), ?_⟩
      clear HK12y4 K
      try simp only [Act.put, List.setIfInBounds_toArray, List.set_cons_zero, List.set_cons_succ]
      refine wpAnyN_done (by kernel_rfl) ?_ _
      obtain ⟨wS, hwS⟩ : ∃ y, y = w9y4.alloc (.cells #[.int .i64 A, .int .i64 B, .string ⟨#[]⟩] 62) := ⟨_, rfl⟩
      obtain ⟨bk, hbk⟩ : ∃ y, y = w9y4.heap.size := ⟨_, rfl⟩
      have HT0 : Hid (Own3 wS bk A B ⟨#[]⟩ ∧ Below w2.heap.size w2 wS ∧ w2.heap.size ≤ bk) := by rw [hwS, hbk]; exact ⟨Own3.new rfl, below_alloc0 H9y4.out _, (Below.size H9y4.out)⟩
      rw [← hwS, ← hbk]
      clear hwS hbk o0 o1 o2 y0 y1 y2 oz
      have HT : Hid (Own3 wS bk A B ⟨#[]⟩ ∧ OpenAt w wS 1 G R ⟨pb, po, none⟩ 3 cap (a :: b :: [t]) ∧ bk ≠ G ∧ bk ≠ R) := ⟨HT0.out.1, H2.out.1.call HT0.out.2.1, fun c => absurd H2.out.1.1.2.2 (by rw [← c]; exact Nat.not_lt_of_le HT0.out.2.2), fun c => absurd H2.out.1.2.2.1 (by rw [← c]; exact Nat.not_lt_of_le HT0.out.2.2)⟩
      obtain ⟨⟨o0, o1, o2⟩, of, -⟩ := HT.out.1
      have of2 := of 2
      obtain ⟨⟨⟨g0, g1, g2⟩, gf, -⟩, ⟨r0, r1⟩, -, hS, -, -⟩ := HT.out.2.1
      have gf0 := gf 0
      have gf1 := gf 1
      have gf2 := gf 2
      have n1 : bk ≠ G := HT.out.2.2.1
      have n2 : bk ≠ R := HT.out.2.2.2
      have n3 : G ≠ bk := Ne.symm n1
      have n4 : R ≠ bk := Ne.symm n2
      obtain ⟨_, _, he, i2, hpb⟩ := hS 2 t rfl
      cases he
      clear hS of gf
      go_wp2_with fail
      obtain ⟨W, hW, e0, e1, e2, hBW⟩ := put3n (w := w) (w1 := (wS.setCell ⟨bk, 2, none⟩ (.string t))) (B := w.heap.size) (G := G) (.int .i64 0) (.int .i64 0) (.string ⟨#[]⟩) (Below.setCell HT.out.2.1.2.2.2.2.2 (Nat.le_trans H2.out.1.2.2.2.2.2.size HT0.out.2.2) _) (by rw [HT.out.2.1.2.2.2.2.1]; exact Nat.le_refl _) (by rw [cell_otherB n1]; exact g0) (by rw [cell_otherB n1]; exact g1) (by rw [cell_otherB n1]; exact g2)
      rw [← hW]
      refine bodyPost_ret (v := .tuple #[.agg #[.int .i64 0, .int .i64 0, .string ⟨#[]⟩], .bool false]) ?_ rfl ⟨rfl, hBW⟩
      simp [results, Try.results24, go_sem, e0, e1, e2]
    case st11y2x3 =>
      intro K hK
      have HK11y5 : Hid _ := hK
      clear hK
      go_simp
      refine HK11y5.out _ _ ⟨fun _ => (below_alloc0 H4y2.out _), ?_⟩
      clear HK11y5 K
      try simp only [Act.put, List.setIfInBounds_toArray, List.set_cons_zero, List.set_cons_succ]
      refine wpAnyN_one (i := 9) (o := ?o9y5) (by kernel_rfl) ?hi9y5 ?hw9y5 ?st9y5
      case hi9y5 => rw [List.getElem?_toArray]; exact rfl
      case hw9y5 => exact rfl
      intro K hK
      have HK9y5 : Hid _ := hK
      clear hK
      go_simp
      refine (KB.out _).mono ?_
      rintro e w9y5 ⟨rfl, hq⟩
      have H9y5 : Hid (Below w2.heap.size w2 w9y5) := below_call0 (below_alloc0 H4y2.out _) hq
      have P9y5 : Hid (Zr w9y5 (w4y2.heap.size) ) := Zr.call (Zr.new (q := 62) (W := w4y2) rfl) hq
      clear hq
      go_wp2_with fail
      refine HK9y5.out _ _ ⟨fun _ => H9y5.out, ?_⟩
      clear HK9y5 K
      try simp only [Act.put, List.setIfInBounds_toArray, List.set_cons_zero, List.set_cons_succ]
      refine wpAnyN_takeF (i := 10) (oi := ?o10y5) (v := ?v10y5) ?hi10y5 (by kernel_rfl) (by kernel_rfl) (by kernel_rfl) (by decide) ?hQ10y5 ?hy10y5 H9y5.out ?more10y5
      case hi10y5 => rw [List.getElem?_toArray]; exact rfl
      case hQ10y5 => exact fun _ _ _ h => h
      case hy10y5 =>
        refine Or.inl ⟨by rfl, ?_⟩
        intro w' hSw
        clear hSw
        go_simp
        try with_reducible rfl
      simp only [Act.put, List.setIfInBounds_toArray, List.set_cons_zero, List.set_cons_succ]
      refine wpAnyN_one (i := 12) (o := ?o12y5) (by kernel_rfl) ?hi12y5 ?hw12y5 ?st12y5
      case hi12y5 => rw [List.getElem?_toArray]; exact rfl
      case hw12y5 => exact rfl
      intro K hK
      have HK12y5 : Hid _ := hK
      clear hK
      obtain ⟨⟨o0, o1, o2⟩, ⟨y0, y1, y2⟩, oz⟩ := Zr.facts P9y5.out
      try simp only [World.size_alloc] at o0 o1 o2 y0 y1 y2 oz
      go_simp
      refine HK12y5.out _ _ ⟨fun h => absurd h (by decide +kernel), ?_⟩
      clear HK12y5 K
      try simp only [Act.put, List.setIfInBounds_toArray, List.set_cons_zero, List.set_cons_succ]
      refine wpAnyN_done (by kernel_rfl) ?_ _
      obtain ⟨wS, hwS⟩ : ∃ y, y = (((w9y5.setCell ⟨w4y2.heap.size, 0, none⟩ (.int .i64 A)).setCell ⟨w4y2.heap.size, 1, none⟩ (.int .i64 B)).setCell ⟨w4y2.heap.size, 2, none⟩ (.string ⟨#[]⟩)) := ⟨_, rfl⟩
      obtain ⟨bk, hbk⟩ : ∃ y, y = w4y2.heap.size := ⟨_, rfl⟩
      have HT0 : Hid (Own3 wS bk A B ⟨#[]⟩ ∧ Below w2.heap.size w2 wS ∧ w2.heap.size ≤ bk) := by rw [hwS, hbk]; exact ⟨Zr.own P9y5.out, Below.setCell (Below.setCell (Below.setCell H9y5.out (Below.size H4y2.out) _) (Below.size H4y2.out) _) (Below.size H4y2.out) _, (Below.size H4y2.out)⟩
      rw [← hwS, ← hbk]
      clear hwS hbk o0 o1 o2 y0 y1 y2 oz
      have HT : Hid (Own3 wS bk A B ⟨#[]⟩ ∧ OpenAt w wS 1 G R ⟨pb, po, none⟩ 3 cap (a :: b :: [t]) ∧ bk ≠ G ∧ bk ≠ R) := ⟨HT0.out.1, H2.out.1.call HT0.out.2.1, fun c => absurd H2.out.1.1.2.2 (by rw [← c]; exact Nat.not_lt_of_le HT0.out.2.2), fun c => absurd H2.out.1.2.2.1 (by rw [← c]; exact Nat.not_lt_of_le HT0.out.2.2)⟩
      obtain ⟨⟨o0, o1, o2⟩, of, -⟩ := HT.out.1
      have of2 := of 2
      obtain ⟨⟨⟨g0, g1, g2⟩, gf, -⟩, ⟨r0, r1⟩, -, hS, -, -⟩ := HT.out.2.1
      have gf0 := gf 0
      have gf1 := gf 1
      have gf2 := gf 2
      have n1 : bk ≠ G := HT.out.2.2.1
      have n2 : bk ≠ R := HT.out.2.2.2
      have n3 : G ≠ bk := Ne.symm n1
      have n4 : R ≠ bk := Ne.symm n2
      obtain ⟨_, _, he, i2, hpb⟩ := hS 2 t rfl
      cases he
      clear hS of gf
      go_wp2_with fail
      obtain ⟨W, hW, e0, e1, e2, hBW⟩ := put3n (w := w) (w1 := (wS.setCell ⟨bk, 2, none⟩ (.string t))) (B := w.heap.size) (G := G) (.int .i64 0) (.int .i64 0) (.string ⟨#[]⟩) (Below.setCell HT.out.2.1.2.2.2.2.2 (Nat.le_trans H2.out.1.2.2.2.2.2.size HT0.out.2.2) _) (by rw [HT.out.2.1.2.2.2.2.1]; exact Nat.le_refl _) (by rw [cell_otherB n1]; exact g0) (by rw [cell_otherB n1]; exact g1) (by rw [cell_otherB n1]; exact g2)
      rw [← hW]
      refine bodyPost_ret (v := .tuple #[.agg #[.int .i64 0, .int .i64 0, .string ⟨#[]⟩], .bool false]) ?_ rfl ⟨rfl, hBW⟩
      simp [results, Try.results24, go_sem, e0, e1, e2]
  case st11x1 =>
    intro K hK
    have HK11y6 : Hid _ := hK
    clear hK
    go_simp
    refine HK11y6.out _ _ ⟨fun _ => (below_alloc0 (Below.drew (Below.refl _ _)) _), ?_⟩
    clear HK11y6 K
    try simp only [Act.put, List.setIfInBounds_toArray, List.set_cons_zero, List.set_cons_succ]
    refine wpAnyN_one (i := 4) (o := ?o4y6) (by kernel_rfl) ?hi4y6 ?hw4y6 ?st4y6
    case hi4y6 => rw [List.getElem?_toArray]; exact rfl
    case hw4y6 => exact rfl
    intro K hK
    have HK4y6 : Hid _ := hK
    clear hK
    go_simp
    refine (KA.out _).mono ?_
    rintro e w4y6 ⟨rfl, hq⟩
    have H4y6 : Hid (Below w2.heap.size w2 w4y6) := below_call0 (below_alloc0 (Below.drew (Below.refl _ _)) _) hq
    have P4y6 : Hid (Zr w4y6 (w2.heap.size) ) := Zr.call (Zr.new (q := 62) (W := w2.drew) rfl) hq
    clear hq
    go_wp2_with fail
    refine HK4y6.out _ _ ⟨fun _ => H4y6.out, ?_⟩
    clear HK4y6 K
    try simp only [Act.put, List.setIfInBounds_toArray, List.set_cons_zero, List.set_cons_succ]
    refine wpAnyN_one (i := 9) (o := ?o9y6) (by kernel_rfl) ?hi9y6 ?hw9y6 ?st9y6
    case hi9y6 => rw [List.getElem?_toArray]; exact rfl
    case hw9y6 => exact rfl
    intro K hK
    have HK9y6 : Hid _ := hK
    clear hK
    go_simp
    refine (KB.out _).mono ?_
    rintro e w9y6 ⟨rfl, hq⟩
    have H9y6 : Hid (Below w2.heap.size w2 w9y6) := below_call0 H4y6.out hq
    have P9y6 : Hid (Zr w9y6 (w2.heap.size) ) := Zr.call P4y6.out hq
    clear hq
    go_wp2_with fail
    refine HK9y6.out _ _ ⟨fun _ => H9y6.out, ?_⟩
    clear HK9y6 K
    try simp only [Act.put, List.setIfInBounds_toArray, List.set_cons_zero, List.set_cons_succ]
    refine wpAnyN_takeF (i := 10) (oi := ?o10y6) (v := ?v10y6) ?hi10y6 (by kernel_rfl) (by kernel_rfl) (by kernel_rfl) (by decide) ?hQ10y6 ?hy10y6 H9y6.out ?more10y6
    case hi10y6 => rw [List.getElem?_toArray]; exact rfl
    case hQ10y6 => exact fun _ _ _ h => h
    case hy10y6 =>
      refine Or.inl ⟨by rfl, ?_⟩
      intro w' hSw
      clear hSw
      go_simp
      try with_reducible rfl
    simp only [Act.put, List.setIfInBounds_toArray, List.set_cons_zero, List.set_cons_succ]
    refine wpAnyN_one (i := 12) (o := ?o12y6) (by kernel_rfl) ?hi12y6 ?hw12y6 ?st12y6
    case hi12y6 => rw [List.getElem?_toArray]; exact rfl
    case hw12y6 => exact rfl
    intro K hK
    have HK12y6 : Hid _ := hK
    clear hK
    obtain ⟨⟨o0, o1, o2⟩, ⟨y0, y1, y2⟩, oz⟩ := Zr.facts P9y6.out
    try simp only [World.size_alloc] at o0 o1 o2 y0 y1 y2 oz
    go_simp
    refine HK12y6.out _ _ ⟨fun h => absurd h (by decide +kernel), ?_⟩
    clear HK12y6 K
    try simp only [Act.put, List.setIfInBounds_toArray, List.set_cons_zero, List.set_cons_succ]
    refine wpAnyN_done (by kernel_rfl) ?_ _
    obtain ⟨wS, hwS⟩ : ∃ y, y = (((w9y6.setCell ⟨w2.heap.size, 0, none⟩ (.int .i64 A)).setCell ⟨w2.heap.size, 1, none⟩ (.int .i64 B)).setCell ⟨w2.heap.size, 2, none⟩ (.string ⟨#[]⟩)) := ⟨_, rfl⟩
    obtain ⟨bk, hbk⟩ : ∃ y, y = w2.heap.size := ⟨_, rfl⟩
    have HT0 : Hid (Own3 wS bk A B ⟨#[]⟩ ∧ Below w2.heap.size w2 wS ∧ w2.heap.size ≤ bk) := by rw [hwS, hbk]; exact ⟨Zr.own P9y6.out, Below.setCell (Below.setCell (Below.setCell H9y6.out (Nat.le_refl _) _) (Nat.le_refl _) _) (Nat.le_refl _) _, (Nat.le_refl _)⟩
    rw [← hwS, ← hbk]
    clear hwS hbk o0 o1 o2 y0 y1 y2 oz
    have HT : Hid (Own3 wS bk A B ⟨#[]⟩ ∧ OpenAt w wS 1 G R ⟨pb, po, none⟩ 3 cap (a :: b :: [t]) ∧ bk ≠ G ∧ bk ≠ R) := ⟨HT0.out.1, H2.out.1.call HT0.out.2.1, fun c => absurd H2.out.1.1.2.2 (by rw [← c]; exact Nat.not_lt_of_le HT0.out.2.2), fun c => absurd H2.out.1.2.2.1 (by rw [← c]; exact Nat.not_lt_of_le HT0.out.2.2)⟩
    obtain ⟨⟨o0, o1, o2⟩, of, -⟩ := HT.out.1
    have of2 := of 2
    obtain ⟨⟨⟨g0, g1, g2⟩, gf, -⟩, ⟨r0, r1⟩, -, hS, -, -⟩ := HT.out.2.1
    have gf0 := gf 0
    have gf1 := gf 1
    have gf2 := gf 2
    have n1 : bk ≠ G := HT.out.2.2.1
    have n2 : bk ≠ R := HT.out.2.2.2
    have n3 : G ≠ bk := Ne.symm n1
    have n4 : R ≠ bk := Ne.symm n2
    obtain ⟨_, _, he, i2, hpb⟩ := hS 2 t rfl
    cases he
    clear hS of gf
    go_wp2_with fail
    obtain ⟨W, hW, e0, e1, e2, hBW⟩ := put3n (w := w) (w1 := (wS.setCell ⟨bk, 2, none⟩ (.string t))) (B := w.heap.size) (G := G) (.int .i64 0) (.int .i64 0) (.string ⟨#[]⟩) (Below.setCell HT.out.2.1.2.2.2.2.2 (Nat.le_trans H2.out.1.2.2.2.2.2.size HT0.out.2.2) _) (by rw [HT.out.2.1.2.2.2.2.1]; exact Nat.le_refl _) (by rw [cell_otherB n1]; exact g0) (by rw [cell_otherB n1]; exact g1) (by rw [cell_otherB n1]; exact g2)
    rw [← hW]
    refine bodyPost_ret (v := .tuple #[.agg #[.int .i64 0, .int .i64 0, .string ⟨#[]⟩], .bool false]) ?_ rfl ⟨rfl, hBW⟩
    simp [results, Try.results24, go_sem, e0, e1, e2]
set_option maxRecDepth 100000 in
set_option maxHeartbeats 4000000 in
theorem ropen1_c (a b : ByteArray) (t : ByteArray) (s : ByteArray) (A B : Int) (hA : numV a = A) (hB : numV b = B) (hs : s.size < 140737488351233) (h1 : upE s.data.toList = 0) (h2 : upK s.data.toList = 1) (h3 : upL s.data.toList = a :: b :: [t]) (c1 : ¬ (A < 1)) (c2 : ¬ (B < 0)) (c3 : B < 1) (w : World) :
    Calls Try.prog 24 #[.string s, .int .i64 1] w fun e w' => e = .returned (.tuple #[.agg #[.int .i64 0, .int .i64 0, .string ⟨#[]⟩], .bool false]) ∧ Below w.heap.size w w' := by
  have hz := upL_ok h1
  rw [h3] at hz
  have KA : Hid _ := fun w' : World => rnumber_any a (by have := hz a (by simp); omega) w'
  have KB : Hid _ := fun w' : World => rnumber_any b (by have := hz b (by simp); omega) w'
  rw [hA] at KA
  rw [hB] at KB
  have KU : Hid _ := fun w' : World => runpack_any s hs w'
  unfold rupPost at KU
  rw [h1, h2, h3] at KU
  have KU : Hid (∀ w' : World, Calls Try.prog 34 #[.string s] w' fun e w'' => ∃ p cap, e = .returned (.tuple #[.agg #[.int .i64 1, .slice p 3 cap], .int .i64 0]) ∧ Strs w'' p (a :: b :: [t]) ∧ Below w'.heap.size w' w'') := KU.out
  clear hz h1 h2 h3 hs hA hB
  go_enter Try.func24, Try.ntmps24
  go_wp2_with fail
  refine (KU.out _).mono ?_
  rintro e w1 ⟨p, cap, rfl, hS1, hb1⟩
  obtain ⟨pb, po, rfl, -, hpb⟩ := hS1 0 a rfl
  obtain ⟨G, hG⟩ : ∃ G, G = w.heap.size := ⟨_, rfl⟩
  have H1 : Hid (Own3 w1 G 0 0 ⟨#[]⟩ ∧ Strs w1 (some ⟨pb, po, none⟩) (a :: b :: [t]) ∧ Below w.heap.size w w1 ∧ G = w.heap.size) := by
    rw [hG]
    exact ⟨(Zr.new rfl).call hb1, hS1, below_call0 (below_alloc0 (Below.refl _ _) _) hb1, rfl⟩
  rw [← hG]
  clear hb1 hS1 KU hG hpb
  obtain ⟨⟨g0, g1, g2⟩, gf, gz⟩ := H1.out.1
  have gf0 := gf 0
  have gf1 := gf 1
  have gf2 := gf 2
  go_wp2_with fail
  obtain ⟨w2, hw2⟩ : ∃ y, y = w1.alloc (.cells #[.int .i64 1, .slice (some ⟨pb, po, none⟩) 3 cap] 83) := ⟨_, rfl⟩
  obtain ⟨R, hR⟩ : ∃ R, R = w1.heap.size := ⟨_, rfl⟩
  have H2 : Hid (OpenAt w w2 1 G R ⟨pb, po, none⟩ 3 cap (a :: b :: [t]) ∧ G ≠ R) := by
    rw [hw2, hR]
    have hb : Below w1.heap.size w1 (w1.alloc (.cells #[.int .i64 1, .slice (some ⟨pb, po, none⟩) 3 cap] 83)) := below_alloc0 (Below.refl _ _) _
    exact ⟨⟨H1.out.1.call hb, ⟨by simp [go_sem], by simp [go_sem]⟩, by simp, H1.out.2.1.call hb, H1.out.2.2.2, below_call0 H1.out.2.2.1 hb⟩, Nat.ne_of_lt H1.out.1.2.2⟩
  rw [← hw2, ← hR]
  clear hw2 hR g0 g1 g2 gf gf0 gf1 gf2 gz H1
  refine wp_region_N (fun w' => Below w2.heap.size w2 w') 12 13 rfl (by kernel_rfl) ?_
  refine wpAnyN_take (i := 0) (oi := ?o0) (v := ?v0) ?hi0 (by kernel_rfl) (by kernel_rfl) (by kernel_rfl) (by kernel_rfl) (by decide) (by kernel_rfl) ?hQ0 ?hy0 (Below.drew (Below.refl _ _)) ?more0
  case hi0 => rw [List.getElem?_toArray]; exact rfl
  case hQ0 => exact fun _ _ _ h => h
  case hy0 =>
    refine Or.inl ⟨by rfl, ?_⟩
    intro w' hSw
    have hO := H2.out.1.call hSw
    obtain ⟨-, ⟨-, r1⟩, -, hS, -⟩ := hO
    obtain ⟨_, _, he, i0, -⟩ := hS 0 a rfl
    cases he
    obtain ⟨_, _, he, i1, -⟩ := hS 1 b rfl
    cases he
    rw [Nat.add_zero] at i0
    clear hSw hS
    go_simp
    try with_reducible rfl
  simp only [Act.put, List.setIfInBounds_toArray, List.set_cons_zero, List.set_cons_succ]
  refine wpAnyN_take (i := 1) (oi := ?o1) (v := ?v1) ?hi1 (by kernel_rfl) (by kernel_rfl) (by kernel_rfl) (by kernel_rfl) (by decide) (by kernel_rfl) ?hQ1 ?hy1 (Below.drew (Below.refl _ _)) ?more1
  case hi1 => rw [List.getElem?_toArray]; exact rfl
  case hQ1 => exact fun _ _ _ h => h
  case hy1 =>
    refine Or.inl ⟨by rfl, ?_⟩
    intro w' hSw
    have hO := H2.out.1.call hSw
    obtain ⟨-, ⟨-, r1⟩, -, hS, -⟩ := hO
    obtain ⟨_, _, he, i0, -⟩ := hS 0 a rfl
    cases he
    obtain ⟨_, _, he, i1, -⟩ := hS 1 b rfl
    cases he
    rw [Nat.add_zero] at i0
    clear hSw hS
    go_simp
    try with_reducible rfl
  simp only [Act.put, List.setIfInBounds_toArray, List.set_cons_zero, List.set_cons_succ]
  refine wpAnyN_take (i := 2) (oi := ?o2) (v := ?v2) ?hi2 (by kernel_rfl) (by kernel_rfl) (by kernel_rfl) (by kernel_rfl) (by decide) (by kernel_rfl) ?hQ2 ?hy2 (Below.drew (Below.refl _ _)) ?more2
  case hi2 => rw [List.getElem?_toArray]; exact rfl
  case hQ2 => exact fun _ _ _ h => h
  case hy2 =>
    refine Or.inl ⟨by rfl, ?_⟩
    intro w' hSw
    have hO := H2.out.1.call hSw
    obtain ⟨-, ⟨-, r1⟩, -, hS, -⟩ := hO
    obtain ⟨_, _, he, i0, -⟩ := hS 0 a rfl
    cases he
    obtain ⟨_, _, he, i1, -⟩ := hS 1 b rfl
    cases he
    rw [Nat.add_zero] at i0
    clear hSw hS
    go_simp
    try with_reducible rfl
  simp only [Act.put, List.setIfInBounds_toArray, List.set_cons_zero, List.set_cons_succ]
  refine wpAnyN_take (i := 3) (oi := ?o3) (v := ?v3) ?hi3 (by kernel_rfl) (by kernel_rfl) (by kernel_rfl) (by kernel_rfl) (by decide) (by kernel_rfl) ?hQ3 ?hy3 (Below.drew (Below.refl _ _)) ?more3
  case hi3 => rw [List.getElem?_toArray]; exact rfl
  case hQ3 => exact fun _ _ _ h => h
  case hy3 =>
    refine Or.inl ⟨by rfl, ?_⟩
    intro w' hSw
    have hO := H2.out.1.call hSw
    obtain ⟨-, ⟨-, r1⟩, -, hS, -⟩ := hO
    obtain ⟨_, _, he, i0, -⟩ := hS 0 a rfl
    cases he
    obtain ⟨_, _, he, i1, -⟩ := hS 1 b rfl
    cases he
    rw [Nat.add_zero] at i0
    clear hSw hS
    go_simp
    try with_reducible rfl
  simp only [Act.put, List.setIfInBounds_toArray, List.set_cons_zero, List.set_cons_succ]
  refine wpAnyN_take (i := 5) (oi := ?o5) (v := ?v5) ?hi5 (by kernel_rfl) (by kernel_rfl) (by kernel_rfl) (by kernel_rfl) (by decide) (by kernel_rfl) ?hQ5 ?hy5 (Below.drew (Below.refl _ _)) ?more5
  case hi5 => rw [List.getElem?_toArray]; exact rfl
  case hQ5 => exact fun _ _ _ h => h
  case hy5 =>
    refine Or.inl ⟨by rfl, ?_⟩
    intro w' hSw
    have hO := H2.out.1.call hSw
    obtain ⟨-, ⟨-, r1⟩, -, hS, -⟩ := hO
    obtain ⟨_, _, he, i0, -⟩ := hS 0 a rfl
    cases he
    obtain ⟨_, _, he, i1, -⟩ := hS 1 b rfl
    cases he
    rw [Nat.add_zero] at i0
    clear hSw hS
    go_simp
    try with_reducible rfl
  simp only [Act.put, List.setIfInBounds_toArray, List.set_cons_zero, List.set_cons_succ]
  refine wpAnyN_take (i := 6) (oi := ?o6) (v := ?v6) ?hi6 (by kernel_rfl) (by kernel_rfl) (by kernel_rfl) (by kernel_rfl) (by decide) (by kernel_rfl) ?hQ6 ?hy6 (Below.drew (Below.refl _ _)) ?more6
  case hi6 => rw [List.getElem?_toArray]; exact rfl
  case hQ6 => exact fun _ _ _ h => h
  case hy6 =>
    refine Or.inl ⟨by rfl, ?_⟩
    intro w' hSw
    have hO := H2.out.1.call hSw
    obtain ⟨-, ⟨-, r1⟩, -, hS, -⟩ := hO
    obtain ⟨_, _, he, i0, -⟩ := hS 0 a rfl
    cases he
    obtain ⟨_, _, he, i1, -⟩ := hS 1 b rfl
    cases he
    rw [Nat.add_zero] at i0
    clear hSw hS
    go_simp
    try with_reducible rfl
  simp only [Act.put, List.setIfInBounds_toArray, List.set_cons_zero, List.set_cons_succ]
  refine wpAnyN_take (i := 7) (oi := ?o7) (v := ?v7) ?hi7 (by kernel_rfl) (by kernel_rfl) (by kernel_rfl) (by kernel_rfl) (by decide) (by kernel_rfl) ?hQ7 ?hy7 (Below.drew (Below.refl _ _)) ?more7
  case hi7 => rw [List.getElem?_toArray]; exact rfl
  case hQ7 => exact fun _ _ _ h => h
  case hy7 =>
    refine Or.inl ⟨by rfl, ?_⟩
    intro w' hSw
    have hO := H2.out.1.call hSw
    obtain ⟨-, ⟨-, r1⟩, -, hS, -⟩ := hO
    obtain ⟨_, _, he, i0, -⟩ := hS 0 a rfl
    cases he
    obtain ⟨_, _, he, i1, -⟩ := hS 1 b rfl
    cases he
    rw [Nat.add_zero] at i0
    clear hSw hS
    go_simp
    try with_reducible rfl
  simp only [Act.put, List.setIfInBounds_toArray, List.set_cons_zero, List.set_cons_succ]
  refine wpAnyN_take (i := 8) (oi := ?o8) (v := ?v8) ?hi8 (by kernel_rfl) (by kernel_rfl) (by kernel_rfl) (by kernel_rfl) (by decide) (by kernel_rfl) ?hQ8 ?hy8 (Below.drew (Below.refl _ _)) ?more8
  case hi8 => rw [List.getElem?_toArray]; exact rfl
  case hQ8 => exact fun _ _ _ h => h
  case hy8 =>
    refine Or.inl ⟨by rfl, ?_⟩
    intro w' hSw
    have hO := H2.out.1.call hSw
    obtain ⟨-, ⟨-, r1⟩, -, hS, -⟩ := hO
    obtain ⟨_, _, he, i0, -⟩ := hS 0 a rfl
    cases he
    obtain ⟨_, _, he, i1, -⟩ := hS 1 b rfl
    cases he
    rw [Nat.add_zero] at i0
    clear hSw hS
    go_simp
    try with_reducible rfl
  simp only [Act.put, List.setIfInBounds_toArray, List.set_cons_zero, List.set_cons_succ]
  refine wpAnyN_two (i := 4) (j := 11) (o := ?o4x1) (p := ?o11x1) (by kernel_rfl) ?hi4x1 ?hi11x1 ?hw4x1 ?hw11x1 ?st4x1 ?st11x1
  case hi4x1 => rw [List.getElem?_toArray]; exact rfl
  case hw4x1 => exact rfl
  case hi11x1 => rw [List.getElem?_toArray]; exact rfl
  case hw11x1 => exact rfl
  case st4x1 =>
    intro K hK
    have HK4y2 : Hid _ := hK
    clear hK
    go_simp
    refine (KA.out _).mono ?_
    rintro e w4y2 ⟨rfl, hq⟩
    have H4y2 : Hid (Below w2.heap.size w2 w4y2) := below_call0 (Below.drew (Below.refl _ _)) hq
    clear hq
    go_wp2_with fail
    refine HK4y2.out _ _ ⟨fun _ => H4y2.out, ?_⟩
    clear HK4y2 K
    try simp only [Act.put, List.setIfInBounds_toArray, List.set_cons_zero, List.set_cons_succ]
    refine wpAnyN_two (i := 9) (j := 11) (o := ?o9y2x3) (p := ?o11y2x3) (by kernel_rfl) ?hi9y2x3 ?hi11y2x3 ?hw9y2x3 ?hw11y2x3 ?st9y2x3 ?st11y2x3
    case hi9y2x3 => rw [List.getElem?_toArray]; exact rfl
    case hw9y2x3 => exact rfl
    case hi11y2x3 => rw [List.getElem?_toArray]; exact rfl
    case hw11y2x3 => exact rfl
    case st9y2x3 =>
      intro K hK
      have HK9y4 : Hid _ := hK
      clear hK
      go_simp
      refine (KB.out _).mono ?_
      rintro e w9y4 ⟨rfl, hq⟩
      have H9y4 : Hid (Below w2.heap.size w2 w9y4) := below_call0 H4y2.out hq
      clear hq
      go_wp2_with fail
      refine HK9y4.out _ _ ⟨fun _ => H9y4.out, ?_⟩
      clear HK9y4 K
      try simp only [Act.put, List.setIfInBounds_toArray, List.set_cons_zero, List.set_cons_succ]
      refine wpAnyN_takeF (i := 10) (oi := ?o10y4) (v := ?v10y4) ?hi10y4 (by kernel_rfl) (by kernel_rfl) (by kernel_rfl) (by decide) ?hQ10y4 ?hy10y4 H9y4.out ?more10y4
      case hi10y4 => rw [List.getElem?_toArray]; exact rfl
      case hQ10y4 => exact fun _ _ _ h => h
      case hy10y4 =>
        refine Or.inl ⟨by rfl, ?_⟩
        intro w' hSw
        clear hSw
        go_simp
        try with_reducible rfl
      simp only [Act.put, List.setIfInBounds_toArray, List.set_cons_zero, List.set_cons_succ]
      refine wpAnyN_one (i := 11) (o := ?o11y4) (by kernel_rfl) ?hi11y4 ?hw11y4 ?st11y4
      case hi11y4 => rw [List.getElem?_toArray]; exact rfl
      case hw11y4 => exact rfl
      intro K hK
      have HK11y4 : Hid _ := hK
      clear hK
      go_simp
      refine HK11y4.out _ _ ⟨fun _ => (below_alloc0 H9y4.out _), ?_⟩
      clear HK11y4 K
      try simp only [Act.put, List.setIfInBounds_toArray, List.set_cons_zero, List.set_cons_succ]
      refine wpAnyN_one (i := 12) (o := ?o12y4) (by kernel_rfl) ?hi12y4 ?hw12y4 ?st12y4
      case hi12y4 => rw [List.getElem?_toArray]; exact rfl
      case hw12y4 => exact rfl
      intro K hK
      have HK12y4 : Hid _ := hK
      clear hK
      obtain ⟨⟨o0, o1, o2⟩, ⟨y0, y1, y2⟩, oz⟩ := Zr.facts (Zr.new (q := 62) (W := w9y4) rfl)
      try simp only [World.size_alloc] at o0 o1 o2 y0 y1 y2 oz
      go_simp
      refine HK12y4.out _ _ ⟨fun h => absurd h (by decide +kernel), ?_⟩
      clear HK12y4 K
      try simp only [Act.put, List.setIfInBounds_toArray, List.set_cons_zero, List.set_cons_succ]
      refine wpAnyN_done (by kernel_rfl) ?_ _
      obtain ⟨wS, hwS⟩ : ∃ y, y = w9y4.alloc (.cells #[.int .i64 A, .int .i64 B, .string ⟨#[]⟩] 62) := ⟨_, rfl⟩
      obtain ⟨bk, hbk⟩ : ∃ y, y = w9y4.heap.size := ⟨_, rfl⟩
      have HT0 : Hid (Own3 wS bk A B ⟨#[]⟩ ∧ Below w2.heap.size w2 wS ∧ w2.heap.size ≤ bk) := by rw [hwS, hbk]; exact ⟨Own3.new rfl, below_alloc0 H9y4.out _, (Below.size H9y4.out)⟩
      rw [← hwS, ← hbk]
      clear hwS hbk o0 o1 o2 y0 y1 y2 oz
      have HT : Hid (Own3 wS bk A B ⟨#[]⟩ ∧ OpenAt w wS 1 G R ⟨pb, po, none⟩ 3 cap (a :: b :: [t]) ∧ bk ≠ G ∧ bk ≠ R) := ⟨HT0.out.1, H2.out.1.call HT0.out.2.1, fun c => absurd H2.out.1.1.2.2 (by rw [← c]; exact Nat.not_lt_of_le HT0.out.2.2), fun c => absurd H2.out.1.2.2.1 (by rw [← c]; exact Nat.not_lt_of_le HT0.out.2.2)⟩
      obtain ⟨⟨o0, o1, o2⟩, of, -⟩ := HT.out.1
      have of2 := of 2
      obtain ⟨⟨⟨g0, g1, g2⟩, gf, -⟩, ⟨r0, r1⟩, -, hS, -, -⟩ := HT.out.2.1
      have gf0 := gf 0
      have gf1 := gf 1
      have gf2 := gf 2
      have n1 : bk ≠ G := HT.out.2.2.1
      have n2 : bk ≠ R := HT.out.2.2.2
      have n3 : G ≠ bk := Ne.symm n1
      have n4 : R ≠ bk := Ne.symm n2
      obtain ⟨_, _, he, i2, hpb⟩ := hS 2 t rfl
      cases he
      clear hS of gf
      go_wp2_with fail
      obtain ⟨W, hW, e0, e1, e2, hBW⟩ := put3n (w := w) (w1 := (wS.setCell ⟨bk, 2, none⟩ (.string t))) (B := w.heap.size) (G := G) (.int .i64 0) (.int .i64 0) (.string ⟨#[]⟩) (Below.setCell HT.out.2.1.2.2.2.2.2 (Nat.le_trans H2.out.1.2.2.2.2.2.size HT0.out.2.2) _) (by rw [HT.out.2.1.2.2.2.2.1]; exact Nat.le_refl _) (by rw [cell_otherB n1]; exact g0) (by rw [cell_otherB n1]; exact g1) (by rw [cell_otherB n1]; exact g2)
      rw [← hW]
      refine bodyPost_ret (v := .tuple #[.agg #[.int .i64 0, .int .i64 0, .string ⟨#[]⟩], .bool false]) ?_ rfl ⟨rfl, hBW⟩
      simp [results, Try.results24, go_sem, e0, e1, e2]
    case st11y2x3 =>
      intro K hK
      have HK11y5 : Hid _ := hK
      clear hK
      go_simp
      refine HK11y5.out _ _ ⟨fun _ => (below_alloc0 H4y2.out _), ?_⟩
      clear HK11y5 K
      try simp only [Act.put, List.setIfInBounds_toArray, List.set_cons_zero, List.set_cons_succ]
      refine wpAnyN_one (i := 9) (o := ?o9y5) (by kernel_rfl) ?hi9y5 ?hw9y5 ?st9y5
      case hi9y5 => rw [List.getElem?_toArray]; exact rfl
      case hw9y5 => exact rfl
      intro K hK
      have HK9y5 : Hid _ := hK
      clear hK
      go_simp
      refine (KB.out _).mono ?_
      rintro e w9y5 ⟨rfl, hq⟩
      have H9y5 : Hid (Below w2.heap.size w2 w9y5) := below_call0 (below_alloc0 H4y2.out _) hq
      have P9y5 : Hid (Zr w9y5 (w4y2.heap.size) ) := Zr.call (Zr.new (q := 62) (W := w4y2) rfl) hq
      clear hq
      go_wp2_with fail
      refine HK9y5.out _ _ ⟨fun _ => H9y5.out, ?_⟩
      clear HK9y5 K
      try simp only [Act.put, List.setIfInBounds_toArray, List.set_cons_zero, List.set_cons_succ]
      refine wpAnyN_takeF (i := 10) (oi := ?o10y5) (v := ?v10y5) ?hi10y5 (by kernel_rfl) (by kernel_rfl) (by kernel_rfl) (by decide) ?hQ10y5 ?hy10y5 H9y5.out ?more10y5
      case hi10y5 => rw [List.getElem?_toArray]; exact rfl
      case hQ10y5 => exact fun _ _ _ h => h
      case hy10y5 =>
        refine Or.inl ⟨by rfl, ?_⟩
        intro w' hSw
        clear hSw
        go_simp
        try with_reducible rfl
      simp only [Act.put, List.setIfInBounds_toArray, List.set_cons_zero, List.set_cons_succ]
      refine wpAnyN_one (i := 12) (o := ?o12y5) (by kernel_rfl) ?hi12y5 ?hw12y5 ?st12y5
      case hi12y5 => rw [List.getElem?_toArray]; exact rfl
      case hw12y5 => exact rfl
      intro K hK
      have HK12y5 : Hid _ := hK
      clear hK
      obtain ⟨⟨o0, o1, o2⟩, ⟨y0, y1, y2⟩, oz⟩ := Zr.facts P9y5.out
      try simp only [World.size_alloc] at o0 o1 o2 y0 y1 y2 oz
      go_simp
      refine HK12y5.out _ _ ⟨fun h => absurd h (by decide +kernel), ?_⟩
      clear HK12y5 K
      try simp only [Act.put, List.setIfInBounds_toArray, List.set_cons_zero, List.set_cons_succ]
      refine wpAnyN_done (by kernel_rfl) ?_ _
      obtain ⟨wS, hwS⟩ : ∃ y, y = (((w9y5.setCell ⟨w4y2.heap.size, 0, none⟩ (.int .i64 A)).setCell ⟨w4y2.heap.size, 1, none⟩ (.int .i64 B)).setCell ⟨w4y2.heap.size, 2, none⟩ (.string ⟨#[]⟩)) := ⟨_, rfl⟩
      obtain ⟨bk, hbk⟩ : ∃ y, y = w4y2.heap.size := ⟨_, rfl⟩
      have HT0 : Hid (Own3 wS bk A B ⟨#[]⟩ ∧ Below w2.heap.size w2 wS ∧ w2.heap.size ≤ bk) := by rw [hwS, hbk]; exact ⟨Zr.own P9y5.out, Below.setCell (Below.setCell (Below.setCell H9y5.out (Below.size H4y2.out) _) (Below.size H4y2.out) _) (Below.size H4y2.out) _, (Below.size H4y2.out)⟩
      rw [← hwS, ← hbk]
      clear hwS hbk o0 o1 o2 y0 y1 y2 oz
      have HT : Hid (Own3 wS bk A B ⟨#[]⟩ ∧ OpenAt w wS 1 G R ⟨pb, po, none⟩ 3 cap (a :: b :: [t]) ∧ bk ≠ G ∧ bk ≠ R) := ⟨HT0.out.1, H2.out.1.call HT0.out.2.1, fun c => absurd H2.out.1.1.2.2 (by rw [← c]; exact Nat.not_lt_of_le HT0.out.2.2), fun c => absurd H2.out.1.2.2.1 (by rw [← c]; exact Nat.not_lt_of_le HT0.out.2.2)⟩
      obtain ⟨⟨o0, o1, o2⟩, of, -⟩ := HT.out.1
      have of2 := of 2
      obtain ⟨⟨⟨g0, g1, g2⟩, gf, -⟩, ⟨r0, r1⟩, -, hS, -, -⟩ := HT.out.2.1
      have gf0 := gf 0
      have gf1 := gf 1
      have gf2 := gf 2
      have n1 : bk ≠ G := HT.out.2.2.1
      have n2 : bk ≠ R := HT.out.2.2.2
      have n3 : G ≠ bk := Ne.symm n1
      have n4 : R ≠ bk := Ne.symm n2
      obtain ⟨_, _, he, i2, hpb⟩ := hS 2 t rfl
      cases he
      clear hS of gf
      go_wp2_with fail
      obtain ⟨W, hW, e0, e1, e2, hBW⟩ := put3n (w := w) (w1 := (wS.setCell ⟨bk, 2, none⟩ (.string t))) (B := w.heap.size) (G := G) (.int .i64 0) (.int .i64 0) (.string ⟨#[]⟩) (Below.setCell HT.out.2.1.2.2.2.2.2 (Nat.le_trans H2.out.1.2.2.2.2.2.size HT0.out.2.2) _) (by rw [HT.out.2.1.2.2.2.2.1]; exact Nat.le_refl _) (by rw [cell_otherB n1]; exact g0) (by rw [cell_otherB n1]; exact g1) (by rw [cell_otherB n1]; exact g2)
      rw [← hW]
      refine bodyPost_ret (v := .tuple #[.agg #[.int .i64 0, .int .i64 0, .string ⟨#[]⟩], .bool false]) ?_ rfl ⟨rfl, hBW⟩
      simp [results, Try.results24, go_sem, e0, e1, e2]
  case st11x1 =>
    intro K hK
    have HK11y6 : Hid _ := hK
    clear hK
    go_simp
    refine HK11y6.out _ _ ⟨fun _ => (below_alloc0 (Below.drew (Below.refl _ _)) _), ?_⟩
    clear HK11y6 K
    try simp only [Act.put, List.setIfInBounds_toArray, List.set_cons_zero, List.set_cons_succ]
    refine wpAnyN_one (i := 4) (o := ?o4y6) (by kernel_rfl) ?hi4y6 ?hw4y6 ?st4y6
    case hi4y6 => rw [List.getElem?_toArray]; exact rfl
    case hw4y6 => exact rfl
    intro K hK
    have HK4y6 : Hid _ := hK
    clear hK
    go_simp
    refine (KA.out _).mono ?_
    rintro e w4y6 ⟨rfl, hq⟩
    have H4y6 : Hid (Below w2.heap.size w2 w4y6) := below_call0 (below_alloc0 (Below.drew (Below.refl _ _)) _) hq
    have P4y6 : Hid (Zr w4y6 (w2.heap.size) ) := Zr.call (Zr.new (q := 62) (W := w2.drew) rfl) hq
    clear hq
    go_wp2_with fail
    refine HK4y6.out _ _ ⟨fun _ => H4y6.out, ?_⟩
    clear HK4y6 K
    try simp only [Act.put, List.setIfInBounds_toArray, List.set_cons_zero, List.set_cons_succ]
    refine wpAnyN_one (i := 9) (o := ?o9y6) (by kernel_rfl) ?hi9y6 ?hw9y6 ?st9y6
    case hi9y6 => rw [List.getElem?_toArray]; exact rfl
    case hw9y6 => exact rfl
    intro K hK
    have HK9y6 : Hid _ := hK
    clear hK
    go_simp
    refine (KB.out _).mono ?_
    rintro e w9y6 ⟨rfl, hq⟩
    have H9y6 : Hid (Below w2.heap.size w2 w9y6) := below_call0 H4y6.out hq
    have P9y6 : Hid (Zr w9y6 (w2.heap.size) ) := Zr.call P4y6.out hq
    clear hq
    go_wp2_with fail
    refine HK9y6.out _ _ ⟨fun _ => H9y6.out, ?_⟩
    clear HK9y6 K
    try simp only [Act.put, List.setIfInBounds_toArray, List.set_cons_zero, List.set_cons_succ]
    refine wpAnyN_takeF (i := 10) (oi := ?o10y6) (v := ?v10y6) ?hi10y6 (by kernel_rfl) (by kernel_rfl) (by kernel_rfl) (by decide) ?hQ10y6 ?hy10y6 H9y6.out ?more10y6
    case hi10y6 => rw [List.getElem?_toArray]; exact rfl
    case hQ10y6 => exact fun _ _ _ h => h
    case hy10y6 =>
      refine Or.inl ⟨by rfl, ?_⟩
      intro w' hSw
      clear hSw
      go_simp
      try with_reducible rfl
    simp only [Act.put, List.setIfInBounds_toArray, List.set_cons_zero, List.set_cons_succ]
    refine wpAnyN_one (i := 12) (o := ?o12y6) (by kernel_rfl) ?hi12y6 ?hw12y6 ?st12y6
    case hi12y6 => rw [List.getElem?_toArray]; exact rfl
    case hw12y6 => exact rfl
    intro K hK
    have HK12y6 : Hid _ := hK
    clear hK
    obtain ⟨⟨o0, o1, o2⟩, ⟨y0, y1, y2⟩, oz⟩ := Zr.facts P9y6.out
    try simp only [World.size_alloc] at o0 o1 o2 y0 y1 y2 oz
    go_simp
    refine HK12y6.out _ _ ⟨fun h => absurd h (by decide +kernel), ?_⟩
    clear HK12y6 K
    try simp only [Act.put, List.setIfInBounds_toArray, List.set_cons_zero, List.set_cons_succ]
    refine wpAnyN_done (by kernel_rfl) ?_ _
    obtain ⟨wS, hwS⟩ : ∃ y, y = (((w9y6.setCell ⟨w2.heap.size, 0, none⟩ (.int .i64 A)).setCell ⟨w2.heap.size, 1, none⟩ (.int .i64 B)).setCell ⟨w2.heap.size, 2, none⟩ (.string ⟨#[]⟩)) := ⟨_, rfl⟩
    obtain ⟨bk, hbk⟩ : ∃ y, y = w2.heap.size := ⟨_, rfl⟩
    have HT0 : Hid (Own3 wS bk A B ⟨#[]⟩ ∧ Below w2.heap.size w2 wS ∧ w2.heap.size ≤ bk) := by rw [hwS, hbk]; exact ⟨Zr.own P9y6.out, Below.setCell (Below.setCell (Below.setCell H9y6.out (Nat.le_refl _) _) (Nat.le_refl _) _) (Nat.le_refl _) _, (Nat.le_refl _)⟩
    rw [← hwS, ← hbk]
    clear hwS hbk o0 o1 o2 y0 y1 y2 oz
    have HT : Hid (Own3 wS bk A B ⟨#[]⟩ ∧ OpenAt w wS 1 G R ⟨pb, po, none⟩ 3 cap (a :: b :: [t]) ∧ bk ≠ G ∧ bk ≠ R) := ⟨HT0.out.1, H2.out.1.call HT0.out.2.1, fun c => absurd H2.out.1.1.2.2 (by rw [← c]; exact Nat.not_lt_of_le HT0.out.2.2), fun c => absurd H2.out.1.2.2.1 (by rw [← c]; exact Nat.not_lt_of_le HT0.out.2.2)⟩
    obtain ⟨⟨o0, o1, o2⟩, of, -⟩ := HT.out.1
    have of2 := of 2
    obtain ⟨⟨⟨g0, g1, g2⟩, gf, -⟩, ⟨r0, r1⟩, -, hS, -, -⟩ := HT.out.2.1
    have gf0 := gf 0
    have gf1 := gf 1
    have gf2 := gf 2
    have n1 : bk ≠ G := HT.out.2.2.1
    have n2 : bk ≠ R := HT.out.2.2.2
    have n3 : G ≠ bk := Ne.symm n1
    have n4 : R ≠ bk := Ne.symm n2
    obtain ⟨_, _, he, i2, hpb⟩ := hS 2 t rfl
    cases he
    clear hS of gf
    go_wp2_with fail
    obtain ⟨W, hW, e0, e1, e2, hBW⟩ := put3n (w := w) (w1 := (wS.setCell ⟨bk, 2, none⟩ (.string t))) (B := w.heap.size) (G := G) (.int .i64 0) (.int .i64 0) (.string ⟨#[]⟩) (Below.setCell HT.out.2.1.2.2.2.2.2 (Nat.le_trans H2.out.1.2.2.2.2.2.size HT0.out.2.2) _) (by rw [HT.out.2.1.2.2.2.2.1]; exact Nat.le_refl _) (by rw [cell_otherB n1]; exact g0) (by rw [cell_otherB n1]; exact g1) (by rw [cell_otherB n1]; exact g2)
    rw [← hW]
    refine bodyPost_ret (v := .tuple #[.agg #[.int .i64 0, .int .i64 0, .string ⟨#[]⟩], .bool false]) ?_ rfl ⟨rfl, hBW⟩
    simp [results, Try.results24, go_sem, e0, e1, e2]
set_option maxRecDepth 100000 in
set_option maxHeartbeats 4000000 in
theorem ropen1_d (a b : ByteArray) (t : ByteArray) (s : ByteArray) (A B : Int) (hA : numV a = A) (hB : numV b = B) (hs : s.size < 140737488351233) (h1 : upE s.data.toList = 0) (h2 : upK s.data.toList = 1) (h3 : upL s.data.toList = a :: b :: [t]) (c1 : ¬ (A < 1)) (c2 : ¬ (B < 0)) (c3 : ¬ (B < 1)) (c4 : (7900 : Int) < (t.size : Int)) (w : World) :
    Calls Try.prog 24 #[.string s, .int .i64 1] w fun e w' => e = .returned (.tuple #[.agg #[.int .i64 0, .int .i64 0, .string ⟨#[]⟩], .bool false]) ∧ Below w.heap.size w w' := by
  have hz := upL_ok h1
  rw [h3] at hz
  have KA : Hid _ := fun w' : World => rnumber_any a (by have := hz a (by simp); omega) w'
  have KB : Hid _ := fun w' : World => rnumber_any b (by have := hz b (by simp); omega) w'
  rw [hA] at KA
  rw [hB] at KB
  have KU : Hid _ := fun w' : World => runpack_any s hs w'
  unfold rupPost at KU
  rw [h1, h2, h3] at KU
  have KU : Hid (∀ w' : World, Calls Try.prog 34 #[.string s] w' fun e w'' => ∃ p cap, e = .returned (.tuple #[.agg #[.int .i64 1, .slice p 3 cap], .int .i64 0]) ∧ Strs w'' p (a :: b :: [t]) ∧ Below w'.heap.size w' w'') := KU.out
  clear hz h1 h2 h3 hs hA hB
  go_enter Try.func24, Try.ntmps24
  go_wp2_with fail
  refine (KU.out _).mono ?_
  rintro e w1 ⟨p, cap, rfl, hS1, hb1⟩
  obtain ⟨pb, po, rfl, -, hpb⟩ := hS1 0 a rfl
  obtain ⟨G, hG⟩ : ∃ G, G = w.heap.size := ⟨_, rfl⟩
  have H1 : Hid (Own3 w1 G 0 0 ⟨#[]⟩ ∧ Strs w1 (some ⟨pb, po, none⟩) (a :: b :: [t]) ∧ Below w.heap.size w w1 ∧ G = w.heap.size) := by
    rw [hG]
    exact ⟨(Zr.new rfl).call hb1, hS1, below_call0 (below_alloc0 (Below.refl _ _) _) hb1, rfl⟩
  rw [← hG]
  clear hb1 hS1 KU hG hpb
  obtain ⟨⟨g0, g1, g2⟩, gf, gz⟩ := H1.out.1
  have gf0 := gf 0
  have gf1 := gf 1
  have gf2 := gf 2
  go_wp2_with fail
  obtain ⟨w2, hw2⟩ : ∃ y, y = w1.alloc (.cells #[.int .i64 1, .slice (some ⟨pb, po, none⟩) 3 cap] 83) := ⟨_, rfl⟩
  obtain ⟨R, hR⟩ : ∃ R, R = w1.heap.size := ⟨_, rfl⟩
  have H2 : Hid (OpenAt w w2 1 G R ⟨pb, po, none⟩ 3 cap (a :: b :: [t]) ∧ G ≠ R) := by
    rw [hw2, hR]
    have hb : Below w1.heap.size w1 (w1.alloc (.cells #[.int .i64 1, .slice (some ⟨pb, po, none⟩) 3 cap] 83)) := below_alloc0 (Below.refl _ _) _
    exact ⟨⟨H1.out.1.call hb, ⟨by simp [go_sem], by simp [go_sem]⟩, by simp, H1.out.2.1.call hb, H1.out.2.2.2, below_call0 H1.out.2.2.1 hb⟩, Nat.ne_of_lt H1.out.1.2.2⟩
  rw [← hw2, ← hR]
  clear hw2 hR g0 g1 g2 gf gf0 gf1 gf2 gz H1
  refine wp_region_N (fun w' => Below w2.heap.size w2 w') 12 13 rfl (by kernel_rfl) ?_
  refine wpAnyN_take (i := 0) (oi := ?o0) (v := ?v0) ?hi0 (by kernel_rfl) (by kernel_rfl) (by kernel_rfl) (by kernel_rfl) (by decide) (by kernel_rfl) ?hQ0 ?hy0 (Below.drew (Below.refl _ _)) ?more0
  case hi0 => rw [List.getElem?_toArray]; exact rfl
  case hQ0 => exact fun _ _ _ h => h
  case hy0 =>
    refine Or.inl ⟨by rfl, ?_⟩
    intro w' hSw
    have hO := H2.out.1.call hSw
    obtain ⟨-, ⟨-, r1⟩, -, hS, -⟩ := hO
    obtain ⟨_, _, he, i0, -⟩ := hS 0 a rfl
    cases he
    obtain ⟨_, _, he, i1, -⟩ := hS 1 b rfl
    cases he
    rw [Nat.add_zero] at i0
    clear hSw hS
    go_simp
    try with_reducible rfl
  simp only [Act.put, List.setIfInBounds_toArray, List.set_cons_zero, List.set_cons_succ]
  refine wpAnyN_take (i := 1) (oi := ?o1) (v := ?v1) ?hi1 (by kernel_rfl) (by kernel_rfl) (by kernel_rfl) (by kernel_rfl) (by decide) (by kernel_rfl) ?hQ1 ?hy1 (Below.drew (Below.refl _ _)) ?more1
  case hi1 => rw [List.getElem?_toArray]; exact rfl
  case hQ1 => exact fun _ _ _ h => h
  case hy1 =>
    refine Or.inl ⟨by rfl, ?_⟩
    intro w' hSw
    have hO := H2.out.1.call hSw
    obtain ⟨-, ⟨-, r1⟩, -, hS, -⟩ := hO
    obtain ⟨_, _, he, i0, -⟩ := hS 0 a rfl
    cases he
    obtain ⟨_, _, he, i1, -⟩ := hS 1 b rfl
    cases he
    rw [Nat.add_zero] at i0
    clear hSw hS
    go_simp
    try with_reducible rfl
  simp only [Act.put, List.setIfInBounds_toArray, List.set_cons_zero, List.set_cons_succ]
  refine wpAnyN_take (i := 2) (oi := ?o2) (v := ?v2) ?hi2 (by kernel_rfl) (by kernel_rfl) (by kernel_rfl) (by kernel_rfl) (by decide) (by kernel_rfl) ?hQ2 ?hy2 (Below.drew (Below.refl _ _)) ?more2
  case hi2 => rw [List.getElem?_toArray]; exact rfl
  case hQ2 => exact fun _ _ _ h => h
  case hy2 =>
    refine Or.inl ⟨by rfl, ?_⟩
    intro w' hSw
    have hO := H2.out.1.call hSw
    obtain ⟨-, ⟨-, r1⟩, -, hS, -⟩ := hO
    obtain ⟨_, _, he, i0, -⟩ := hS 0 a rfl
    cases he
    obtain ⟨_, _, he, i1, -⟩ := hS 1 b rfl
    cases he
    rw [Nat.add_zero] at i0
    clear hSw hS
    go_simp
    try with_reducible rfl
  simp only [Act.put, List.setIfInBounds_toArray, List.set_cons_zero, List.set_cons_succ]
  refine wpAnyN_take (i := 3) (oi := ?o3) (v := ?v3) ?hi3 (by kernel_rfl) (by kernel_rfl) (by kernel_rfl) (by kernel_rfl) (by decide) (by kernel_rfl) ?hQ3 ?hy3 (Below.drew (Below.refl _ _)) ?more3
  case hi3 => rw [List.getElem?_toArray]; exact rfl
  case hQ3 => exact fun _ _ _ h => h
  case hy3 =>
    refine Or.inl ⟨by rfl, ?_⟩
    intro w' hSw
    have hO := H2.out.1.call hSw
    obtain ⟨-, ⟨-, r1⟩, -, hS, -⟩ := hO
    obtain ⟨_, _, he, i0, -⟩ := hS 0 a rfl
    cases he
    obtain ⟨_, _, he, i1, -⟩ := hS 1 b rfl
    cases he
    rw [Nat.add_zero] at i0
    clear hSw hS
    go_simp
    try with_reducible rfl
  simp only [Act.put, List.setIfInBounds_toArray, List.set_cons_zero, List.set_cons_succ]
  refine wpAnyN_take (i := 5) (oi := ?o5) (v := ?v5) ?hi5 (by kernel_rfl) (by kernel_rfl) (by kernel_rfl) (by kernel_rfl) (by decide) (by kernel_rfl) ?hQ5 ?hy5 (Below.drew (Below.refl _ _)) ?more5
  case hi5 => rw [List.getElem?_toArray]; exact rfl
  case hQ5 => exact fun _ _ _ h => h
  case hy5 =>
    refine Or.inl ⟨by rfl, ?_⟩
    intro w' hSw
    have hO := H2.out.1.call hSw
    obtain ⟨-, ⟨-, r1⟩, -, hS, -⟩ := hO
    obtain ⟨_, _, he, i0, -⟩ := hS 0 a rfl
    cases he
    obtain ⟨_, _, he, i1, -⟩ := hS 1 b rfl
    cases he
    rw [Nat.add_zero] at i0
    clear hSw hS
    go_simp
    try with_reducible rfl
  simp only [Act.put, List.setIfInBounds_toArray, List.set_cons_zero, List.set_cons_succ]
  refine wpAnyN_take (i := 6) (oi := ?o6) (v := ?v6) ?hi6 (by kernel_rfl) (by kernel_rfl) (by kernel_rfl) (by kernel_rfl) (by decide) (by kernel_rfl) ?hQ6 ?hy6 (Below.drew (Below.refl _ _)) ?more6
  case hi6 => rw [List.getElem?_toArray]; exact rfl
  case hQ6 => exact fun _ _ _ h => h
  case hy6 =>
    refine Or.inl ⟨by rfl, ?_⟩
    intro w' hSw
    have hO := H2.out.1.call hSw
    obtain ⟨-, ⟨-, r1⟩, -, hS, -⟩ := hO
    obtain ⟨_, _, he, i0, -⟩ := hS 0 a rfl
    cases he
    obtain ⟨_, _, he, i1, -⟩ := hS 1 b rfl
    cases he
    rw [Nat.add_zero] at i0
    clear hSw hS
    go_simp
    try with_reducible rfl
  simp only [Act.put, List.setIfInBounds_toArray, List.set_cons_zero, List.set_cons_succ]
  refine wpAnyN_take (i := 7) (oi := ?o7) (v := ?v7) ?hi7 (by kernel_rfl) (by kernel_rfl) (by kernel_rfl) (by kernel_rfl) (by decide) (by kernel_rfl) ?hQ7 ?hy7 (Below.drew (Below.refl _ _)) ?more7
  case hi7 => rw [List.getElem?_toArray]; exact rfl
  case hQ7 => exact fun _ _ _ h => h
  case hy7 =>
    refine Or.inl ⟨by rfl, ?_⟩
    intro w' hSw
    have hO := H2.out.1.call hSw
    obtain ⟨-, ⟨-, r1⟩, -, hS, -⟩ := hO
    obtain ⟨_, _, he, i0, -⟩ := hS 0 a rfl
    cases he
    obtain ⟨_, _, he, i1, -⟩ := hS 1 b rfl
    cases he
    rw [Nat.add_zero] at i0
    clear hSw hS
    go_simp
    try with_reducible rfl
  simp only [Act.put, List.setIfInBounds_toArray, List.set_cons_zero, List.set_cons_succ]
  refine wpAnyN_take (i := 8) (oi := ?o8) (v := ?v8) ?hi8 (by kernel_rfl) (by kernel_rfl) (by kernel_rfl) (by kernel_rfl) (by decide) (by kernel_rfl) ?hQ8 ?hy8 (Below.drew (Below.refl _ _)) ?more8
  case hi8 => rw [List.getElem?_toArray]; exact rfl
  case hQ8 => exact fun _ _ _ h => h
  case hy8 =>
    refine Or.inl ⟨by rfl, ?_⟩
    intro w' hSw
    have hO := H2.out.1.call hSw
    obtain ⟨-, ⟨-, r1⟩, -, hS, -⟩ := hO
    obtain ⟨_, _, he, i0, -⟩ := hS 0 a rfl
    cases he
    obtain ⟨_, _, he, i1, -⟩ := hS 1 b rfl
    cases he
    rw [Nat.add_zero] at i0
    clear hSw hS
    go_simp
    try with_reducible rfl
  simp only [Act.put, List.setIfInBounds_toArray, List.set_cons_zero, List.set_cons_succ]
  refine wpAnyN_two (i := 4) (j := 11) (o := ?o4x1) (p := ?o11x1) (by kernel_rfl) ?hi4x1 ?hi11x1 ?hw4x1 ?hw11x1 ?st4x1 ?st11x1
  case hi4x1 => rw [List.getElem?_toArray]; exact rfl
  case hw4x1 => exact rfl
  case hi11x1 => rw [List.getElem?_toArray]; exact rfl
  case hw11x1 => exact rfl
  case st4x1 =>
    intro K hK
    have HK4y2 : Hid _ := hK
    clear hK
    go_simp
    refine (KA.out _).mono ?_
    rintro e w4y2 ⟨rfl, hq⟩
    have H4y2 : Hid (Below w2.heap.size w2 w4y2) := below_call0 (Below.drew (Below.refl _ _)) hq
    clear hq
    go_wp2_with fail
    refine HK4y2.out _ _ ⟨fun _ => H4y2.out, ?_⟩
    clear HK4y2 K
    try simp only [Act.put, List.setIfInBounds_toArray, List.set_cons_zero, List.set_cons_succ]
    refine wpAnyN_two (i := 9) (j := 11) (o := ?o9y2x3) (p := ?o11y2x3) (by kernel_rfl) ?hi9y2x3 ?hi11y2x3 ?hw9y2x3 ?hw11y2x3 ?st9y2x3 ?st11y2x3
    case hi9y2x3 => rw [List.getElem?_toArray]; exact rfl
    case hw9y2x3 => exact rfl
    case hi11y2x3 => rw [List.getElem?_toArray]; exact rfl
    case hw11y2x3 => exact rfl
    case st9y2x3 =>
      intro K hK
      have HK9y4 : Hid _ := hK
      clear hK
      go_simp
      refine (KB.out _).mono ?_
      rintro e w9y4 ⟨rfl, hq⟩
      have H9y4 : Hid (Below w2.heap.size w2 w9y4) := below_call0 H4y2.out hq
      clear hq
      go_wp2_with fail
      refine HK9y4.out _ _ ⟨fun _ => H9y4.out, ?_⟩
      clear HK9y4 K
      try simp only [Act.put, List.setIfInBounds_toArray, List.set_cons_zero, List.set_cons_succ]
      refine wpAnyN_takeF (i := 10) (oi := ?o10y4) (v := ?v10y4) ?hi10y4 (by kernel_rfl) (by kernel_rfl) (by kernel_rfl) (by decide) ?hQ10y4 ?hy10y4 H9y4.out ?more10y4
      case hi10y4 => rw [List.getElem?_toArray]; exact rfl
      case hQ10y4 => exact fun _ _ _ h => h
      case hy10y4 =>
        refine Or.inl ⟨by rfl, ?_⟩
        intro w' hSw
        clear hSw
        go_simp
        try with_reducible rfl
      simp only [Act.put, List.setIfInBounds_toArray, List.set_cons_zero, List.set_cons_succ]
      refine wpAnyN_one (i := 11) (o := ?o11y4) (by kernel_rfl) ?hi11y4 ?hw11y4 ?st11y4
      case hi11y4 => rw [List.getElem?_toArray]; exact rfl
      case hw11y4 => exact rfl
      intro K hK
      have HK11y4 : Hid _ := hK
      clear hK
      go_simp
      refine HK11y4.out _ _ ⟨fun _ => (below_alloc0 H9y4.out _), ?_⟩
      clear HK11y4 K
      try simp only [Act.put, List.setIfInBounds_toArray, List.set_cons_zero, List.set_cons_succ]
      refine wpAnyN_one (i := 12) (o := ?o12y4) (by kernel_rfl) ?hi12y4 ?hw12y4 ?st12y4
      case hi12y4 => rw [List.getElem?_toArray]; exact rfl
      case hw12y4 => exact rfl
      intro K hK
      have HK12y4 : Hid _ := hK
      clear hK
      obtain ⟨⟨o0, o1, o2⟩, ⟨y0, y1, y2⟩, oz⟩ := Zr.facts (Zr.new (q := 62) (W := w9y4) rfl)
      try simp only [World.size_alloc] at o0 o1 o2 y0 y1 y2 oz
      go_simp
      refine HK12y4.out _ _ ⟨fun h => absurd h (by decide +kernel), ?_⟩
      clear HK12y4 K
      try simp only [Act.put, List.setIfInBounds_toArray, List.set_cons_zero, List.set_cons_succ]
      refine wpAnyN_done (by kernel_rfl) ?_ _
      obtain ⟨wS, hwS⟩ : ∃ y, y = w9y4.alloc (.cells #[.int .i64 A, .int .i64 B, .string ⟨#[]⟩] 62) := ⟨_, rfl⟩
      obtain ⟨bk, hbk⟩ : ∃ y, y = w9y4.heap.size := ⟨_, rfl⟩
      have HT0 : Hid (Own3 wS bk A B ⟨#[]⟩ ∧ Below w2.heap.size w2 wS ∧ w2.heap.size ≤ bk) := by rw [hwS, hbk]; exact ⟨Own3.new rfl, below_alloc0 H9y4.out _, (Below.size H9y4.out)⟩
      rw [← hwS, ← hbk]
      clear hwS hbk o0 o1 o2 y0 y1 y2 oz
      have HT : Hid (Own3 wS bk A B ⟨#[]⟩ ∧ OpenAt w wS 1 G R ⟨pb, po, none⟩ 3 cap (a :: b :: [t]) ∧ bk ≠ G ∧ bk ≠ R) := ⟨HT0.out.1, H2.out.1.call HT0.out.2.1, fun c => absurd H2.out.1.1.2.2 (by rw [← c]; exact Nat.not_lt_of_le HT0.out.2.2), fun c => absurd H2.out.1.2.2.1 (by rw [← c]; exact Nat.not_lt_of_le HT0.out.2.2)⟩
      obtain ⟨⟨o0, o1, o2⟩, of, -⟩ := HT.out.1
      have of2 := of 2
      obtain ⟨⟨⟨g0, g1, g2⟩, gf, -⟩, ⟨r0, r1⟩, -, hS, -, -⟩ := HT.out.2.1
      have gf0 := gf 0
      have gf1 := gf 1
      have gf2 := gf 2
      have n1 : bk ≠ G := HT.out.2.2.1
      have n2 : bk ≠ R := HT.out.2.2.2
      have n3 : G ≠ bk := Ne.symm n1
      have n4 : R ≠ bk := Ne.symm n2
      obtain ⟨_, _, he, i2, hpb⟩ := hS 2 t rfl
      cases he
      clear hS of gf
      go_wp2_with fail
      obtain ⟨W, hW, e0, e1, e2, hBW⟩ := put3n (w := w) (w1 := (wS.setCell ⟨bk, 2, none⟩ (.string t))) (B := w.heap.size) (G := G) (.int .i64 0) (.int .i64 0) (.string ⟨#[]⟩) (Below.setCell HT.out.2.1.2.2.2.2.2 (Nat.le_trans H2.out.1.2.2.2.2.2.size HT0.out.2.2) _) (by rw [HT.out.2.1.2.2.2.2.1]; exact Nat.le_refl _) (by rw [cell_otherB n1]; exact g0) (by rw [cell_otherB n1]; exact g1) (by rw [cell_otherB n1]; exact g2)
      rw [← hW]
      refine bodyPost_ret (v := .tuple #[.agg #[.int .i64 0, .int .i64 0, .string ⟨#[]⟩], .bool false]) ?_ rfl ⟨rfl, hBW⟩
      simp [results, Try.results24, go_sem, e0, e1, e2]
    case st11y2x3 =>
      intro K hK
      have HK11y5 : Hid _ := hK
      clear hK
      go_simp
      refine HK11y5.out _ _ ⟨fun _ => (below_alloc0 H4y2.out _), ?_⟩
      clear HK11y5 K
      try simp only [Act.put, List.setIfInBounds_toArray, List.set_cons_zero, List.set_cons_succ]
      refine wpAnyN_one (i := 9) (o := ?o9y5) (by kernel_rfl) ?hi9y5 ?hw9y5 ?st9y5
      case hi9y5 => rw [List.getElem?_toArray]; exact rfl
      case hw9y5 => exact rfl
      intro K hK
      have HK9y5 : Hid _ := hK
      clear hK
      go_simp
      refine (KB.out _).mono ?_
      rintro e w9y5 ⟨rfl, hq⟩
      have H9y5 : Hid (Below w2.heap.size w2 w9y5) := below_call0 (below_alloc0 H4y2.out _) hq
      have P9y5 : Hid (Zr w9y5 (w4y2.heap.size) ) := Zr.call (Zr.new (q := 62) (W := w4y2) rfl) hq
      clear hq
      go_wp2_with fail
      refine HK9y5.out _ _ ⟨fun _ => H9y5.out, ?_⟩
      clear HK9y5 K
      try simp only [Act.put, List.setIfInBounds_toArray, List.set_cons_zero, List.set_cons_succ]
      refine wpAnyN_takeF (i := 10) (oi := ?o10y5) (v := ?v10y5) ?hi10y5 (by kernel_rfl) (by kernel_rfl) (by kernel_rfl) (by decide) ?hQ10y5 ?hy10y5 H9y5.out ?more10y5
      case hi10y5 => rw [List.getElem?_toArray]; exact rfl
      case hQ10y5 => exact fun _ _ _ h => h
      case hy10y5 =>
        refine Or.inl ⟨by rfl, ?_⟩
        intro w' hSw
        clear hSw
        go_simp
        try with_reducible rfl
      simp only [Act.put, List.setIfInBounds_toArray, List.set_cons_zero, List.set_cons_succ]
      refine wpAnyN_one (i := 12) (o := ?o12y5) (by kernel_rfl) ?hi12y5 ?hw12y5 ?st12y5
      case hi12y5 => rw [List.getElem?_toArray]; exact rfl
      case hw12y5 => exact rfl
      intro K hK
      have HK12y5 : Hid _ := hK
      clear hK
      obtain ⟨⟨o0, o1, o2⟩, ⟨y0, y1, y2⟩, oz⟩ := Zr.facts P9y5.out
      try simp only [World.size_alloc] at o0 o1 o2 y0 y1 y2 oz
      go_simp
      refine HK12y5.out _ _ ⟨fun h => absurd h (by decide +kernel), ?_⟩
      clear HK12y5 K
      try simp only [Act.put, List.setIfInBounds_toArray, List.set_cons_zero, List.set_cons_succ]
      refine wpAnyN_done (by kernel_rfl) ?_ _
      obtain ⟨wS, hwS⟩ : ∃ y, y = (((w9y5.setCell ⟨w4y2.heap.size, 0, none⟩ (.int .i64 A)).setCell ⟨w4y2.heap.size, 1, none⟩ (.int .i64 B)).setCell ⟨w4y2.heap.size, 2, none⟩ (.string ⟨#[]⟩)) := ⟨_, rfl⟩
      obtain ⟨bk, hbk⟩ : ∃ y, y = w4y2.heap.size := ⟨_, rfl⟩
      have HT0 : Hid (Own3 wS bk A B ⟨#[]⟩ ∧ Below w2.heap.size w2 wS ∧ w2.heap.size ≤ bk) := by rw [hwS, hbk]; exact ⟨Zr.own P9y5.out, Below.setCell (Below.setCell (Below.setCell H9y5.out (Below.size H4y2.out) _) (Below.size H4y2.out) _) (Below.size H4y2.out) _, (Below.size H4y2.out)⟩
      rw [← hwS, ← hbk]
      clear hwS hbk o0 o1 o2 y0 y1 y2 oz
      have HT : Hid (Own3 wS bk A B ⟨#[]⟩ ∧ OpenAt w wS 1 G R ⟨pb, po, none⟩ 3 cap (a :: b :: [t]) ∧ bk ≠ G ∧ bk ≠ R) := ⟨HT0.out.1, H2.out.1.call HT0.out.2.1, fun c => absurd H2.out.1.1.2.2 (by rw [← c]; exact Nat.not_lt_of_le HT0.out.2.2), fun c => absurd H2.out.1.2.2.1 (by rw [← c]; exact Nat.not_lt_of_le HT0.out.2.2)⟩
      obtain ⟨⟨o0, o1, o2⟩, of, -⟩ := HT.out.1
      have of2 := of 2
      obtain ⟨⟨⟨g0, g1, g2⟩, gf, -⟩, ⟨r0, r1⟩, -, hS, -, -⟩ := HT.out.2.1
      have gf0 := gf 0
      have gf1 := gf 1
      have gf2 := gf 2
      have n1 : bk ≠ G := HT.out.2.2.1
      have n2 : bk ≠ R := HT.out.2.2.2
      have n3 : G ≠ bk := Ne.symm n1
      have n4 : R ≠ bk := Ne.symm n2
      obtain ⟨_, _, he, i2, hpb⟩ := hS 2 t rfl
      cases he
      clear hS of gf
      go_wp2_with fail
      obtain ⟨W, hW, e0, e1, e2, hBW⟩ := put3n (w := w) (w1 := (wS.setCell ⟨bk, 2, none⟩ (.string t))) (B := w.heap.size) (G := G) (.int .i64 0) (.int .i64 0) (.string ⟨#[]⟩) (Below.setCell HT.out.2.1.2.2.2.2.2 (Nat.le_trans H2.out.1.2.2.2.2.2.size HT0.out.2.2) _) (by rw [HT.out.2.1.2.2.2.2.1]; exact Nat.le_refl _) (by rw [cell_otherB n1]; exact g0) (by rw [cell_otherB n1]; exact g1) (by rw [cell_otherB n1]; exact g2)
      rw [← hW]
      refine bodyPost_ret (v := .tuple #[.agg #[.int .i64 0, .int .i64 0, .string ⟨#[]⟩], .bool false]) ?_ rfl ⟨rfl, hBW⟩
      simp [results, Try.results24, go_sem, e0, e1, e2]
  case st11x1 =>
    intro K hK
    have HK11y6 : Hid _ := hK
    clear hK
    go_simp
    refine HK11y6.out _ _ ⟨fun _ => (below_alloc0 (Below.drew (Below.refl _ _)) _), ?_⟩
    clear HK11y6 K
    try simp only [Act.put, List.setIfInBounds_toArray, List.set_cons_zero, List.set_cons_succ]
    refine wpAnyN_one (i := 4) (o := ?o4y6) (by kernel_rfl) ?hi4y6 ?hw4y6 ?st4y6
    case hi4y6 => rw [List.getElem?_toArray]; exact rfl
    case hw4y6 => exact rfl
    intro K hK
    have HK4y6 : Hid _ := hK
    clear hK
    go_simp
    refine (KA.out _).mono ?_
    rintro e w4y6 ⟨rfl, hq⟩
    have H4y6 : Hid (Below w2.heap.size w2 w4y6) := below_call0 (below_alloc0 (Below.drew (Below.refl _ _)) _) hq
    have P4y6 : Hid (Zr w4y6 (w2.heap.size) ) := Zr.call (Zr.new (q := 62) (W := w2.drew) rfl) hq
    clear hq
    go_wp2_with fail
    refine HK4y6.out _ _ ⟨fun _ => H4y6.out, ?_⟩
    clear HK4y6 K
    try simp only [Act.put, List.setIfInBounds_toArray, List.set_cons_zero, List.set_cons_succ]
    refine wpAnyN_one (i := 9) (o := ?o9y6) (by kernel_rfl) ?hi9y6 ?hw9y6 ?st9y6
    case hi9y6 => rw [List.getElem?_toArray]; exact rfl
    case hw9y6 => exact rfl
    intro K hK
    have HK9y6 : Hid _ := hK
    clear hK
    go_simp
    refine (KB.out _).mono ?_
    rintro e w9y6 ⟨rfl, hq⟩
    have H9y6 : Hid (Below w2.heap.size w2 w9y6) := below_call0 H4y6.out hq
    have P9y6 : Hid (Zr w9y6 (w2.heap.size) ) := Zr.call P4y6.out hq
    clear hq
    go_wp2_with fail
    refine HK9y6.out _ _ ⟨fun _ => H9y6.out, ?_⟩
    clear HK9y6 K
    try simp only [Act.put, List.setIfInBounds_toArray, List.set_cons_zero, List.set_cons_succ]
    refine wpAnyN_takeF (i := 10) (oi := ?o10y6) (v := ?v10y6) ?hi10y6 (by kernel_rfl) (by kernel_rfl) (by kernel_rfl) (by decide) ?hQ10y6 ?hy10y6 H9y6.out ?more10y6
    case hi10y6 => rw [List.getElem?_toArray]; exact rfl
    case hQ10y6 => exact fun _ _ _ h => h
    case hy10y6 =>
      refine Or.inl ⟨by rfl, ?_⟩
      intro w' hSw
      clear hSw
      go_simp
      try with_reducible rfl
    simp only [Act.put, List.setIfInBounds_toArray, List.set_cons_zero, List.set_cons_succ]
    refine wpAnyN_one (i := 12) (o := ?o12y6) (by kernel_rfl) ?hi12y6 ?hw12y6 ?st12y6
    case hi12y6 => rw [List.getElem?_toArray]; exact rfl
    case hw12y6 => exact rfl
    intro K hK
    have HK12y6 : Hid _ := hK
    clear hK
    obtain ⟨⟨o0, o1, o2⟩, ⟨y0, y1, y2⟩, oz⟩ := Zr.facts P9y6.out
    try simp only [World.size_alloc] at o0 o1 o2 y0 y1 y2 oz
    go_simp
    refine HK12y6.out _ _ ⟨fun h => absurd h (by decide +kernel), ?_⟩
    clear HK12y6 K
    try simp only [Act.put, List.setIfInBounds_toArray, List.set_cons_zero, List.set_cons_succ]
    refine wpAnyN_done (by kernel_rfl) ?_ _
    obtain ⟨wS, hwS⟩ : ∃ y, y = (((w9y6.setCell ⟨w2.heap.size, 0, none⟩ (.int .i64 A)).setCell ⟨w2.heap.size, 1, none⟩ (.int .i64 B)).setCell ⟨w2.heap.size, 2, none⟩ (.string ⟨#[]⟩)) := ⟨_, rfl⟩
    obtain ⟨bk, hbk⟩ : ∃ y, y = w2.heap.size := ⟨_, rfl⟩
    have HT0 : Hid (Own3 wS bk A B ⟨#[]⟩ ∧ Below w2.heap.size w2 wS ∧ w2.heap.size ≤ bk) := by rw [hwS, hbk]; exact ⟨Zr.own P9y6.out, Below.setCell (Below.setCell (Below.setCell H9y6.out (Nat.le_refl _) _) (Nat.le_refl _) _) (Nat.le_refl _) _, (Nat.le_refl _)⟩
    rw [← hwS, ← hbk]
    clear hwS hbk o0 o1 o2 y0 y1 y2 oz
    have HT : Hid (Own3 wS bk A B ⟨#[]⟩ ∧ OpenAt w wS 1 G R ⟨pb, po, none⟩ 3 cap (a :: b :: [t]) ∧ bk ≠ G ∧ bk ≠ R) := ⟨HT0.out.1, H2.out.1.call HT0.out.2.1, fun c => absurd H2.out.1.1.2.2 (by rw [← c]; exact Nat.not_lt_of_le HT0.out.2.2), fun c => absurd H2.out.1.2.2.1 (by rw [← c]; exact Nat.not_lt_of_le HT0.out.2.2)⟩
    obtain ⟨⟨o0, o1, o2⟩, of, -⟩ := HT.out.1
    have of2 := of 2
    obtain ⟨⟨⟨g0, g1, g2⟩, gf, -⟩, ⟨r0, r1⟩, -, hS, -, -⟩ := HT.out.2.1
    have gf0 := gf 0
    have gf1 := gf 1
    have gf2 := gf 2
    have n1 : bk ≠ G := HT.out.2.2.1
    have n2 : bk ≠ R := HT.out.2.2.2
    have n3 : G ≠ bk := Ne.symm n1
    have n4 : R ≠ bk := Ne.symm n2
    obtain ⟨_, _, he, i2, hpb⟩ := hS 2 t rfl
    cases he
    clear hS of gf
    go_wp2_with fail
    obtain ⟨W, hW, e0, e1, e2, hBW⟩ := put3n (w := w) (w1 := (wS.setCell ⟨bk, 2, none⟩ (.string t))) (B := w.heap.size) (G := G) (.int .i64 0) (.int .i64 0) (.string ⟨#[]⟩) (Below.setCell HT.out.2.1.2.2.2.2.2 (Nat.le_trans H2.out.1.2.2.2.2.2.size HT0.out.2.2) _) (by rw [HT.out.2.1.2.2.2.2.1]; exact Nat.le_refl _) (by rw [cell_otherB n1]; exact g0) (by rw [cell_otherB n1]; exact g1) (by rw [cell_otherB n1]; exact g2)
    rw [← hW]
    refine bodyPost_ret (v := .tuple #[.agg #[.int .i64 0, .int .i64 0, .string ⟨#[]⟩], .bool false]) ?_ rfl ⟨rfl, hBW⟩
    simp [results, Try.results24, go_sem, e0, e1, e2]
set_option maxRecDepth 100000 in
set_option maxHeartbeats 4000000 in
theorem ropen1_e (a b : ByteArray) (t : ByteArray) (s : ByteArray) (A B : Int) (hA : numV a = A) (hB : numV b = B) (hs : s.size < 140737488351233) (h1 : upE s.data.toList = 0) (h2 : upK s.data.toList = 1) (h3 : upL s.data.toList = a :: b :: [t]) (c1 : ¬ (A < 1)) (c2 : ¬ (B < 0)) (c3 : ¬ (B < 1)) (c4 : ¬ ((7900 : Int) < (t.size : Int))) (w : World) :
    Calls Try.prog 24 #[.string s, .int .i64 1] w fun e w' => e = .returned (.tuple #[.agg #[.int .i64 A, .int .i64 B, .string t], .bool true]) ∧ Below w.heap.size w w' := by
  have hz := upL_ok h1
  rw [h3] at hz
  have KA : Hid _ := fun w' : World => rnumber_any a (by have := hz a (by simp); omega) w'
  have KB : Hid _ := fun w' : World => rnumber_any b (by have := hz b (by simp); omega) w'
  rw [hA] at KA
  rw [hB] at KB
  have KU : Hid _ := fun w' : World => runpack_any s hs w'
  unfold rupPost at KU
  rw [h1, h2, h3] at KU
  have KU : Hid (∀ w' : World, Calls Try.prog 34 #[.string s] w' fun e w'' => ∃ p cap, e = .returned (.tuple #[.agg #[.int .i64 1, .slice p 3 cap], .int .i64 0]) ∧ Strs w'' p (a :: b :: [t]) ∧ Below w'.heap.size w' w'') := KU.out
  clear hz h1 h2 h3 hs hA hB
  go_enter Try.func24, Try.ntmps24
  go_wp2_with fail
  refine (KU.out _).mono ?_
  rintro e w1 ⟨p, cap, rfl, hS1, hb1⟩
  obtain ⟨pb, po, rfl, -, hpb⟩ := hS1 0 a rfl
  obtain ⟨G, hG⟩ : ∃ G, G = w.heap.size := ⟨_, rfl⟩
  have H1 : Hid (Own3 w1 G 0 0 ⟨#[]⟩ ∧ Strs w1 (some ⟨pb, po, none⟩) (a :: b :: [t]) ∧ Below w.heap.size w w1 ∧ G = w.heap.size) := by
    rw [hG]
    exact ⟨(Zr.new rfl).call hb1, hS1, below_call0 (below_alloc0 (Below.refl _ _) _) hb1, rfl⟩
  rw [← hG]
  clear hb1 hS1 KU hG hpb
  obtain ⟨⟨g0, g1, g2⟩, gf, gz⟩ := H1.out.1
  have gf0 := gf 0
  have gf1 := gf 1
  have gf2 := gf 2
  go_wp2_with fail
  obtain ⟨w2, hw2⟩ : ∃ y, y = w1.alloc (.cells #[.int .i64 1, .slice (some ⟨pb, po, none⟩) 3 cap] 83) := ⟨_, rfl⟩
  obtain ⟨R, hR⟩ : ∃ R, R = w1.heap.size := ⟨_, rfl⟩
  have H2 : Hid (OpenAt w w2 1 G R ⟨pb, po, none⟩ 3 cap (a :: b :: [t]) ∧ G ≠ R) := by
    rw [hw2, hR]
    have hb : Below w1.heap.size w1 (w1.alloc (.cells #[.int .i64 1, .slice (some ⟨pb, po, none⟩) 3 cap] 83)) := below_alloc0 (Below.refl _ _) _
    exact ⟨⟨H1.out.1.call hb, ⟨by simp [go_sem], by simp [go_sem]⟩, by simp, H1.out.2.1.call hb, H1.out.2.2.2, below_call0 H1.out.2.2.1 hb⟩, Nat.ne_of_lt H1.out.1.2.2⟩
  rw [← hw2, ← hR]
  clear hw2 hR g0 g1 g2 gf gf0 gf1 gf2 gz H1
  refine wp_region_N (fun w' => Below w2.heap.size w2 w') 12 13 rfl (by kernel_rfl) ?_
  refine wpAnyN_take (i := 0) (oi := ?o0) (v := ?v0) ?hi0 (by kernel_rfl) (by kernel_rfl) (by kernel_rfl) (by kernel_rfl) (by decide) (by kernel_rfl) ?hQ0 ?hy0 (Below.drew (Below.refl _ _)) ?more0
  case hi0 => rw [List.getElem?_toArray]; exact rfl
  case hQ0 => exact fun _ _ _ h => h
  case hy0 =>
    refine Or.inl ⟨by rfl, ?_⟩
    intro w' hSw
    have hO := H2.out.1.call hSw
    obtain ⟨-, ⟨-, r1⟩, -, hS, -⟩ := hO
    obtain ⟨_, _, he, i0, -⟩ := hS 0 a rfl
    cases he
    obtain ⟨_, _, he, i1, -⟩ := hS 1 b rfl
    cases he
    rw [Nat.add_zero] at i0
    clear hSw hS
    go_simp
    try with_reducible rfl
  simp only [Act.put, List.setIfInBounds_toArray, List.set_cons_zero, List.set_cons_succ]
  refine wpAnyN_take (i := 1) (oi := ?o1) (v := ?v1) ?hi1 (by kernel_rfl) (by kernel_rfl) (by kernel_rfl) (by kernel_rfl) (by decide) (by kernel_rfl) ?hQ1 ?hy1 (Below.drew (Below.refl _ _)) ?more1
  case hi1 => rw [List.getElem?_toArray]; exact rfl
  case hQ1 => exact fun _ _ _ h => h
  case hy1 =>
    refine Or.inl ⟨by rfl, ?_⟩
    intro w' hSw
    have hO := H2.out.1.call hSw
    obtain ⟨-, ⟨-, r1⟩, -, hS, -⟩ := hO
    obtain ⟨_, _, he, i0, -⟩ := hS 0 a rfl
    cases he
    obtain ⟨_, _, he, i1, -⟩ := hS 1 b rfl
    cases he
    rw [Nat.add_zero] at i0
    clear hSw hS
    go_simp
    try with_reducible rfl
  simp only [Act.put, List.setIfInBounds_toArray, List.set_cons_zero, List.set_cons_succ]
  refine wpAnyN_take (i := 2) (oi := ?o2) (v := ?v2) ?hi2 (by kernel_rfl) (by kernel_rfl) (by kernel_rfl) (by kernel_rfl) (by decide) (by kernel_rfl) ?hQ2 ?hy2 (Below.drew (Below.refl _ _)) ?more2
  case hi2 => rw [List.getElem?_toArray]; exact rfl
  case hQ2 => exact fun _ _ _ h => h
  case hy2 =>
    refine Or.inl ⟨by rfl, ?_⟩
    intro w' hSw
    have hO := H2.out.1.call hSw
    obtain ⟨-, ⟨-, r1⟩, -, hS, -⟩ := hO
    obtain ⟨_, _, he, i0, -⟩ := hS 0 a rfl
    cases he
    obtain ⟨_, _, he, i1, -⟩ := hS 1 b rfl
    cases he
    rw [Nat.add_zero] at i0
    clear hSw hS
    go_simp
    try with_reducible rfl
  simp only [Act.put, List.setIfInBounds_toArray, List.set_cons_zero, List.set_cons_succ]
  refine wpAnyN_take (i := 3) (oi := ?o3) (v := ?v3) ?hi3 (by kernel_rfl) (by kernel_rfl) (by kernel_rfl) (by kernel_rfl) (by decide) (by kernel_rfl) ?hQ3 ?hy3 (Below.drew (Below.refl _ _)) ?more3
  case hi3 => rw [List.getElem?_toArray]; exact rfl
  case hQ3 => exact fun _ _ _ h => h
  case hy3 =>
    refine Or.inl ⟨by rfl, ?_⟩
    intro w' hSw
    have hO := H2.out.1.call hSw
    obtain ⟨-, ⟨-, r1⟩, -, hS, -⟩ := hO
    obtain ⟨_, _, he, i0, -⟩ := hS 0 a rfl
    cases he
    obtain ⟨_, _, he, i1, -⟩ := hS 1 b rfl
    cases he
    rw [Nat.add_zero] at i0
    clear hSw hS
    go_simp
    try with_reducible rfl
  simp only [Act.put, List.setIfInBounds_toArray, List.set_cons_zero, List.set_cons_succ]
  refine wpAnyN_take (i := 5) (oi := ?o5) (v := ?v5) ?hi5 (by kernel_rfl) (by kernel_rfl) (by kernel_rfl) (by kernel_rfl) (by decide) (by kernel_rfl) ?hQ5 ?hy5 (Below.drew (Below.refl _ _)) ?more5
  case hi5 => rw [List.getElem?_toArray]; exact rfl
  case hQ5 => exact fun _ _ _ h => h
  case hy5 =>
    refine Or.inl ⟨by rfl, ?_⟩
    intro w' hSw
    have hO := H2.out.1.call hSw
    obtain ⟨-, ⟨-, r1⟩, -, hS, -⟩ := hO
    obtain ⟨_, _, he, i0, -⟩ := hS 0 a rfl
    cases he
    obtain ⟨_, _, he, i1, -⟩ := hS 1 b rfl
    cases he
    rw [Nat.add_zero] at i0
    clear hSw hS
    go_simp
    try with_reducible rfl
  simp only [Act.put, List.setIfInBounds_toArray, List.set_cons_zero, List.set_cons_succ]
  refine wpAnyN_take (i := 6) (oi := ?o6) (v := ?v6) ?hi6 (by kernel_rfl) (by kernel_rfl) (by kernel_rfl) (by kernel_rfl) (by decide) (by kernel_rfl) ?hQ6 ?hy6 (Below.drew (Below.refl _ _)) ?more6
  case hi6 => rw [List.getElem?_toArray]; exact rfl
  case hQ6 => exact fun _ _ _ h => h
  case hy6 =>
    refine Or.inl ⟨by rfl, ?_⟩
    intro w' hSw
    have hO := H2.out.1.call hSw
    obtain ⟨-, ⟨-, r1⟩, -, hS, -⟩ := hO
    obtain ⟨_, _, he, i0, -⟩ := hS 0 a rfl
    cases he
    obtain ⟨_, _, he, i1, -⟩ := hS 1 b rfl
    cases he
    rw [Nat.add_zero] at i0
    clear hSw hS
    go_simp
    try with_reducible rfl
  simp only [Act.put, List.setIfInBounds_toArray, List.set_cons_zero, List.set_cons_succ]
  refine wpAnyN_take (i := 7) (oi := ?o7) (v := ?v7) ?hi7 (by kernel_rfl) (by kernel_rfl) (by kernel_rfl) (by kernel_rfl) (by decide) (by kernel_rfl) ?hQ7 ?hy7 (Below.drew (Below.refl _ _)) ?more7
  case hi7 => rw [List.getElem?_toArray]; exact rfl
  case hQ7 => exact fun _ _ _ h => h
  case hy7 =>
    refine Or.inl ⟨by rfl, ?_⟩
    intro w' hSw
    have hO := H2.out.1.call hSw
    obtain ⟨-, ⟨-, r1⟩, -, hS, -⟩ := hO
    obtain ⟨_, _, he, i0, -⟩ := hS 0 a rfl
    cases he
    obtain ⟨_, _, he, i1, -⟩ := hS 1 b rfl
    cases he
    rw [Nat.add_zero] at i0
    clear hSw hS
    go_simp
    try with_reducible rfl
  simp only [Act.put, List.setIfInBounds_toArray, List.set_cons_zero, List.set_cons_succ]
  refine wpAnyN_take (i := 8) (oi := ?o8) (v := ?v8) ?hi8 (by kernel_rfl) (by kernel_rfl) (by kernel_rfl) (by kernel_rfl) (by decide) (by kernel_rfl) ?hQ8 ?hy8 (Below.drew (Below.refl _ _)) ?more8
  case hi8 => rw [List.getElem?_toArray]; exact rfl
  case hQ8 => exact fun _ _ _ h => h
  case hy8 =>
    refine Or.inl ⟨by rfl, ?_⟩
    intro w' hSw
    have hO := H2.out.1.call hSw
    obtain ⟨-, ⟨-, r1⟩, -, hS, -⟩ := hO
    obtain ⟨_, _, he, i0, -⟩ := hS 0 a rfl
    cases he
    obtain ⟨_, _, he, i1, -⟩ := hS 1 b rfl
    cases he
    rw [Nat.add_zero] at i0
    clear hSw hS
    go_simp
    try with_reducible rfl
  simp only [Act.put, List.setIfInBounds_toArray, List.set_cons_zero, List.set_cons_succ]
  refine wpAnyN_two (i := 4) (j := 11) (o := ?o4x1) (p := ?o11x1) (by kernel_rfl) ?hi4x1 ?hi11x1 ?hw4x1 ?hw11x1 ?st4x1 ?st11x1
  case hi4x1 => rw [List.getElem?_toArray]; exact rfl
  case hw4x1 => exact rfl
  case hi11x1 => rw [List.getElem?_toArray]; exact rfl
  case hw11x1 => exact rfl
  case st4x1 =>
    intro K hK
    have HK4y2 : Hid _ := hK
    clear hK
    go_simp
    refine (KA.out _).mono ?_
    rintro e w4y2 ⟨rfl, hq⟩
    have H4y2 : Hid (Below w2.heap.size w2 w4y2) := below_call0 (Below.drew (Below.refl _ _)) hq
    clear hq
    go_wp2_with fail
    refine HK4y2.out _ _ ⟨fun _ => H4y2.out, ?_⟩
    clear HK4y2 K
    try simp only [Act.put, List.setIfInBounds_toArray, List.set_cons_zero, List.set_cons_succ]
    refine wpAnyN_two (i := 9) (j := 11) (o := ?o9y2x3) (p := ?o11y2x3) (by kernel_rfl) ?hi9y2x3 ?hi11y2x3 ?hw9y2x3 ?hw11y2x3 ?st9y2x3 ?st11y2x3
    case hi9y2x3 => rw [List.getElem?_toArray]; exact rfl
    case hw9y2x3 => exact rfl
    case hi11y2x3 => rw [List.getElem?_toArray]; exact rfl
    case hw11y2x3 => exact rfl
    case st9y2x3 =>
      intro K hK
      have HK9y4 : Hid _ := hK
      clear hK
      go_simp
      refine (KB.out _).mono ?_
      rintro e w9y4 ⟨rfl, hq⟩
      have H9y4 : Hid (Below w2.heap.size w2 w9y4) := below_call0 H4y2.out hq
      clear hq
      go_wp2_with fail
      refine HK9y4.out _ _ ⟨fun _ => H9y4.out, ?_⟩
      clear HK9y4 K
      try simp only [Act.put, List.setIfInBounds_toArray, List.set_cons_zero, List.set_cons_succ]
      refine wpAnyN_takeF (i := 10) (oi := ?o10y4) (v := ?v10y4) ?hi10y4 (by kernel_rfl) (by kernel_rfl) (by kernel_rfl) (by decide) ?hQ10y4 ?hy10y4 H9y4.out ?more10y4
      case hi10y4 => rw [List.getElem?_toArray]; exact rfl
      case hQ10y4 => exact fun _ _ _ h => h
      case hy10y4 =>
        refine Or.inl ⟨by rfl, ?_⟩
        intro w' hSw
        clear hSw
        go_simp
        try with_reducible rfl
      simp only [Act.put, List.setIfInBounds_toArray, List.set_cons_zero, List.set_cons_succ]
      refine wpAnyN_one (i := 11) (o := ?o11y4) (by kernel_rfl) ?hi11y4 ?hw11y4 ?st11y4
      case hi11y4 => rw [List.getElem?_toArray]; exact rfl
      case hw11y4 => exact rfl
      intro K hK
      have HK11y4 : Hid _ := hK
      clear hK
      go_simp
      refine HK11y4.out _ _ ⟨fun _ => (below_alloc0 H9y4.out _), ?_⟩
      clear HK11y4 K
      try simp only [Act.put, List.setIfInBounds_toArray, List.set_cons_zero, List.set_cons_succ]
      refine wpAnyN_one (i := 12) (o := ?o12y4) (by kernel_rfl) ?hi12y4 ?hw12y4 ?st12y4
      case hi12y4 => rw [List.getElem?_toArray]; exact rfl
      case hw12y4 => exact rfl
      intro K hK
      have HK12y4 : Hid _ := hK
      clear hK
      obtain ⟨⟨o0, o1, o2⟩, ⟨y0, y1, y2⟩, oz⟩ := Zr.facts (Zr.new (q := 62) (W := w9y4) rfl)
      try simp only [World.size_alloc] at o0 o1 o2 y0 y1 y2 oz
      go_simp
      refine HK12y4.out _ _ ⟨fun h => absurd h (by decide +kernel), ?_⟩
      clear HK12y4 K
      try simp only [Act.put, List.setIfInBounds_toArray, List.set_cons_zero, List.set_cons_succ]
      refine wpAnyN_done (by kernel_rfl) ?_ _
      obtain ⟨wS, hwS⟩ : ∃ y, y = w9y4.alloc (.cells #[.int .i64 A, .int .i64 B, .string ⟨#[]⟩] 62) := ⟨_, rfl⟩
      obtain ⟨bk, hbk⟩ : ∃ y, y = w9y4.heap.size := ⟨_, rfl⟩
      have HT0 : Hid (Own3 wS bk A B ⟨#[]⟩ ∧ Below w2.heap.size w2 wS ∧ w2.heap.size ≤ bk) := by rw [hwS, hbk]; exact ⟨Own3.new rfl, below_alloc0 H9y4.out _, (Below.size H9y4.out)⟩
      rw [← hwS, ← hbk]
      clear hwS hbk o0 o1 o2 y0 y1 y2 oz
      have HT : Hid (Own3 wS bk A B ⟨#[]⟩ ∧ OpenAt w wS 1 G R ⟨pb, po, none⟩ 3 cap (a :: b :: [t]) ∧ bk ≠ G ∧ bk ≠ R) := ⟨HT0.out.1, H2.out.1.call HT0.out.2.1, fun c => absurd H2.out.1.1.2.2 (by rw [← c]; exact Nat.not_lt_of_le HT0.out.2.2), fun c => absurd H2.out.1.2.2.1 (by rw [← c]; exact Nat.not_lt_of_le HT0.out.2.2)⟩
      obtain ⟨⟨o0, o1, o2⟩, of, -⟩ := HT.out.1
      have of2 := of 2
      obtain ⟨⟨⟨g0, g1, g2⟩, gf, -⟩, ⟨r0, r1⟩, -, hS, -, -⟩ := HT.out.2.1
      have gf0 := gf 0
      have gf1 := gf 1
      have gf2 := gf 2
      have n1 : bk ≠ G := HT.out.2.2.1
      have n2 : bk ≠ R := HT.out.2.2.2
      have n3 : G ≠ bk := Ne.symm n1
      have n4 : R ≠ bk := Ne.symm n2
      obtain ⟨_, _, he, i2, hpb⟩ := hS 2 t rfl
      cases he
      clear hS of gf
      go_wp2_with fail
      obtain ⟨W, hW, e0, e1, e2, hBW⟩ := put3n (w := w) (w1 := (wS.setCell ⟨bk, 2, none⟩ (.string t))) (B := w.heap.size) (G := G) (.int .i64 A) (.int .i64 B) (.string t) (Below.setCell HT.out.2.1.2.2.2.2.2 (Nat.le_trans H2.out.1.2.2.2.2.2.size HT0.out.2.2) _) (by rw [HT.out.2.1.2.2.2.2.1]; exact Nat.le_refl _) (by rw [cell_otherB n1]; exact g0) (by rw [cell_otherB n1]; exact g1) (by rw [cell_otherB n1]; exact g2)
      rw [← hW]
      refine bodyPost_ret (v := .tuple #[.agg #[.int .i64 A, .int .i64 B, .string t], .bool true]) ?_ rfl ⟨rfl, hBW⟩
      simp [results, Try.results24, go_sem, e0, e1, e2]
    case st11y2x3 =>
      intro K hK
      have HK11y5 : Hid _ := hK
      clear hK
      go_simp
      refine HK11y5.out _ _ ⟨fun _ => (below_alloc0 H4y2.out _), ?_⟩
      clear HK11y5 K
      try simp only [Act.put, List.setIfInBounds_toArray, List.set_cons_zero, List.set_cons_succ]
      refine wpAnyN_one (i := 9) (o := ?o9y5) (by kernel_rfl) ?hi9y5 ?hw9y5 ?st9y5
      case hi9y5 => rw [List.getElem?_toArray]; exact rfl
      case hw9y5 => exact rfl
      intro K hK
      have HK9y5 : Hid _ := hK
      clear hK
      go_simp
      refine (KB.out _).mono ?_
      rintro e w9y5 ⟨rfl, hq⟩
      have H9y5 : Hid (Below w2.heap.size w2 w9y5) := below_call0 (below_alloc0 H4y2.out _) hq
      have P9y5 : Hid (Zr w9y5 (w4y2.heap.size) ) := Zr.call (Zr.new (q := 62) (W := w4y2) rfl) hq
      clear hq
      go_wp2_with fail
      refine HK9y5.out _ _ ⟨fun _ => H9y5.out, ?_⟩
      clear HK9y5 K
      try simp only [Act.put, List.setIfInBounds_toArray, List.set_cons_zero, List.set_cons_succ]
      refine wpAnyN_takeF (i := 10) (oi := ?o10y5) (v := ?v10y5) ?hi10y5 (by kernel_rfl) (by kernel_rfl) (by kernel_rfl) (by decide) ?hQ10y5 ?hy10y5 H9y5.out ?more10y5
      case hi10y5 => rw [List.getElem?_toArray]; exact rfl
      case hQ10y5 => exact fun _ _ _ h => h
      case hy10y5 =>
        refine Or.inl ⟨by rfl, ?_⟩
        intro w' hSw
        clear hSw
        go_simp
        try with_reducible rfl
      simp only [Act.put, List.setIfInBounds_toArray, List.set_cons_zero, List.set_cons_succ]
      refine wpAnyN_one (i := 12) (o := ?o12y5) (by kernel_rfl) ?hi12y5 ?hw12y5 ?st12y5
      case hi12y5 => rw [List.getElem?_toArray]; exact rfl
      case hw12y5 => exact rfl
      intro K hK
      have HK12y5 : Hid _ := hK
      clear hK
      obtain ⟨⟨o0, o1, o2⟩, ⟨y0, y1, y2⟩, oz⟩ := Zr.facts P9y5.out
      try simp only [World.size_alloc] at o0 o1 o2 y0 y1 y2 oz
      go_simp
      refine HK12y5.out _ _ ⟨fun h => absurd h (by decide +kernel), ?_⟩
      clear HK12y5 K
      try simp only [Act.put, List.setIfInBounds_toArray, List.set_cons_zero, List.set_cons_succ]
      refine wpAnyN_done (by kernel_rfl) ?_ _
      obtain ⟨wS, hwS⟩ : ∃ y, y = (((w9y5.setCell ⟨w4y2.heap.size, 0, none⟩ (.int .i64 A)).setCell ⟨w4y2.heap.size, 1, none⟩ (.int .i64 B)).setCell ⟨w4y2.heap.size, 2, none⟩ (.string ⟨#[]⟩)) := ⟨_, rfl⟩
      obtain ⟨bk, hbk⟩ : ∃ y, y = w4y2.heap.size := ⟨_, rfl⟩
      have HT0 : Hid (Own3 wS bk A B ⟨#[]⟩ ∧ Below w2.heap.size w2 wS ∧ w2.heap.size ≤ bk) := by rw [hwS, hbk]; exact ⟨Zr.own P9y5.out, Below.setCell (Below.setCell (Below.setCell H9y5.out (Below.size H4y2.out) _) (Below.size H4y2.out) _) (Below.size H4y2.out) _, (Below.size H4y2.out)⟩
      rw [← hwS, ← hbk]
      clear hwS hbk o0 o1 o2 y0 y1 y2 oz
      have HT : Hid (Own3 wS bk A B ⟨#[]⟩ ∧ OpenAt w wS 1 G R ⟨pb, po, none⟩ 3 cap (a :: b :: [t]) ∧ bk ≠ G ∧ bk ≠ R) := ⟨HT0.out.1, H2.out.1.call HT0.out.2.1, fun c => absurd H2.out.1.1.2.2 (by rw [← c]; exact Nat.not_lt_of_le HT0.out.2.2), fun c => absurd H2.out.1.2.2.1 (by rw [← c]; exact Nat.not_lt_of_le HT0.out.2.2)⟩
      obtain ⟨⟨o0, o1, o2⟩, of, -⟩ := HT.out.1
      have of2 := of 2
      obtain ⟨⟨⟨g0, g1, g2⟩, gf, -⟩, ⟨r0, r1⟩, -, hS, -, -⟩ := HT.out.2.1
      have gf0 := gf 0
      have gf1 := gf 1
      have gf2 := gf 2
      have n1 : bk ≠ G := HT.out.2.2.1
      have n2 : bk ≠ R := HT.out.2.2.2
      have n3 : G ≠ bk := Ne.symm n1
      have n4 : R ≠ bk := Ne.symm n2
      obtain ⟨_, _, he, i2, hpb⟩ := hS 2 t rfl
      cases he
      clear hS of gf
      go_wp2_with fail
      obtain ⟨W, hW, e0, e1, e2, hBW⟩ := put3n (w := w) (w1 := (wS.setCell ⟨bk, 2, none⟩ (.string t))) (B := w.heap.size) (G := G) (.int .i64 A) (.int .i64 B) (.string t) (Below.setCell HT.out.2.1.2.2.2.2.2 (Nat.le_trans H2.out.1.2.2.2.2.2.size HT0.out.2.2) _) (by rw [HT.out.2.1.2.2.2.2.1]; exact Nat.le_refl _) (by rw [cell_otherB n1]; exact g0) (by rw [cell_otherB n1]; exact g1) (by rw [cell_otherB n1]; exact g2)
      rw [← hW]
      refine bodyPost_ret (v := .tuple #[.agg #[.int .i64 A, .int .i64 B, .string t], .bool true]) ?_ rfl ⟨rfl, hBW⟩
      simp [results, Try.results24, go_sem, e0, e1, e2]
  case st11x1 =>
    intro K hK
    have HK11y6 : Hid _ := hK
    clear hK
    go_simp
    refine HK11y6.out _ _ ⟨fun _ => (below_alloc0 (Below.drew (Below.refl _ _)) _), ?_⟩
    clear HK11y6 K
    try simp only [Act.put, List.setIfInBounds_toArray, List.set_cons_zero, List.set_cons_succ]
    refine wpAnyN_one (i := 4) (o := ?o4y6) (by kernel_rfl) ?hi4y6 ?hw4y6 ?st4y6
    case hi4y6 => rw [List.getElem?_toArray]; exact rfl
    case hw4y6 => exact rfl
    intro K hK
    have HK4y6 : Hid _ := hK
    clear hK
    go_simp
    refine (KA.out _).mono ?_
    rintro e w4y6 ⟨rfl, hq⟩
    have H4y6 : Hid (Below w2.heap.size w2 w4y6) := below_call0 (below_alloc0 (Below.drew (Below.refl _ _)) _) hq
    have P4y6 : Hid (Zr w4y6 (w2.heap.size) ) := Zr.call (Zr.new (q := 62) (W := w2.drew) rfl) hq
    clear hq
    go_wp2_with fail
    refine HK4y6.out _ _ ⟨fun _ => H4y6.out, ?_⟩
    clear HK4y6 K
    try simp only [Act.put, List.setIfInBounds_toArray, List.set_cons_zero, List.set_cons_succ]
    refine wpAnyN_one (i := 9) (o := ?o9y6) (by kernel_rfl) ?hi9y6 ?hw9y6 ?st9y6
    case hi9y6 => rw [List.getElem?_toArray]; exact rfl
    case hw9y6 => exact rfl
    intro K hK
    have HK9y6 : Hid _ := hK
    clear hK
    go_simp
    refine (KB.out _).mono ?_
    rintro e w9y6 ⟨rfl, hq⟩
    have H9y6 : Hid (Below w2.heap.size w2 w9y6) := below_call0 H4y6.out hq
    have P9y6 : Hid (Zr w9y6 (w2.heap.size) ) := Zr.call P4y6.out hq
    clear hq
    go_wp2_with fail
    refine HK9y6.out _ _ ⟨fun _ => H9y6.out, ?_⟩
    clear HK9y6 K
    try simp only [Act.put, List.setIfInBounds_toArray, List.set_cons_zero, List.set_cons_succ]
    refine wpAnyN_takeF (i := 10) (oi := ?o10y6) (v := ?v10y6) ?hi10y6 (by kernel_rfl) (by kernel_rfl) (by kernel_rfl) (by decide) ?hQ10y6 ?hy10y6 H9y6.out ?more10y6
    case hi10y6 => rw [List.getElem?_toArray]; exact rfl
    case hQ10y6 => exact fun _ _ _ h => h
    case hy10y6 =>
      refine Or.inl ⟨by rfl, ?_⟩
      intro w' hSw
      clear hSw
      go_simp
      try with_reducible rfl
    simp only [Act.put, List.setIfInBounds_toArray, List.set_cons_zero, List.set_cons_succ]
    refine wpAnyN_one (i := 12) (o := ?o12y6) (by kernel_rfl) ?hi12y6 ?hw12y6 ?st12y6
    case hi12y6 => rw [List.getElem?_toArray]; exact rfl
    case hw12y6 => exact rfl
    intro K hK
    have HK12y6 : Hid _ := hK
    clear hK
    obtain ⟨⟨o0, o1, o2⟩, ⟨y0, y1, y2⟩, oz⟩ := Zr.facts P9y6.out
    try simp only [World.size_alloc] at o0 o1 o2 y0 y1 y2 oz
    go_simp
    refine HK12y6.out _ _ ⟨fun h => absurd h (by decide +kernel), ?_⟩
    clear HK12y6 K
    try simp only [Act.put, List.setIfInBounds_toArray, List.set_cons_zero, List.set_cons_succ]
    refine wpAnyN_done (by kernel_rfl) ?_ _
    obtain ⟨wS, hwS⟩ : ∃ y, y = (((w9y6.setCell ⟨w2.heap.size, 0, none⟩ (.int .i64 A)).setCell ⟨w2.heap.size, 1, none⟩ (.int .i64 B)).setCell ⟨w2.heap.size, 2, none⟩ (.string ⟨#[]⟩)) := ⟨_, rfl⟩
    obtain ⟨bk, hbk⟩ : ∃ y, y = w2.heap.size := ⟨_, rfl⟩
    have HT0 : Hid (Own3 wS bk A B ⟨#[]⟩ ∧ Below w2.heap.size w2 wS ∧ w2.heap.size ≤ bk) := by rw [hwS, hbk]; exact ⟨Zr.own P9y6.out, Below.setCell (Below.setCell (Below.setCell H9y6.out (Nat.le_refl _) _) (Nat.le_refl _) _) (Nat.le_refl _) _, (Nat.le_refl _)⟩
    rw [← hwS, ← hbk]
    clear hwS hbk o0 o1 o2 y0 y1 y2 oz
    have HT : Hid (Own3 wS bk A B ⟨#[]⟩ ∧ OpenAt w wS 1 G R ⟨pb, po, none⟩ 3 cap (a :: b :: [t]) ∧ bk ≠ G ∧ bk ≠ R) := ⟨HT0.out.1, H2.out.1.call HT0.out.2.1, fun c => absurd H2.out.1.1.2.2 (by rw [← c]; exact Nat.not_lt_of_le HT0.out.2.2), fun c => absurd H2.out.1.2.2.1 (by rw [← c]; exact Nat.not_lt_of_le HT0.out.2.2)⟩
    obtain ⟨⟨o0, o1, o2⟩, of, -⟩ := HT.out.1
    have of2 := of 2
    obtain ⟨⟨⟨g0, g1, g2⟩, gf, -⟩, ⟨r0, r1⟩, -, hS, -, -⟩ := HT.out.2.1
    have gf0 := gf 0
    have gf1 := gf 1
    have gf2 := gf 2
    have n1 : bk ≠ G := HT.out.2.2.1
    have n2 : bk ≠ R := HT.out.2.2.2
    have n3 : G ≠ bk := Ne.symm n1
    have n4 : R ≠ bk := Ne.symm n2
    obtain ⟨_, _, he, i2, hpb⟩ := hS 2 t rfl
    cases he
    clear hS of gf
    go_wp2_with fail
    obtain ⟨W, hW, e0, e1, e2, hBW⟩ := put3n (w := w) (w1 := (wS.setCell ⟨bk, 2, none⟩ (.string t))) (B := w.heap.size) (G := G) (.int .i64 A) (.int .i64 B) (.string t) (Below.setCell HT.out.2.1.2.2.2.2.2 (Nat.le_trans H2.out.1.2.2.2.2.2.size HT0.out.2.2) _) (by rw [HT.out.2.1.2.2.2.2.1]; exact Nat.le_refl _) (by rw [cell_otherB n1]; exact g0) (by rw [cell_otherB n1]; exact g1) (by rw [cell_otherB n1]; exact g2)
    rw [← hW]
    refine bodyPost_ret (v := .tuple #[.agg #[.int .i64 A, .int .i64 B, .string t], .bool true]) ?_ rfl ⟨rfl, hBW⟩
    simp [results, Try.results24, go_sem, e0, e1, e2]
end Go.Proofs.Ytadcjdffjhiniaa
