/- The reference's Sqrt. -/
import Derived.Test.YtgmfecncfekjfaaDoorRef2I
import Derived.Test.YtgmfecncfekjfaaDoorHeldR
namespace Go.Proofs.YtgmfecncfekjfaaDoor
open Go.RowKit
attribute [local go_sem] run_eq4

/-- Four cells of one's own, told by a function. -/
def Qt (w : World) (p : Nat) (f : Nat → Nat) : Prop := (∀ j, j < 4 → w.cell? ⟨p, j, none⟩ = some (.int .u64 (f j : Nat))) ∧ (∀ j, j < 4 → w.frozen? ⟨p, j, none⟩ = false) ∧ p < w.heap.size
theorem Qt.call {W w1 : World} {p : Nat} {f : Nat → Nat} (h : Qt W p f) (hb : Below W.heap.size W w1) : Qt w1 p f :=
  ⟨fun j hj => (hb.cell (p := ⟨p, j, none⟩) h.2.2).trans (h.1 j hj), fun j hj => (hb.frozen (p := ⟨p, j, none⟩) h.2.2).trans (h.2.1 j hj), Nat.lt_of_lt_of_le h.2.2 hb.size⟩
theorem Qt.put {W : World} {p : Nat} {f : Nat → Nat} (h : Qt W p f) (i n : Nat) (hi : i < 4) : Qt (W.setCell ⟨p, i, none⟩ (.int .u64 (n : Nat))) p (fun j => if j = i then n else f j) := by
  refine ⟨fun j hj => ?_, fun j hj => by rw [World.frozen?_setCell]; exact h.2.1 j hj, by rw [World.size_setCell]; exact h.2.2⟩
  by_cases hji : j = i
  · subst hji
    rw [World.cell?_setCell_same _ _ _ (h.1 j hj)]
    simp
  · rw [World.cell?_setCell_other _ _ _ _ (by intro x; injection x with x1 x2 x3; exact hji x2.symm)]
    show W.cell? _ = some (.int .u64 ((if j = i then n else f j : Nat) : Int))
    rw [if_neg hji]
    exact h.1 j hj
/-- What the loop of the reference's Sqrt keeps. -/
def SqAt (w wx : World) (m a B E : Nat) (f : Nat → Nat) : Prop := FieldB wx w.heap.size m ∧ NS wx (w.heap.size + 1) a ∧ Pend wx (w.heap.size + 1 + 1) ∧ NS wx B E ∧ Qt wx (B + 1) f ∧ Below w.heap.size w wx
theorem SqAt.call {w W w1 : World} {m a B E : Nat} {f : Nat → Nat} (h : SqAt w W m a B E f) (hb : Below W.heap.size W w1) : SqAt w w1 m a B E f :=
  ⟨h.1.call hb, h.2.1.call hb, h.2.2.1.call hb, h.2.2.2.1.call hb, h.2.2.2.2.1.call hb, below_call0 h.2.2.2.2.2 hb⟩
theorem SqAt.drew {w W : World} {m a B E : Nat} {f : Nat → Nat} (h : SqAt w W m a B E f) : SqAt w W.drew m a B E f := ⟨h.1, h.2.1, h.2.2.1, h.2.2.2.1, h.2.2.2.2.1, Below.drew h.2.2.2.2.2⟩
theorem NS.set {W : World} {b n : Nat} {a : Addr} {v : Value} (h : NS W b n) (hne : a.block ≠ b) : NS (W.setCell a v) b n := ⟨h.1.set hne, by rw [World.size_setCell]; exact h.2⟩
theorem SqAt.put {w W : World} {m a B E : Nat} {f : Nat → Nat} (h : SqAt w W m a B E f) (hB : w.heap.size + 1 + 1 < B) (i n : Nat) (hi : i < 4) : SqAt w (W.setCell ⟨B + 1, i, none⟩ (.int .u64 (n : Nat))) m a B E (fun j => if j = i then n else f j) :=
  ⟨h.1.setB (show B + 1 ≠ w.heap.size by omega), h.2.1.set (show B + 1 ≠ w.heap.size + 1 by omega), h.2.2.1.set (show B + 1 ≠ w.heap.size + 1 + 1 by omega), h.2.2.2.1.set (show B + 1 ≠ B by omega), h.2.2.2.2.1.put i n hi, h.2.2.2.2.2.setCell (show w.heap.size ≤ B + 1 by omega) _⟩
theorem FieldB.factsG {W : World} {b m G : Nat} (h : FieldB W b m) (hG : G = R256 - m) : (W.cell? ⟨b, 0, none⟩ = some (.int .u64 (limb m 0 : Nat)) ∧ W.cell? ⟨b, 1, none⟩ = some (.int .u64 (limb m 1 : Nat)) ∧ W.cell? ⟨b, 2, none⟩ = some (.int .u64 (limb m 2 : Nat)) ∧ W.cell? ⟨b, 3, none⟩ = some (.int .u64 (limb m 3 : Nat))) ∧ (W.cell? ⟨b, 4, none⟩ = some (.int .u64 (limb G 0 : Nat)) ∧ W.cell? ⟨b, 5, none⟩ = some (.int .u64 (limb G 1 : Nat)) ∧ W.cell? ⟨b, 6, none⟩ = some (.int .u64 (limb G 2 : Nat)) ∧ W.cell? ⟨b, 7, none⟩ = some (.int .u64 (limb G 3 : Nat))) ∧ b < W.heap.size := by
  subst hG
  exact ⟨h.1.facts, h.gap, h.2.2⟩

set_option maxRecDepth 100000 in
set_option maxHeartbeats 4000000 in
theorem sqrt2_bad (m a E q r s x0 x1 x2 x3 : Nat) (k1 : ∀ w, Calls Tryd.prog 39 #[.agg #[.int .u64 (limb (m) 0 : Nat), .int .u64 (limb (m) 1 : Nat), .int .u64 (limb (m) 2 : Nat), .int .u64 (limb (m) 3 : Nat), .int .u64 (limb (R256 - (m)) 0 : Nat), .int .u64 (limb (R256 - (m)) 1 : Nat), .int .u64 (limb (R256 - (m)) 2 : Nat), .int .u64 (limb (R256 - (m)) 3 : Nat)], .agg #[.int .u64 (limb (a) 0 : Nat), .int .u64 (limb (a) 1 : Nat), .int .u64 (limb (a) 2 : Nat), .int .u64 (limb (a) 3 : Nat)]] w fun e w' => e = .returned (.bool true) ∧ Below w.heap.size w w') (k2 : ∀ w, Calls Tryd.prog 73 #[.agg #[.int .u64 (limb (m) 0 : Nat), .int .u64 (limb (m) 1 : Nat), .int .u64 (limb (m) 2 : Nat), .int .u64 (limb (m) 3 : Nat)], .agg #[.int .u64 1, .int .u64 0, .int .u64 0, .int .u64 0]] w fun e w' => e = .returned (.tuple #[.agg #[.int .u64 (limb (E) 0 : Nat), .int .u64 (limb (E) 1 : Nat), .int .u64 (limb (E) 2 : Nat), .int .u64 (limb (E) 3 : Nat)], .bool false]) ∧ Below w.heap.size w w') (k3 : ∀ w, Calls Tryd.prog 80 #[.agg #[.int .u64 (limb (m) 0 : Nat), .int .u64 (limb (m) 1 : Nat), .int .u64 (limb (m) 2 : Nat), .int .u64 (limb (m) 3 : Nat), .int .u64 (limb (R256 - (m)) 0 : Nat), .int .u64 (limb (R256 - (m)) 1 : Nat), .int .u64 (limb (R256 - (m)) 2 : Nat), .int .u64 (limb (R256 - (m)) 3 : Nat)], .agg #[.int .u64 (limb (a) 0 : Nat), .int .u64 (limb (a) 1 : Nat), .int .u64 (limb (a) 2 : Nat), .int .u64 (limb (a) 3 : Nat)], .agg #[.int .u64 (limb (q) 0 : Nat), .int .u64 (limb (q) 1 : Nat), .int .u64 (limb (q) 2 : Nat), .int .u64 (limb (q) 3 : Nat)]] w fun e w' => e = .returned (.agg #[.int .u64 (limb (r) 0 : Nat), .int .u64 (limb (r) 1 : Nat), .int .u64 (limb (r) 2 : Nat), .int .u64 (limb (r) 3 : Nat)]) ∧ Below w.heap.size w w') (k4 : ∀ w, Calls Tryd.prog 40 #[.agg #[.int .u64 (limb (m) 0 : Nat), .int .u64 (limb (m) 1 : Nat), .int .u64 (limb (m) 2 : Nat), .int .u64 (limb (m) 3 : Nat), .int .u64 (limb (R256 - (m)) 0 : Nat), .int .u64 (limb (R256 - (m)) 1 : Nat), .int .u64 (limb (R256 - (m)) 2 : Nat), .int .u64 (limb (R256 - (m)) 3 : Nat)], .agg #[.int .u64 (limb (r) 0 : Nat), .int .u64 (limb (r) 1 : Nat), .int .u64 (limb (r) 2 : Nat), .int .u64 (limb (r) 3 : Nat)], .agg #[.int .u64 (limb (r) 0 : Nat), .int .u64 (limb (r) 1 : Nat), .int .u64 (limb (r) 2 : Nat), .int .u64 (limb (r) 3 : Nat)]] w fun e w' => e = .returned (.agg #[.int .u64 (limb (s) 0 : Nat), .int .u64 (limb (s) 1 : Nat), .int .u64 (limb (s) 2 : Nat), .int .u64 (limb (s) 3 : Nat)]) ∧ Below w.heap.size w w')
    (d0 : (limb E 0 : Int) / 4 = (x0 : Nat))
    (d1 : (limb E 1 : Int) / 4 = (x1 : Nat))
    (d2 : (limb E 2 : Int) / 4 = (x2 : Nat))
    (d3 : (limb E 3 : Int) / 4 = (x3 : Nat))
    (l0 : bits .or .u64 (x0 : Int) (IntKind.u64.wrap ((limb E 1 : Int) * 4611686018427387904)) = (limb q 0 : Nat))
    (l1 : bits .or .u64 (x1 : Int) (IntKind.u64.wrap ((limb E 2 : Int) * 4611686018427387904)) = (limb q 1 : Nat))
    (l2 : bits .or .u64 (x2 : Int) (IntKind.u64.wrap ((limb E 3 : Int) * 4611686018427387904)) = (limb q 2 : Nat))
    (hx3 : x3 = limb q 3) (hs : eq4 (limb s 0 : Nat) (limb s 1 : Nat) (limb s 2 : Nat) (limb s 3 : Nat) (limb a 0 : Nat) (limb a 1 : Nat) (limb a 2 : Nat) (limb a 3 : Nat) = false) (w : World) :
    Calls Tryd.prog 55 #[.agg #[.int .u64 (limb (m) 0 : Nat), .int .u64 (limb (m) 1 : Nat), .int .u64 (limb (m) 2 : Nat), .int .u64 (limb (m) 3 : Nat), .int .u64 (limb (R256 - (m)) 0 : Nat), .int .u64 (limb (R256 - (m)) 1 : Nat), .int .u64 (limb (R256 - (m)) 2 : Nat), .int .u64 (limb (R256 - (m)) 3 : Nat)], .agg #[.int .u64 (limb (a) 0 : Nat), .int .u64 (limb (a) 1 : Nat), .int .u64 (limb (a) 2 : Nat), .int .u64 (limb (a) 3 : Nat)], .bool true] w fun e w' => e = .returned (.tuple #[.agg #[.int .u64 0, .int .u64 0, .int .u64 0, .int .u64 0], .int .i64 22]) ∧ Below w.heap.size w w' := by
  obtain ⟨G, hG⟩ : ∃ G, G = R256 - m := ⟨_, rfl⟩
  have HFN : Hid (∀ W t, FieldB ((W : World).alloc (.cells #[.int .u64 (limb m 0 : Nat), .int .u64 (limb m 1 : Nat), .int .u64 (limb m 2 : Nat), .int .u64 (limb m 3 : Nat), .int .u64 (limb (R256 - m) 0 : Nat), .int .u64 (limb (R256 - m) 1 : Nat), .int .u64 (limb (R256 - m) 2 : Nat), .int .u64 (limb (R256 - m) 3 : Nat)] t)) W.heap.size m) := fun W t => FieldB.new W m t
  rw [← hG] at HFN k1 k3 k4
  rw [← hG]
  have HG : Hid (G = R256 - m) := hG
  have K1 : Hid _ := k1
  have K3 : Hid _ := k3
  have K4 : Hid _ := k4
  have K2 : Hid _ := k2
  have HX : Hid (x3 = limb q 3) := hx3
  have wr1 : IntKind.i64.wrap 1 = 1 := by rw [IntKind.wrap_i64]; omega
  have wr2 : IntKind.i64.wrap 2 = 2 := by rw [IntKind.wrap_i64]; omega
  have wr3 : IntKind.i64.wrap 3 = 3 := by rw [IntKind.wrap_i64]; omega
  clear hG hx3 k2 k1 k3 k4
  go_enter Tryd.func55, Tryd.ntmps55
  go_wp2_with fail
  obtain ⟨Y, hY⟩ : ∃ Y, Y = ((w.alloc (.cells #[.int .u64 (limb m 0 : Nat), .int .u64 (limb m 1 : Nat), .int .u64 (limb m 2 : Nat), .int .u64 (limb m 3 : Nat), .int .u64 (limb G 0 : Nat), .int .u64 (limb G 1 : Nat), .int .u64 (limb G 2 : Nat), .int .u64 (limb G 3 : Nat)] 77)).alloc (.cells #[.int .u64 (limb a 0 : Nat), .int .u64 (limb a 1 : Nat), .int .u64 (limb a 2 : Nat), .int .u64 (limb a 3 : Nat)] 24)).alloc (.cells #[.int .u64 0, .int .u64 0, .int .u64 0, .int .u64 0] 24) := ⟨_, rfl⟩
  rw [← hY]
  have HF : Hid (FieldB Y w.heap.size m) := by rw [hY]; exact FieldB.alloc (FieldB.alloc (HFN.out w _))
  have HA : Hid (NS Y (w.heap.size + 1) a) := by
    rw [hY]
    have t := NS.alloc (o := .cells #[.int .u64 0, .int .u64 0, .int .u64 0, .int .u64 0] 24) (NS.new (w.alloc (.cells #[.int .u64 (limb m 0 : Nat), .int .u64 (limb m 1 : Nat), .int .u64 (limb m 2 : Nat), .int .u64 (limb m 3 : Nat), .int .u64 (limb G 0 : Nat), .int .u64 (limb G 1 : Nat), .int .u64 (limb G 2 : Nat), .int .u64 (limb G 3 : Nat)] 77)) a 24)
    simp only [World.size_alloc] at t
    exact t
  have HP : Hid (Pend Y (w.heap.size + 1 + 1)) := by
    rw [hY]
    have t := Pend.new ((w.alloc (.cells #[.int .u64 (limb m 0 : Nat), .int .u64 (limb m 1 : Nat), .int .u64 (limb m 2 : Nat), .int .u64 (limb m 3 : Nat), .int .u64 (limb G 0 : Nat), .int .u64 (limb G 1 : Nat), .int .u64 (limb G 2 : Nat), .int .u64 (limb G 3 : Nat)] 77)).alloc (.cells #[.int .u64 (limb a 0 : Nat), .int .u64 (limb a 1 : Nat), .int .u64 (limb a 2 : Nat), .int .u64 (limb a 3 : Nat)] 24)) 24
    simp only [World.size_alloc] at t
    exact t
  have HW : Hid (Below w.heap.size w Y) := by rw [hY]; exact below_alloc0 (below_alloc0 (below_alloc0 (Below.refl _ _) _) _) _
  clear hY HFN
  obtain ⟨m0, m1, m2, m3⟩ := HF.out.1.facts
  obtain ⟨g0, g1, g2, g3⟩ := HF.out.gap
  rw [← HG.out] at g0 g1 g2 g3
  have mz := HF.out.2.2
  obtain ⟨⟨a0, a1, a2, a3⟩, az⟩ := HA.out.facts
  go_wp2_with fail
  refine (K1.out _).mono ?_
  rintro e w1 ⟨rfl, hq1⟩
  replace HF : Hid (FieldB w1 w.heap.size m) := FieldB.call HF.out hq1
  replace HA : Hid (NS w1 (w.heap.size + 1) a) := NS.call HA.out hq1
  replace HP : Hid (Pend w1 (w.heap.size + 1 + 1)) := Pend.call HP.out hq1
  replace HW : Hid (Below w.heap.size w w1) := below_call0 HW.out hq1
  clear hq1 m0 m1 m2 m3 g0 g1 g2 g3 mz a0 a1 a2 a3 az
  obtain ⟨m0, m1, m2, m3⟩ := HF.out.1.facts
  obtain ⟨g0, g1, g2, g3⟩ := HF.out.gap
  rw [← HG.out] at g0 g1 g2 g3
  have mz := HF.out.2.2
  obtain ⟨⟨a0, a1, a2, a3⟩, az⟩ := HA.out.facts
  go_wp2_with fail
  refine (K2.out _).mono ?_
  rintro e w2 ⟨rfl, hq2⟩
  replace HF : Hid (FieldB w2 w.heap.size m) := FieldB.call HF.out hq2
  replace HA : Hid (NS w2 (w.heap.size + 1) a) := NS.call HA.out hq2
  replace HP : Hid (Pend w2 (w.heap.size + 1 + 1)) := Pend.call HP.out hq2
  replace HW : Hid (Below w.heap.size w w2) := below_call0 HW.out hq2
  clear hq2 m0 m1 m2 m3 g0 g1 g2 g3 mz a0 a1 a2 a3 az
  obtain ⟨B, hB0⟩ : ∃ B, B = w2.heap.size := ⟨_, rfl⟩
  have hB : w.heap.size + 1 + 1 < B := by rw [hB0]; exact HP.out.2.2
  have HS0 : Hid (SqAt w ((w2.alloc (.cells #[.int .u64 (limb E 0 : Nat), .int .u64 (limb E 1 : Nat), .int .u64 (limb E 2 : Nat), .int .u64 (limb E 3 : Nat)] 24)).alloc (.cells #[.int .u64 0, .int .u64 0, .int .u64 0, .int .u64 0] 24)) m a B E (fun _ => 0)) := by
    have t := Pend.new (w2.alloc (.cells #[.int .u64 (limb E 0 : Nat), .int .u64 (limb E 1 : Nat), .int .u64 (limb E 2 : Nat), .int .u64 (limb E 3 : Nat)] 24)) 24
    simp only [World.size_alloc, ← hB0] at t
    exact ⟨FieldB.alloc (FieldB.alloc HF.out), NS.alloc (NS.alloc HA.out), Pend.alloc (Pend.alloc HP.out), by rw [hB0]; exact NS.alloc (NS.new _ _ _), t, below_alloc0 (below_alloc0 HW.out _) _⟩
  have HB0 : Hid (B = w2.heap.size) := hB0
  clear hB0 HF HA HP HW K1 K2
  go_wp2_with fail
  rw [← HB0.out]
  go_loopw [11] (fun v wx => ∃ (i : Nat) (f : Nat → Nat), i ≤ 4 ∧ v = .int .i64 i ∧ (∀ j, j < i → f j = limb q j) ∧ SqAt w wx m a B E f) (fun v _ => 4 - (intOf v).toNat)
  case atStart => exact ⟨0, _, by omega, rfl, fun j hj => absurd hj (by omega), HS0.out⟩
  case round =>
    clear HS0 HB0
    obtain ⟨i, f, hi, rfl, hf, hS⟩ := hrel
    rcases (show i = 0 ∨ i = 1 ∨ i = 2 ∨ i = 3 ∨ i = 4 by omega) with rfl | rfl | rfl | rfl | rfl
    · obtain ⟨⟨e0, e1, e2, e3⟩, ez⟩ := hS.2.2.2.1.facts
      have q0 := hS.2.2.2.2.1.1 0 (by omega)
      have f0 := hS.2.2.2.2.1.2.1 0 (by omega)
      have qz := hS.2.2.2.2.1.2.2
      have X1 : Hid (SqAt w _ m a B E _) := hS.put hB 0 x0 (by omega)
      have X2 : Hid (SqAt w _ m a B E _) := X1.out.put hB 0 (limb q 0) (by omega)
      have HN : Hid (∀ j, j < 1 → (fun j => if j = 0 then limb q 0 else (fun j => if j = 0 then x0 else f j) j) j = limb q j) := by
        intro j hj
        show (if j = 0 then limb q 0 else (if j = 0 then x0 else f j)) = limb q j
        by_cases h : j = 0
        · rw [if_pos h, h]
        · rw [if_neg h, if_neg h]; exact hf j (by omega)
      clear hS hf
      go_wp2_with fail
      refine wp_region_N (fun w' => SqAt w w' m a B E (fun j => if j = 0 then x0 else f j)) 11 12 rfl (by kernel_rfl) ?_
      refine wpAnyN_take (i := 0) (oi := ?o0_0) (v := ?v0_0) ?hi0_0 (by kernel_rfl) (by kernel_rfl) (by kernel_rfl) (by kernel_rfl) (by decide) (by kernel_rfl) ?hQ0_0 ?hy0_0 (SqAt.drew X1.out) ?more0_0
      case hi0_0 => rw [List.getElem?_toArray]; exact rfl
      case hQ0_0 => exact fun _ _ _ h => h
      case hy0_0 =>
        refine Or.inl ⟨by rfl, ?_⟩
        intro w' hSw
        have hS' : SqAt w w' m a B E (fun j => if j = 0 then x0 else f j) := hSw
        obtain ⟨⟨e0, e1, e2, e3⟩, ez⟩ := hS'.2.2.2.1.facts
        have q0 : w'.cell? ⟨B + 1, 0, none⟩ = some (.int .u64 (x0 : Nat)) := hS'.2.2.2.2.1.1 0 (by omega)
        have qz := hS'.2.2.2.2.1.2.2
        clear hSw hS'
        go_simp
        try with_reducible rfl
      simp only [Act.put, List.setIfInBounds_toArray, List.set_cons_zero, List.set_cons_succ]
      refine wpAnyN_take (i := 1) (oi := ?o1_0) (v := ?v1_0) ?hi1_0 (by kernel_rfl) (by kernel_rfl) (by kernel_rfl) (by kernel_rfl) (by decide) (by kernel_rfl) ?hQ1_0 ?hy1_0 (SqAt.drew X1.out) ?more1_0
      case hi1_0 => rw [List.getElem?_toArray]; exact rfl
      case hQ1_0 => exact fun _ _ _ h => h
      case hy1_0 =>
        refine Or.inl ⟨by rfl, ?_⟩
        intro w' hSw
        have hS' : SqAt w w' m a B E (fun j => if j = 0 then x0 else f j) := hSw
        obtain ⟨⟨e0, e1, e2, e3⟩, ez⟩ := hS'.2.2.2.1.facts
        have q0 : w'.cell? ⟨B + 1, 0, none⟩ = some (.int .u64 (x0 : Nat)) := hS'.2.2.2.2.1.1 0 (by omega)
        have qz := hS'.2.2.2.2.1.2.2
        clear hSw hS'
        go_simp
        try with_reducible rfl
      simp only [Act.put, List.setIfInBounds_toArray, List.set_cons_zero, List.set_cons_succ]
      refine wpAnyN_take (i := 2) (oi := ?o2_0) (v := ?v2_0) ?hi2_0 (by kernel_rfl) (by kernel_rfl) (by kernel_rfl) (by kernel_rfl) (by decide) (by kernel_rfl) ?hQ2_0 ?hy2_0 (SqAt.drew X1.out) ?more2_0
      case hi2_0 => rw [List.getElem?_toArray]; exact rfl
      case hQ2_0 => exact fun _ _ _ h => h
      case hy2_0 =>
        refine Or.inl ⟨by rfl, ?_⟩
        intro w' hSw
        have hS' : SqAt w w' m a B E (fun j => if j = 0 then x0 else f j) := hSw
        obtain ⟨⟨e0, e1, e2, e3⟩, ez⟩ := hS'.2.2.2.1.facts
        have q0 : w'.cell? ⟨B + 1, 0, none⟩ = some (.int .u64 (x0 : Nat)) := hS'.2.2.2.2.1.1 0 (by omega)
        have qz := hS'.2.2.2.2.1.2.2
        clear hSw hS'
        go_simp
        try with_reducible rfl
      simp only [Act.put, List.setIfInBounds_toArray, List.set_cons_zero, List.set_cons_succ]
      refine wpAnyN_take (i := 3) (oi := ?o3_0) (v := ?v3_0) ?hi3_0 (by kernel_rfl) (by kernel_rfl) (by kernel_rfl) (by kernel_rfl) (by decide) (by kernel_rfl) ?hQ3_0 ?hy3_0 (SqAt.drew X1.out) ?more3_0
      case hi3_0 => rw [List.getElem?_toArray]; exact rfl
      case hQ3_0 => exact fun _ _ _ h => h
      case hy3_0 =>
        refine Or.inl ⟨by rfl, ?_⟩
        intro w' hSw
        have hS' : SqAt w w' m a B E (fun j => if j = 0 then x0 else f j) := hSw
        obtain ⟨⟨e0, e1, e2, e3⟩, ez⟩ := hS'.2.2.2.1.facts
        have q0 : w'.cell? ⟨B + 1, 0, none⟩ = some (.int .u64 (x0 : Nat)) := hS'.2.2.2.2.1.1 0 (by omega)
        have qz := hS'.2.2.2.2.1.2.2
        clear hSw hS'
        go_simp
        try with_reducible rfl
      simp only [Act.put, List.setIfInBounds_toArray, List.set_cons_zero, List.set_cons_succ]
      refine wpAnyN_take (i := 4) (oi := ?o4_0) (v := ?v4_0) ?hi4_0 (by kernel_rfl) (by kernel_rfl) (by kernel_rfl) (by kernel_rfl) (by decide) (by kernel_rfl) ?hQ4_0 ?hy4_0 (SqAt.drew X1.out) ?more4_0
      case hi4_0 => rw [List.getElem?_toArray]; exact rfl
      case hQ4_0 => exact fun _ _ _ h => h
      case hy4_0 =>
        refine Or.inl ⟨by rfl, ?_⟩
        intro w' hSw
        have hS' : SqAt w w' m a B E (fun j => if j = 0 then x0 else f j) := hSw
        obtain ⟨⟨e0, e1, e2, e3⟩, ez⟩ := hS'.2.2.2.1.facts
        have q0 : w'.cell? ⟨B + 1, 0, none⟩ = some (.int .u64 (x0 : Nat)) := hS'.2.2.2.2.1.1 0 (by omega)
        have qz := hS'.2.2.2.2.1.2.2
        clear hSw hS'
        go_simp
        try with_reducible rfl
      simp only [Act.put, List.setIfInBounds_toArray, List.set_cons_zero, List.set_cons_succ]
      refine wpAnyN_take (i := 5) (oi := ?o5_0) (v := ?v5_0) ?hi5_0 (by kernel_rfl) (by kernel_rfl) (by kernel_rfl) (by kernel_rfl) (by decide) (by kernel_rfl) ?hQ5_0 ?hy5_0 (SqAt.drew X1.out) ?more5_0
      case hi5_0 => rw [List.getElem?_toArray]; exact rfl
      case hQ5_0 => exact fun _ _ _ h => h
      case hy5_0 =>
        refine Or.inl ⟨by rfl, ?_⟩
        intro w' hSw
        have hS' : SqAt w w' m a B E (fun j => if j = 0 then x0 else f j) := hSw
        obtain ⟨⟨e0, e1, e2, e3⟩, ez⟩ := hS'.2.2.2.1.facts
        have q0 : w'.cell? ⟨B + 1, 0, none⟩ = some (.int .u64 (x0 : Nat)) := hS'.2.2.2.2.1.1 0 (by omega)
        have qz := hS'.2.2.2.2.1.2.2
        clear hSw hS'
        go_simp
        try with_reducible rfl
      simp only [Act.put, List.setIfInBounds_toArray, List.set_cons_zero, List.set_cons_succ]
      refine wpAnyN_take (i := 6) (oi := ?o6_0) (v := ?v6_0) ?hi6_0 (by kernel_rfl) (by kernel_rfl) (by kernel_rfl) (by kernel_rfl) (by decide) (by kernel_rfl) ?hQ6_0 ?hy6_0 (SqAt.drew X1.out) ?more6_0
      case hi6_0 => rw [List.getElem?_toArray]; exact rfl
      case hQ6_0 => exact fun _ _ _ h => h
      case hy6_0 =>
        refine Or.inl ⟨by rfl, ?_⟩
        intro w' hSw
        have hS' : SqAt w w' m a B E (fun j => if j = 0 then x0 else f j) := hSw
        obtain ⟨⟨e0, e1, e2, e3⟩, ez⟩ := hS'.2.2.2.1.facts
        have q0 : w'.cell? ⟨B + 1, 0, none⟩ = some (.int .u64 (x0 : Nat)) := hS'.2.2.2.2.1.1 0 (by omega)
        have qz := hS'.2.2.2.2.1.2.2
        clear hSw hS'
        go_simp
        try with_reducible rfl
      simp only [Act.put, List.setIfInBounds_toArray, List.set_cons_zero, List.set_cons_succ]
      refine wpAnyN_take (i := 7) (oi := ?o7_0) (v := ?v7_0) ?hi7_0 (by kernel_rfl) (by kernel_rfl) (by kernel_rfl) (by kernel_rfl) (by decide) (by kernel_rfl) ?hQ7_0 ?hy7_0 (SqAt.drew X1.out) ?more7_0
      case hi7_0 => rw [List.getElem?_toArray]; exact rfl
      case hQ7_0 => exact fun _ _ _ h => h
      case hy7_0 =>
        refine Or.inl ⟨by rfl, ?_⟩
        intro w' hSw
        have hS' : SqAt w w' m a B E (fun j => if j = 0 then x0 else f j) := hSw
        obtain ⟨⟨e0, e1, e2, e3⟩, ez⟩ := hS'.2.2.2.1.facts
        have q0 : w'.cell? ⟨B + 1, 0, none⟩ = some (.int .u64 (x0 : Nat)) := hS'.2.2.2.2.1.1 0 (by omega)
        have qz := hS'.2.2.2.2.1.2.2
        clear hSw hS'
        go_simp
        try with_reducible rfl
      simp only [Act.put, List.setIfInBounds_toArray, List.set_cons_zero, List.set_cons_succ]
      refine wpAnyN_take (i := 8) (oi := ?o8_0) (v := ?v8_0) ?hi8_0 (by kernel_rfl) (by kernel_rfl) (by kernel_rfl) (by kernel_rfl) (by decide) (by kernel_rfl) ?hQ8_0 ?hy8_0 (SqAt.drew X1.out) ?more8_0
      case hi8_0 => rw [List.getElem?_toArray]; exact rfl
      case hQ8_0 => exact fun _ _ _ h => h
      case hy8_0 =>
        refine Or.inl ⟨by rfl, ?_⟩
        intro w' hSw
        have hS' : SqAt w w' m a B E (fun j => if j = 0 then x0 else f j) := hSw
        obtain ⟨⟨e0, e1, e2, e3⟩, ez⟩ := hS'.2.2.2.1.facts
        have q0 : w'.cell? ⟨B + 1, 0, none⟩ = some (.int .u64 (x0 : Nat)) := hS'.2.2.2.2.1.1 0 (by omega)
        have qz := hS'.2.2.2.2.1.2.2
        clear hSw hS'
        go_simp
        try with_reducible rfl
      simp only [Act.put, List.setIfInBounds_toArray, List.set_cons_zero, List.set_cons_succ]
      refine wpAnyN_take (i := 9) (oi := ?o9_0) (v := ?v9_0) ?hi9_0 (by kernel_rfl) (by kernel_rfl) (by kernel_rfl) (by kernel_rfl) (by decide) (by kernel_rfl) ?hQ9_0 ?hy9_0 (SqAt.drew X1.out) ?more9_0
      case hi9_0 => rw [List.getElem?_toArray]; exact rfl
      case hQ9_0 => exact fun _ _ _ h => h
      case hy9_0 =>
        refine Or.inl ⟨by rfl, ?_⟩
        intro w' hSw
        have hS' : SqAt w w' m a B E (fun j => if j = 0 then x0 else f j) := hSw
        obtain ⟨⟨e0, e1, e2, e3⟩, ez⟩ := hS'.2.2.2.1.facts
        have q0 : w'.cell? ⟨B + 1, 0, none⟩ = some (.int .u64 (x0 : Nat)) := hS'.2.2.2.2.1.1 0 (by omega)
        have qz := hS'.2.2.2.2.1.2.2
        clear hSw hS'
        go_simp
        try with_reducible rfl
      simp only [Act.put, List.setIfInBounds_toArray, List.set_cons_zero, List.set_cons_succ]
      refine wpAnyN_take (i := 10) (oi := ?o10_0) (v := ?v10_0) ?hi10_0 (by kernel_rfl) (by kernel_rfl) (by kernel_rfl) (by kernel_rfl) (by decide) (by kernel_rfl) ?hQ10_0 ?hy10_0 (SqAt.drew X1.out) ?more10_0
      case hi10_0 => rw [List.getElem?_toArray]; exact rfl
      case hQ10_0 => exact fun _ _ _ h => h
      case hy10_0 =>
        refine Or.inl ⟨by rfl, ?_⟩
        intro w' hSw
        have hS' : SqAt w w' m a B E (fun j => if j = 0 then x0 else f j) := hSw
        obtain ⟨⟨e0, e1, e2, e3⟩, ez⟩ := hS'.2.2.2.1.facts
        have q0 : w'.cell? ⟨B + 1, 0, none⟩ = some (.int .u64 (x0 : Nat)) := hS'.2.2.2.2.1.1 0 (by omega)
        have qz := hS'.2.2.2.2.1.2.2
        clear hSw hS'
        go_simp
        try with_reducible rfl
      simp only [Act.put, List.setIfInBounds_toArray, List.set_cons_zero, List.set_cons_succ]
      refine wpAnyN_one (i := 11) (o := ?o11_0) (by kernel_rfl) ?hi11_0 ?hw11_0 ?st11_0
      case hi11_0 => rw [List.getElem?_toArray]; exact rfl
      case hw11_0 => exact rfl
      intro K hK
      have HK11 : Hid _ := hK
      clear hK
      go_simp
      refine HK11.out _ _ ⟨fun h => absurd h (by decide +kernel), ?_⟩
      clear HK11 K
      try simp only [Act.put, List.setIfInBounds_toArray, List.set_cons_zero, List.set_cons_succ]
      refine wpAnyN_done (by kernel_rfl) ?_ _
      go_wp2_with fail
      go_roundw
      case rel => exact ⟨1, _, by omega, by first | rfl | go_num, HN.out, X2.out.drew⟩
      case measure => simp [intOf]
    · obtain ⟨⟨e0, e1, e2, e3⟩, ez⟩ := hS.2.2.2.1.facts
      have q0 := hS.2.2.2.2.1.1 1 (by omega)
      have f0 := hS.2.2.2.2.1.2.1 1 (by omega)
      have qz := hS.2.2.2.2.1.2.2
      have X1 : Hid (SqAt w _ m a B E _) := hS.put hB 1 x1 (by omega)
      have X2 : Hid (SqAt w _ m a B E _) := X1.out.put hB 1 (limb q 1) (by omega)
      have HN : Hid (∀ j, j < 2 → (fun j => if j = 1 then limb q 1 else (fun j => if j = 1 then x1 else f j) j) j = limb q j) := by
        intro j hj
        show (if j = 1 then limb q 1 else (if j = 1 then x1 else f j)) = limb q j
        by_cases h : j = 1
        · rw [if_pos h, h]
        · rw [if_neg h, if_neg h]; exact hf j (by omega)
      clear hS hf
      go_wp2_with fail
      refine wp_region_N (fun w' => SqAt w w' m a B E (fun j => if j = 1 then x1 else f j)) 11 12 rfl (by kernel_rfl) ?_
      refine wpAnyN_take (i := 0) (oi := ?o0_1) (v := ?v0_1) ?hi0_1 (by kernel_rfl) (by kernel_rfl) (by kernel_rfl) (by kernel_rfl) (by decide) (by kernel_rfl) ?hQ0_1 ?hy0_1 (SqAt.drew X1.out) ?more0_1
      case hi0_1 => rw [List.getElem?_toArray]; exact rfl
      case hQ0_1 => exact fun _ _ _ h => h
      case hy0_1 =>
        refine Or.inl ⟨by rfl, ?_⟩
        intro w' hSw
        have hS' : SqAt w w' m a B E (fun j => if j = 1 then x1 else f j) := hSw
        obtain ⟨⟨e0, e1, e2, e3⟩, ez⟩ := hS'.2.2.2.1.facts
        have q0 : w'.cell? ⟨B + 1, 1, none⟩ = some (.int .u64 (x1 : Nat)) := hS'.2.2.2.2.1.1 1 (by omega)
        have qz := hS'.2.2.2.2.1.2.2
        clear hSw hS'
        go_simp
        try with_reducible rfl
      simp only [Act.put, List.setIfInBounds_toArray, List.set_cons_zero, List.set_cons_succ]
      refine wpAnyN_take (i := 1) (oi := ?o1_1) (v := ?v1_1) ?hi1_1 (by kernel_rfl) (by kernel_rfl) (by kernel_rfl) (by kernel_rfl) (by decide) (by kernel_rfl) ?hQ1_1 ?hy1_1 (SqAt.drew X1.out) ?more1_1
      case hi1_1 => rw [List.getElem?_toArray]; exact rfl
      case hQ1_1 => exact fun _ _ _ h => h
      case hy1_1 =>
        refine Or.inl ⟨by rfl, ?_⟩
        intro w' hSw
        have hS' : SqAt w w' m a B E (fun j => if j = 1 then x1 else f j) := hSw
        obtain ⟨⟨e0, e1, e2, e3⟩, ez⟩ := hS'.2.2.2.1.facts
        have q0 : w'.cell? ⟨B + 1, 1, none⟩ = some (.int .u64 (x1 : Nat)) := hS'.2.2.2.2.1.1 1 (by omega)
        have qz := hS'.2.2.2.2.1.2.2
        clear hSw hS'
        go_simp
        try with_reducible rfl
      simp only [Act.put, List.setIfInBounds_toArray, List.set_cons_zero, List.set_cons_succ]
      refine wpAnyN_take (i := 2) (oi := ?o2_1) (v := ?v2_1) ?hi2_1 (by kernel_rfl) (by kernel_rfl) (by kernel_rfl) (by kernel_rfl) (by decide) (by kernel_rfl) ?hQ2_1 ?hy2_1 (SqAt.drew X1.out) ?more2_1
      case hi2_1 => rw [List.getElem?_toArray]; exact rfl
      case hQ2_1 => exact fun _ _ _ h => h
      case hy2_1 =>
        refine Or.inl ⟨by rfl, ?_⟩
        intro w' hSw
        have hS' : SqAt w w' m a B E (fun j => if j = 1 then x1 else f j) := hSw
        obtain ⟨⟨e0, e1, e2, e3⟩, ez⟩ := hS'.2.2.2.1.facts
        have q0 : w'.cell? ⟨B + 1, 1, none⟩ = some (.int .u64 (x1 : Nat)) := hS'.2.2.2.2.1.1 1 (by omega)
        have qz := hS'.2.2.2.2.1.2.2
        clear hSw hS'
        go_simp
        try with_reducible rfl
      simp only [Act.put, List.setIfInBounds_toArray, List.set_cons_zero, List.set_cons_succ]
      refine wpAnyN_take (i := 3) (oi := ?o3_1) (v := ?v3_1) ?hi3_1 (by kernel_rfl) (by kernel_rfl) (by kernel_rfl) (by kernel_rfl) (by decide) (by kernel_rfl) ?hQ3_1 ?hy3_1 (SqAt.drew X1.out) ?more3_1
      case hi3_1 => rw [List.getElem?_toArray]; exact rfl
      case hQ3_1 => exact fun _ _ _ h => h
      case hy3_1 =>
        refine Or.inl ⟨by rfl, ?_⟩
        intro w' hSw
        have hS' : SqAt w w' m a B E (fun j => if j = 1 then x1 else f j) := hSw
        obtain ⟨⟨e0, e1, e2, e3⟩, ez⟩ := hS'.2.2.2.1.facts
        have q0 : w'.cell? ⟨B + 1, 1, none⟩ = some (.int .u64 (x1 : Nat)) := hS'.2.2.2.2.1.1 1 (by omega)
        have qz := hS'.2.2.2.2.1.2.2
        clear hSw hS'
        go_simp
        try with_reducible rfl
      simp only [Act.put, List.setIfInBounds_toArray, List.set_cons_zero, List.set_cons_succ]
      refine wpAnyN_take (i := 4) (oi := ?o4_1) (v := ?v4_1) ?hi4_1 (by kernel_rfl) (by kernel_rfl) (by kernel_rfl) (by kernel_rfl) (by decide) (by kernel_rfl) ?hQ4_1 ?hy4_1 (SqAt.drew X1.out) ?more4_1
      case hi4_1 => rw [List.getElem?_toArray]; exact rfl
      case hQ4_1 => exact fun _ _ _ h => h
      case hy4_1 =>
        refine Or.inl ⟨by rfl, ?_⟩
        intro w' hSw
        have hS' : SqAt w w' m a B E (fun j => if j = 1 then x1 else f j) := hSw
        obtain ⟨⟨e0, e1, e2, e3⟩, ez⟩ := hS'.2.2.2.1.facts
        have q0 : w'.cell? ⟨B + 1, 1, none⟩ = some (.int .u64 (x1 : Nat)) := hS'.2.2.2.2.1.1 1 (by omega)
        have qz := hS'.2.2.2.2.1.2.2
        clear hSw hS'
        go_simp
        try with_reducible rfl
      simp only [Act.put, List.setIfInBounds_toArray, List.set_cons_zero, List.set_cons_succ]
      refine wpAnyN_take (i := 5) (oi := ?o5_1) (v := ?v5_1) ?hi5_1 (by kernel_rfl) (by kernel_rfl) (by kernel_rfl) (by kernel_rfl) (by decide) (by kernel_rfl) ?hQ5_1 ?hy5_1 (SqAt.drew X1.out) ?more5_1
      case hi5_1 => rw [List.getElem?_toArray]; exact rfl
      case hQ5_1 => exact fun _ _ _ h => h
      case hy5_1 =>
        refine Or.inl ⟨by rfl, ?_⟩
        intro w' hSw
        have hS' : SqAt w w' m a B E (fun j => if j = 1 then x1 else f j) := hSw
        obtain ⟨⟨e0, e1, e2, e3⟩, ez⟩ := hS'.2.2.2.1.facts
        have q0 : w'.cell? ⟨B + 1, 1, none⟩ = some (.int .u64 (x1 : Nat)) := hS'.2.2.2.2.1.1 1 (by omega)
        have qz := hS'.2.2.2.2.1.2.2
        clear hSw hS'
        go_simp
        try with_reducible rfl
      simp only [Act.put, List.setIfInBounds_toArray, List.set_cons_zero, List.set_cons_succ]
      refine wpAnyN_take (i := 6) (oi := ?o6_1) (v := ?v6_1) ?hi6_1 (by kernel_rfl) (by kernel_rfl) (by kernel_rfl) (by kernel_rfl) (by decide) (by kernel_rfl) ?hQ6_1 ?hy6_1 (SqAt.drew X1.out) ?more6_1
      case hi6_1 => rw [List.getElem?_toArray]; exact rfl
      case hQ6_1 => exact fun _ _ _ h => h
      case hy6_1 =>
        refine Or.inl ⟨by rfl, ?_⟩
        intro w' hSw
        have hS' : SqAt w w' m a B E (fun j => if j = 1 then x1 else f j) := hSw
        obtain ⟨⟨e0, e1, e2, e3⟩, ez⟩ := hS'.2.2.2.1.facts
        have q0 : w'.cell? ⟨B + 1, 1, none⟩ = some (.int .u64 (x1 : Nat)) := hS'.2.2.2.2.1.1 1 (by omega)
        have qz := hS'.2.2.2.2.1.2.2
        clear hSw hS'
        go_simp
        try with_reducible rfl
      simp only [Act.put, List.setIfInBounds_toArray, List.set_cons_zero, List.set_cons_succ]
      refine wpAnyN_take (i := 7) (oi := ?o7_1) (v := ?v7_1) ?hi7_1 (by kernel_rfl) (by kernel_rfl) (by kernel_rfl) (by kernel_rfl) (by decide) (by kernel_rfl) ?hQ7_1 ?hy7_1 (SqAt.drew X1.out) ?more7_1
      case hi7_1 => rw [List.getElem?_toArray]; exact rfl
      case hQ7_1 => exact fun _ _ _ h => h
      case hy7_1 =>
        refine Or.inl ⟨by rfl, ?_⟩
        intro w' hSw
        have hS' : SqAt w w' m a B E (fun j => if j = 1 then x1 else f j) := hSw
        obtain ⟨⟨e0, e1, e2, e3⟩, ez⟩ := hS'.2.2.2.1.facts
        have q0 : w'.cell? ⟨B + 1, 1, none⟩ = some (.int .u64 (x1 : Nat)) := hS'.2.2.2.2.1.1 1 (by omega)
        have qz := hS'.2.2.2.2.1.2.2
        clear hSw hS'
        go_simp
        try with_reducible rfl
      simp only [Act.put, List.setIfInBounds_toArray, List.set_cons_zero, List.set_cons_succ]
      refine wpAnyN_take (i := 8) (oi := ?o8_1) (v := ?v8_1) ?hi8_1 (by kernel_rfl) (by kernel_rfl) (by kernel_rfl) (by kernel_rfl) (by decide) (by kernel_rfl) ?hQ8_1 ?hy8_1 (SqAt.drew X1.out) ?more8_1
      case hi8_1 => rw [List.getElem?_toArray]; exact rfl
      case hQ8_1 => exact fun _ _ _ h => h
      case hy8_1 =>
        refine Or.inl ⟨by rfl, ?_⟩
        intro w' hSw
        have hS' : SqAt w w' m a B E (fun j => if j = 1 then x1 else f j) := hSw
        obtain ⟨⟨e0, e1, e2, e3⟩, ez⟩ := hS'.2.2.2.1.facts
        have q0 : w'.cell? ⟨B + 1, 1, none⟩ = some (.int .u64 (x1 : Nat)) := hS'.2.2.2.2.1.1 1 (by omega)
        have qz := hS'.2.2.2.2.1.2.2
        clear hSw hS'
        go_simp
        try with_reducible rfl
      simp only [Act.put, List.setIfInBounds_toArray, List.set_cons_zero, List.set_cons_succ]
      refine wpAnyN_take (i := 9) (oi := ?o9_1) (v := ?v9_1) ?hi9_1 (by kernel_rfl) (by kernel_rfl) (by kernel_rfl) (by kernel_rfl) (by decide) (by kernel_rfl) ?hQ9_1 ?hy9_1 (SqAt.drew X1.out) ?more9_1
      case hi9_1 => rw [List.getElem?_toArray]; exact rfl
      case hQ9_1 => exact fun _ _ _ h => h
      case hy9_1 =>
        refine Or.inl ⟨by rfl, ?_⟩
        intro w' hSw
        have hS' : SqAt w w' m a B E (fun j => if j = 1 then x1 else f j) := hSw
        obtain ⟨⟨e0, e1, e2, e3⟩, ez⟩ := hS'.2.2.2.1.facts
        have q0 : w'.cell? ⟨B + 1, 1, none⟩ = some (.int .u64 (x1 : Nat)) := hS'.2.2.2.2.1.1 1 (by omega)
        have qz := hS'.2.2.2.2.1.2.2
        clear hSw hS'
        go_simp
        try with_reducible rfl
      simp only [Act.put, List.setIfInBounds_toArray, List.set_cons_zero, List.set_cons_succ]
      refine wpAnyN_take (i := 10) (oi := ?o10_1) (v := ?v10_1) ?hi10_1 (by kernel_rfl) (by kernel_rfl) (by kernel_rfl) (by kernel_rfl) (by decide) (by kernel_rfl) ?hQ10_1 ?hy10_1 (SqAt.drew X1.out) ?more10_1
      case hi10_1 => rw [List.getElem?_toArray]; exact rfl
      case hQ10_1 => exact fun _ _ _ h => h
      case hy10_1 =>
        refine Or.inl ⟨by rfl, ?_⟩
        intro w' hSw
        have hS' : SqAt w w' m a B E (fun j => if j = 1 then x1 else f j) := hSw
        obtain ⟨⟨e0, e1, e2, e3⟩, ez⟩ := hS'.2.2.2.1.facts
        have q0 : w'.cell? ⟨B + 1, 1, none⟩ = some (.int .u64 (x1 : Nat)) := hS'.2.2.2.2.1.1 1 (by omega)
        have qz := hS'.2.2.2.2.1.2.2
        clear hSw hS'
        go_simp
        try with_reducible rfl
      simp only [Act.put, List.setIfInBounds_toArray, List.set_cons_zero, List.set_cons_succ]
      refine wpAnyN_one (i := 11) (o := ?o11_1) (by kernel_rfl) ?hi11_1 ?hw11_1 ?st11_1
      case hi11_1 => rw [List.getElem?_toArray]; exact rfl
      case hw11_1 => exact rfl
      intro K hK
      have HK11 : Hid _ := hK
      clear hK
      go_simp
      refine HK11.out _ _ ⟨fun h => absurd h (by decide +kernel), ?_⟩
      clear HK11 K
      try simp only [Act.put, List.setIfInBounds_toArray, List.set_cons_zero, List.set_cons_succ]
      refine wpAnyN_done (by kernel_rfl) ?_ _
      go_wp2_with fail
      go_roundw
      case rel => exact ⟨2, _, by omega, by first | rfl | go_num, HN.out, X2.out.drew⟩
      case measure => simp [intOf]
    · obtain ⟨⟨e0, e1, e2, e3⟩, ez⟩ := hS.2.2.2.1.facts
      have q0 := hS.2.2.2.2.1.1 2 (by omega)
      have f0 := hS.2.2.2.2.1.2.1 2 (by omega)
      have qz := hS.2.2.2.2.1.2.2
      have X1 : Hid (SqAt w _ m a B E _) := hS.put hB 2 x2 (by omega)
      have X2 : Hid (SqAt w _ m a B E _) := X1.out.put hB 2 (limb q 2) (by omega)
      have HN : Hid (∀ j, j < 3 → (fun j => if j = 2 then limb q 2 else (fun j => if j = 2 then x2 else f j) j) j = limb q j) := by
        intro j hj
        show (if j = 2 then limb q 2 else (if j = 2 then x2 else f j)) = limb q j
        by_cases h : j = 2
        · rw [if_pos h, h]
        · rw [if_neg h, if_neg h]; exact hf j (by omega)
      clear hS hf
      go_wp2_with fail
      refine wp_region_N (fun w' => SqAt w w' m a B E (fun j => if j = 2 then x2 else f j)) 11 12 rfl (by kernel_rfl) ?_
      refine wpAnyN_take (i := 0) (oi := ?o0_2) (v := ?v0_2) ?hi0_2 (by kernel_rfl) (by kernel_rfl) (by kernel_rfl) (by kernel_rfl) (by decide) (by kernel_rfl) ?hQ0_2 ?hy0_2 (SqAt.drew X1.out) ?more0_2
      case hi0_2 => rw [List.getElem?_toArray]; exact rfl
      case hQ0_2 => exact fun _ _ _ h => h
      case hy0_2 =>
        refine Or.inl ⟨by rfl, ?_⟩
        intro w' hSw
        have hS' : SqAt w w' m a B E (fun j => if j = 2 then x2 else f j) := hSw
        obtain ⟨⟨e0, e1, e2, e3⟩, ez⟩ := hS'.2.2.2.1.facts
        have q0 : w'.cell? ⟨B + 1, 2, none⟩ = some (.int .u64 (x2 : Nat)) := hS'.2.2.2.2.1.1 2 (by omega)
        have qz := hS'.2.2.2.2.1.2.2
        clear hSw hS'
        go_simp
        try with_reducible rfl
      simp only [Act.put, List.setIfInBounds_toArray, List.set_cons_zero, List.set_cons_succ]
      refine wpAnyN_take (i := 1) (oi := ?o1_2) (v := ?v1_2) ?hi1_2 (by kernel_rfl) (by kernel_rfl) (by kernel_rfl) (by kernel_rfl) (by decide) (by kernel_rfl) ?hQ1_2 ?hy1_2 (SqAt.drew X1.out) ?more1_2
      case hi1_2 => rw [List.getElem?_toArray]; exact rfl
      case hQ1_2 => exact fun _ _ _ h => h
      case hy1_2 =>
        refine Or.inl ⟨by rfl, ?_⟩
        intro w' hSw
        have hS' : SqAt w w' m a B E (fun j => if j = 2 then x2 else f j) := hSw
        obtain ⟨⟨e0, e1, e2, e3⟩, ez⟩ := hS'.2.2.2.1.facts
        have q0 : w'.cell? ⟨B + 1, 2, none⟩ = some (.int .u64 (x2 : Nat)) := hS'.2.2.2.2.1.1 2 (by omega)
        have qz := hS'.2.2.2.2.1.2.2
        clear hSw hS'
        go_simp
        try with_reducible rfl
      simp only [Act.put, List.setIfInBounds_toArray, List.set_cons_zero, List.set_cons_succ]
      refine wpAnyN_take (i := 2) (oi := ?o2_2) (v := ?v2_2) ?hi2_2 (by kernel_rfl) (by kernel_rfl) (by kernel_rfl) (by kernel_rfl) (by decide) (by kernel_rfl) ?hQ2_2 ?hy2_2 (SqAt.drew X1.out) ?more2_2
      case hi2_2 => rw [List.getElem?_toArray]; exact rfl
      case hQ2_2 => exact fun _ _ _ h => h
      case hy2_2 =>
        refine Or.inl ⟨by rfl, ?_⟩
        intro w' hSw
        have hS' : SqAt w w' m a B E (fun j => if j = 2 then x2 else f j) := hSw
        obtain ⟨⟨e0, e1, e2, e3⟩, ez⟩ := hS'.2.2.2.1.facts
        have q0 : w'.cell? ⟨B + 1, 2, none⟩ = some (.int .u64 (x2 : Nat)) := hS'.2.2.2.2.1.1 2 (by omega)
        have qz := hS'.2.2.2.2.1.2.2
        clear hSw hS'
        go_simp
        try with_reducible rfl
      simp only [Act.put, List.setIfInBounds_toArray, List.set_cons_zero, List.set_cons_succ]
      refine wpAnyN_take (i := 3) (oi := ?o3_2) (v := ?v3_2) ?hi3_2 (by kernel_rfl) (by kernel_rfl) (by kernel_rfl) (by kernel_rfl) (by decide) (by kernel_rfl) ?hQ3_2 ?hy3_2 (SqAt.drew X1.out) ?more3_2
      case hi3_2 => rw [List.getElem?_toArray]; exact rfl
      case hQ3_2 => exact fun _ _ _ h => h
      case hy3_2 =>
        refine Or.inl ⟨by rfl, ?_⟩
        intro w' hSw
        have hS' : SqAt w w' m a B E (fun j => if j = 2 then x2 else f j) := hSw
        obtain ⟨⟨e0, e1, e2, e3⟩, ez⟩ := hS'.2.2.2.1.facts
        have q0 : w'.cell? ⟨B + 1, 2, none⟩ = some (.int .u64 (x2 : Nat)) := hS'.2.2.2.2.1.1 2 (by omega)
        have qz := hS'.2.2.2.2.1.2.2
        clear hSw hS'
        go_simp
        try with_reducible rfl
      simp only [Act.put, List.setIfInBounds_toArray, List.set_cons_zero, List.set_cons_succ]
      refine wpAnyN_take (i := 4) (oi := ?o4_2) (v := ?v4_2) ?hi4_2 (by kernel_rfl) (by kernel_rfl) (by kernel_rfl) (by kernel_rfl) (by decide) (by kernel_rfl) ?hQ4_2 ?hy4_2 (SqAt.drew X1.out) ?more4_2
      case hi4_2 => rw [List.getElem?_toArray]; exact rfl
      case hQ4_2 => exact fun _ _ _ h => h
      case hy4_2 =>
        refine Or.inl ⟨by rfl, ?_⟩
        intro w' hSw
        have hS' : SqAt w w' m a B E (fun j => if j = 2 then x2 else f j) := hSw
        obtain ⟨⟨e0, e1, e2, e3⟩, ez⟩ := hS'.2.2.2.1.facts
        have q0 : w'.cell? ⟨B + 1, 2, none⟩ = some (.int .u64 (x2 : Nat)) := hS'.2.2.2.2.1.1 2 (by omega)
        have qz := hS'.2.2.2.2.1.2.2
        clear hSw hS'
        go_simp
        try with_reducible rfl
      simp only [Act.put, List.setIfInBounds_toArray, List.set_cons_zero, List.set_cons_succ]
      refine wpAnyN_take (i := 5) (oi := ?o5_2) (v := ?v5_2) ?hi5_2 (by kernel_rfl) (by kernel_rfl) (by kernel_rfl) (by kernel_rfl) (by decide) (by kernel_rfl) ?hQ5_2 ?hy5_2 (SqAt.drew X1.out) ?more5_2
      case hi5_2 => rw [List.getElem?_toArray]; exact rfl
      case hQ5_2 => exact fun _ _ _ h => h
      case hy5_2 =>
        refine Or.inl ⟨by rfl, ?_⟩
        intro w' hSw
        have hS' : SqAt w w' m a B E (fun j => if j = 2 then x2 else f j) := hSw
        obtain ⟨⟨e0, e1, e2, e3⟩, ez⟩ := hS'.2.2.2.1.facts
        have q0 : w'.cell? ⟨B + 1, 2, none⟩ = some (.int .u64 (x2 : Nat)) := hS'.2.2.2.2.1.1 2 (by omega)
        have qz := hS'.2.2.2.2.1.2.2
        clear hSw hS'
        go_simp
        try with_reducible rfl
      simp only [Act.put, List.setIfInBounds_toArray, List.set_cons_zero, List.set_cons_succ]
      refine wpAnyN_take (i := 6) (oi := ?o6_2) (v := ?v6_2) ?hi6_2 (by kernel_rfl) (by kernel_rfl) (by kernel_rfl) (by kernel_rfl) (by decide) (by kernel_rfl) ?hQ6_2 ?hy6_2 (SqAt.drew X1.out) ?more6_2
      case hi6_2 => rw [List.getElem?_toArray]; exact rfl
      case hQ6_2 => exact fun _ _ _ h => h
      case hy6_2 =>
        refine Or.inl ⟨by rfl, ?_⟩
        intro w' hSw
        have hS' : SqAt w w' m a B E (fun j => if j = 2 then x2 else f j) := hSw
        obtain ⟨⟨e0, e1, e2, e3⟩, ez⟩ := hS'.2.2.2.1.facts
        have q0 : w'.cell? ⟨B + 1, 2, none⟩ = some (.int .u64 (x2 : Nat)) := hS'.2.2.2.2.1.1 2 (by omega)
        have qz := hS'.2.2.2.2.1.2.2
        clear hSw hS'
        go_simp
        try with_reducible rfl
      simp only [Act.put, List.setIfInBounds_toArray, List.set_cons_zero, List.set_cons_succ]
      refine wpAnyN_take (i := 7) (oi := ?o7_2) (v := ?v7_2) ?hi7_2 (by kernel_rfl) (by kernel_rfl) (by kernel_rfl) (by kernel_rfl) (by decide) (by kernel_rfl) ?hQ7_2 ?hy7_2 (SqAt.drew X1.out) ?more7_2
      case hi7_2 => rw [List.getElem?_toArray]; exact rfl
      case hQ7_2 => exact fun _ _ _ h => h
      case hy7_2 =>
        refine Or.inl ⟨by rfl, ?_⟩
        intro w' hSw
        have hS' : SqAt w w' m a B E (fun j => if j = 2 then x2 else f j) := hSw
        obtain ⟨⟨e0, e1, e2, e3⟩, ez⟩ := hS'.2.2.2.1.facts
        have q0 : w'.cell? ⟨B + 1, 2, none⟩ = some (.int .u64 (x2 : Nat)) := hS'.2.2.2.2.1.1 2 (by omega)
        have qz := hS'.2.2.2.2.1.2.2
        clear hSw hS'
        go_simp
        try with_reducible rfl
      simp only [Act.put, List.setIfInBounds_toArray, List.set_cons_zero, List.set_cons_succ]
      refine wpAnyN_take (i := 8) (oi := ?o8_2) (v := ?v8_2) ?hi8_2 (by kernel_rfl) (by kernel_rfl) (by kernel_rfl) (by kernel_rfl) (by decide) (by kernel_rfl) ?hQ8_2 ?hy8_2 (SqAt.drew X1.out) ?more8_2
      case hi8_2 => rw [List.getElem?_toArray]; exact rfl
      case hQ8_2 => exact fun _ _ _ h => h
      case hy8_2 =>
        refine Or.inl ⟨by rfl, ?_⟩
        intro w' hSw
        have hS' : SqAt w w' m a B E (fun j => if j = 2 then x2 else f j) := hSw
        obtain ⟨⟨e0, e1, e2, e3⟩, ez⟩ := hS'.2.2.2.1.facts
        have q0 : w'.cell? ⟨B + 1, 2, none⟩ = some (.int .u64 (x2 : Nat)) := hS'.2.2.2.2.1.1 2 (by omega)
        have qz := hS'.2.2.2.2.1.2.2
        clear hSw hS'
        go_simp
        try with_reducible rfl
      simp only [Act.put, List.setIfInBounds_toArray, List.set_cons_zero, List.set_cons_succ]
      refine wpAnyN_take (i := 9) (oi := ?o9_2) (v := ?v9_2) ?hi9_2 (by kernel_rfl) (by kernel_rfl) (by kernel_rfl) (by kernel_rfl) (by decide) (by kernel_rfl) ?hQ9_2 ?hy9_2 (SqAt.drew X1.out) ?more9_2
      case hi9_2 => rw [List.getElem?_toArray]; exact rfl
      case hQ9_2 => exact fun _ _ _ h => h
      case hy9_2 =>
        refine Or.inl ⟨by rfl, ?_⟩
        intro w' hSw
        have hS' : SqAt w w' m a B E (fun j => if j = 2 then x2 else f j) := hSw
        obtain ⟨⟨e0, e1, e2, e3⟩, ez⟩ := hS'.2.2.2.1.facts
        have q0 : w'.cell? ⟨B + 1, 2, none⟩ = some (.int .u64 (x2 : Nat)) := hS'.2.2.2.2.1.1 2 (by omega)
        have qz := hS'.2.2.2.2.1.2.2
        clear hSw hS'
        go_simp
        try with_reducible rfl
      simp only [Act.put, List.setIfInBounds_toArray, List.set_cons_zero, List.set_cons_succ]
      refine wpAnyN_take (i := 10) (oi := ?o10_2) (v := ?v10_2) ?hi10_2 (by kernel_rfl) (by kernel_rfl) (by kernel_rfl) (by kernel_rfl) (by decide) (by kernel_rfl) ?hQ10_2 ?hy10_2 (SqAt.drew X1.out) ?more10_2
      case hi10_2 => rw [List.getElem?_toArray]; exact rfl
      case hQ10_2 => exact fun _ _ _ h => h
      case hy10_2 =>
        refine Or.inl ⟨by rfl, ?_⟩
        intro w' hSw
        have hS' : SqAt w w' m a B E (fun j => if j = 2 then x2 else f j) := hSw
        obtain ⟨⟨e0, e1, e2, e3⟩, ez⟩ := hS'.2.2.2.1.facts
        have q0 : w'.cell? ⟨B + 1, 2, none⟩ = some (.int .u64 (x2 : Nat)) := hS'.2.2.2.2.1.1 2 (by omega)
        have qz := hS'.2.2.2.2.1.2.2
        clear hSw hS'
        go_simp
        try with_reducible rfl
      simp only [Act.put, List.setIfInBounds_toArray, List.set_cons_zero, List.set_cons_succ]
      refine wpAnyN_one (i := 11) (o := ?o11_2) (by kernel_rfl) ?hi11_2 ?hw11_2 ?st11_2
      case hi11_2 => rw [List.getElem?_toArray]; exact rfl
      case hw11_2 => exact rfl
      intro K hK
      have HK11 : Hid _ := hK
      clear hK
      go_simp
      refine HK11.out _ _ ⟨fun h => absurd h (by decide +kernel), ?_⟩
      clear HK11 K
      try simp only [Act.put, List.setIfInBounds_toArray, List.set_cons_zero, List.set_cons_succ]
      refine wpAnyN_done (by kernel_rfl) ?_ _
      go_wp2_with fail
      go_roundw
      case rel => exact ⟨3, _, by omega, by first | rfl | go_num, HN.out, X2.out.drew⟩
      case measure => simp [intOf]
    · obtain ⟨⟨e0, e1, e2, e3⟩, ez⟩ := hS.2.2.2.1.facts
      have q0 := hS.2.2.2.2.1.1 3 (by omega)
      have f0 := hS.2.2.2.2.1.2.1 3 (by omega)
      have qz := hS.2.2.2.2.1.2.2
      have X1 : Hid (SqAt w _ m a B E _) := hS.put hB 3 x3 (by omega)
      have HN : Hid (∀ j, j < 4 → (fun j => if j = 3 then x3 else f j) j = limb q j) := by
        intro j hj
        show (if j = 3 then x3 else f j) = limb q j
        by_cases h : j = 3
        · rw [if_pos h, h, HX.out]
        · rw [if_neg h]; exact hf j (by omega)
      clear hS hf
      go_wp2_with fail
      go_roundw
      case rel => exact ⟨4, _, by omega, by first | rfl | go_num, HN.out, X1.out⟩
      case measure => simp [intOf]
    · obtain ⟨w9, rfl⟩ : ∃ y, y = wr := ⟨_, rfl⟩
      have HA9 : Hid (NS w9 (w.heap.size + 1) a) := hS.2.1
      have HQ9 : Hid (NS w9 (B + 1) q) := ⟨fun j hj => by rw [hS.2.2.2.2.1.1 j hj, hf j hj], hS.2.2.2.2.1.2.2⟩
      have HF9 : Hid (FieldB w9 w.heap.size m) := hS.1
      have HP9 : Hid (Pend w9 (w.heap.size + 1 + 1)) := hS.2.2.1
      have HW9 : Hid (Below w.heap.size w w9) := hS.2.2.2.2.2
      clear hS hf hi d0 d1 d2 d3 l0 l1 l2 HX
      obtain ⟨⟨aa0, aa1, aa2, aa3⟩, aaz⟩ := HA9.out.facts
      obtain ⟨⟨qq0, qq1, qq2, qq3⟩, qqz⟩ := HQ9.out.facts
      obtain ⟨⟨fm0, fm1, fm2, fm3⟩, ⟨fg0, fg1, fg2, fg3⟩, fz⟩ := FieldB.factsG (HF9.out) HG.out
      go_wp2_with fail
      refine (K3.out _).mono ?_
      rintro e w10 ⟨rfl, hb10⟩
      have HA10 : Hid (NS w10 (w.heap.size + 1) a) := NS.call HA9.out hb10
      have HW10 : Hid (Below w.heap.size w w10) := below_call0 HW9.out hb10
      have HF10 : Hid (FieldB w10 w.heap.size m) := FieldB.call HF9.out hb10
      have HP10 : Hid (Pend w10 (w.heap.size + 1 + 1)) := Pend.call HP9.out hb10
      clear hb10
      clear HA9 HQ9 HW9 HF9 HP9
      clear aa0 aa1 aa2 aa3 aaz qq0 qq1 qq2 qq3 qqz fm0 fm1 fm2 fm3 fg0 fg1 fg2 fg3 fz
      go_wp2_with fail
      obtain ⟨w11, hX⟩ : ∃ x, x = (w10 : World).alloc (.cells #[.int .u64 (limb r 0 : Nat), .int .u64 (limb r 1 : Nat), .int .u64 (limb r 2 : Nat), .int .u64 (limb r 3 : Nat)] 24) := ⟨_, rfl⟩
      rw [← hX]
      have HA11 : Hid (NS w11 (w.heap.size + 1) a) := by rw [hX]; exact NS.alloc HA10.out
      have HF11 : Hid (FieldB w11 w.heap.size m) := by rw [hX]; exact FieldB.alloc HF10.out
      have HP11 : Hid (Pend w11 (w.heap.size + 1 + 1)) := by rw [hX]; exact Pend.alloc HP10.out
      have HR11 : Hid (Own4 w11 w10.heap.size r) := by rw [hX]; exact Own4.new _ _ _
      have HW11 : Hid (Below w.heap.size w w11) := by rw [hX]; exact below_alloc0 HW10.out _
      obtain ⟨D, hD⟩ : ∃ D, D = w10.heap.size := ⟨_, rfl⟩
      have HDD : Hid (w.heap.size + 1 + 1 < D) := by rw [hD]; exact HP10.out.2.2
      rw [← hD] at HR11
      rw [← hD]
      clear hX hD HA10 HF10 HP10 HW10
      refine wp_region_H (fun w' => Below w11.heap.size w11 w') 6 rfl (by kernel_rfl) ?_
      refine wpAnyH_take (i := 0) (oi := ?o0_11) (v := ?v0_11) ?hi0_11 (by kernel_rfl) (by kernel_rfl) (by kernel_rfl) ?hQ0_11 ?hy0_11 (Below.drew (Below.refl _ _)) ?more0_11
      case hi0_11 => rw [List.getElem?_toArray]; exact rfl
      case hQ0_11 => exact fun _ _ _ h => h
      case hy0_11 =>
        refine Or.inl ⟨by rfl, ?_⟩
        intro w' hSw
        obtain ⟨⟨fm0, fm1, fm2, fm3⟩, ⟨fg0, fg1, fg2, fg3⟩, fz⟩ := FieldB.factsG ((FieldB.call HF11.out hSw)) HG.out
        clear hSw
        go_simp
        try with_reducible rfl
      simp only [Act.put, List.setIfInBounds_toArray, List.set_cons_zero, List.set_cons_succ]
      refine wpAnyH_take (i := 1) (oi := ?o1_11) (v := ?v1_11) ?hi1_11 (by kernel_rfl) (by kernel_rfl) (by kernel_rfl) ?hQ1_11 ?hy1_11 (Below.drew (Below.refl _ _)) ?more1_11
      case hi1_11 => rw [List.getElem?_toArray]; exact rfl
      case hQ1_11 => exact fun _ _ _ h => h
      case hy1_11 =>
        refine Or.inl ⟨by rfl, ?_⟩
        intro w' hSw
        obtain ⟨⟨r0, r1, r2, r3⟩, ⟨s0, s1, s2, s3⟩, rz⟩ := ((Own4.call HR11.out hSw)).facts
        clear hSw
        go_simp
        try with_reducible rfl
      simp only [Act.put, List.setIfInBounds_toArray, List.set_cons_zero, List.set_cons_succ]
      refine wpAnyH_take (i := 2) (oi := ?o2_11) (v := ?v2_11) ?hi2_11 (by kernel_rfl) (by kernel_rfl) (by kernel_rfl) ?hQ2_11 ?hy2_11 (Below.drew (Below.refl _ _)) ?more2_11
      case hi2_11 => rw [List.getElem?_toArray]; exact rfl
      case hQ2_11 => exact fun _ _ _ h => h
      case hy2_11 =>
        refine Or.inl ⟨by rfl, ?_⟩
        intro w' hSw
        obtain ⟨⟨r0, r1, r2, r3⟩, ⟨s0, s1, s2, s3⟩, rz⟩ := ((Own4.call HR11.out hSw)).facts
        clear hSw
        go_simp
        try with_reducible rfl
      simp only [Act.put, List.setIfInBounds_toArray, List.set_cons_zero, List.set_cons_succ]
      refine wpAnyH_take (i := 4) (oi := ?o4_11) (v := ?v4_11) ?hi4_11 (by kernel_rfl) (by kernel_rfl) (by kernel_rfl) ?hQ4_11 ?hy4_11 (Below.drew (Below.refl _ _)) ?more4_11
      case hi4_11 => rw [List.getElem?_toArray]; exact rfl
      case hQ4_11 => exact fun _ _ _ h => h
      case hy4_11 =>
        refine Or.inl ⟨by rfl, ?_⟩
        intro w' hSw
        obtain ⟨⟨aa0, aa1, aa2, aa3⟩, aaz⟩ := (NS.call HA11.out hSw).facts
        clear hSw
        go_simp
        try with_reducible rfl
      simp only [Act.put, List.setIfInBounds_toArray, List.set_cons_zero, List.set_cons_succ]
      refine wpAnyH_one (i := 3) (o := ?o3_11) (by kernel_rfl) ?hi3_11 ?hw3_11 ?st3_11
      case hi3_11 => rw [List.getElem?_toArray]; exact rfl
      case hw3_11 => exact rfl
      intro K hK
      have HK3 : Hid _ := hK
      clear hK
      go_simp
      refine (K4.out _).mono ?_
      rintro e w12 ⟨rfl, hq⟩
      have HB11_1 : Hid (Below w11.heap.size w11 w12) := below_call0 (Below.drew (Below.refl _ _)) hq
      clear hq
      go_wp2_with fail
      refine HK3.out _ _ ⟨HB11_1.out, ?_⟩
      clear HK3 K
      try simp only [Act.put, List.setIfInBounds_toArray, List.set_cons_zero, List.set_cons_succ]
      refine wpAnyH_take (i := 5) (oi := ?o5_11) (v := ?v5_11) ?hi5_11 (by kernel_rfl) (by kernel_rfl) (by kernel_rfl) ?hQ5_11 ?hy5_11 HB11_1.out ?more5_11
      case hi5_11 => rw [List.getElem?_toArray]; exact rfl
      case hQ5_11 => exact fun _ _ _ h => h
      case hy5_11 =>
        refine Or.inl ⟨by rfl, ?_⟩
        intro w' hSw
        clear hSw
        go_simp
        try with_reducible rfl
      simp only [Act.put, List.setIfInBounds_toArray, List.set_cons_zero, List.set_cons_succ]
      refine wpAnyH_done (by kernel_rfl) ?_ _
      have HA12 : Hid (NS w12 (w.heap.size + 1) a) := NS.call HA11.out HB11_1.out
      have HF12 : Hid (FieldB w12 w.heap.size m) := FieldB.call HF11.out HB11_1.out
      have HP12 : Hid (Pend w12 (w.heap.size + 1 + 1)) := Pend.call HP11.out HB11_1.out
      have HR12 : Hid (Own4 w12 D r) := Own4.call HR11.out HB11_1.out
      have HW12 : Hid (Below w.heap.size w w12) := below_call0 HW11.out HB11_1.out
      clear HA11 HW11 HF11 HP11 HR11 HB11_1
      obtain ⟨⟨p0, p1, p2, p3⟩, ⟨f0, f1, f2, f3⟩, pz⟩ := (HP12.out).facts
      obtain ⟨⟨r0, r1, r2, r3⟩, ⟨s0, s1, s2, s3⟩, rz⟩ := (HR12.out).facts
      go_wp2_with fail
      have W2 := HW12.out
      refine bodyPost_ret (v := .tuple #[.agg #[.int .u64 0, .int .u64 0, .int .u64 0, .int .u64 0], .int .i64 22]) ?_ rfl ⟨rfl, ?_⟩
      · simp [results, Tryd.results55, go_sem, p0, p1, p2, p3]
      · ((repeat' (first | with_reducible exact Below.refl _ _ | with_reducible refine Below.setCell ?_ ?_ _ | with_reducible refine below_alloc0 ?_ _ | with_reducible refine below_drewN ?_ _ | with_reducible refine Below.drew ?_ | refine below_call0 ?_ (by assumption))) <;> (first | omega | (simp; done) | (simp; omega)))
set_option maxRecDepth 100000 in
set_option maxHeartbeats 4000000 in
theorem sqrt2_even (m a E q r s x0 x1 x2 x3 : Nat) (k1 : ∀ w, Calls Tryd.prog 39 #[.agg #[.int .u64 (limb (m) 0 : Nat), .int .u64 (limb (m) 1 : Nat), .int .u64 (limb (m) 2 : Nat), .int .u64 (limb (m) 3 : Nat), .int .u64 (limb (R256 - (m)) 0 : Nat), .int .u64 (limb (R256 - (m)) 1 : Nat), .int .u64 (limb (R256 - (m)) 2 : Nat), .int .u64 (limb (R256 - (m)) 3 : Nat)], .agg #[.int .u64 (limb (a) 0 : Nat), .int .u64 (limb (a) 1 : Nat), .int .u64 (limb (a) 2 : Nat), .int .u64 (limb (a) 3 : Nat)]] w fun e w' => e = .returned (.bool true) ∧ Below w.heap.size w w') (k2 : ∀ w, Calls Tryd.prog 73 #[.agg #[.int .u64 (limb (m) 0 : Nat), .int .u64 (limb (m) 1 : Nat), .int .u64 (limb (m) 2 : Nat), .int .u64 (limb (m) 3 : Nat)], .agg #[.int .u64 1, .int .u64 0, .int .u64 0, .int .u64 0]] w fun e w' => e = .returned (.tuple #[.agg #[.int .u64 (limb (E) 0 : Nat), .int .u64 (limb (E) 1 : Nat), .int .u64 (limb (E) 2 : Nat), .int .u64 (limb (E) 3 : Nat)], .bool false]) ∧ Below w.heap.size w w') (k3 : ∀ w, Calls Tryd.prog 80 #[.agg #[.int .u64 (limb (m) 0 : Nat), .int .u64 (limb (m) 1 : Nat), .int .u64 (limb (m) 2 : Nat), .int .u64 (limb (m) 3 : Nat), .int .u64 (limb (R256 - (m)) 0 : Nat), .int .u64 (limb (R256 - (m)) 1 : Nat), .int .u64 (limb (R256 - (m)) 2 : Nat), .int .u64 (limb (R256 - (m)) 3 : Nat)], .agg #[.int .u64 (limb (a) 0 : Nat), .int .u64 (limb (a) 1 : Nat), .int .u64 (limb (a) 2 : Nat), .int .u64 (limb (a) 3 : Nat)], .agg #[.int .u64 (limb (q) 0 : Nat), .int .u64 (limb (q) 1 : Nat), .int .u64 (limb (q) 2 : Nat), .int .u64 (limb (q) 3 : Nat)]] w fun e w' => e = .returned (.agg #[.int .u64 (limb (r) 0 : Nat), .int .u64 (limb (r) 1 : Nat), .int .u64 (limb (r) 2 : Nat), .int .u64 (limb (r) 3 : Nat)]) ∧ Below w.heap.size w w') (k4 : ∀ w, Calls Tryd.prog 40 #[.agg #[.int .u64 (limb (m) 0 : Nat), .int .u64 (limb (m) 1 : Nat), .int .u64 (limb (m) 2 : Nat), .int .u64 (limb (m) 3 : Nat), .int .u64 (limb (R256 - (m)) 0 : Nat), .int .u64 (limb (R256 - (m)) 1 : Nat), .int .u64 (limb (R256 - (m)) 2 : Nat), .int .u64 (limb (R256 - (m)) 3 : Nat)], .agg #[.int .u64 (limb (r) 0 : Nat), .int .u64 (limb (r) 1 : Nat), .int .u64 (limb (r) 2 : Nat), .int .u64 (limb (r) 3 : Nat)], .agg #[.int .u64 (limb (r) 0 : Nat), .int .u64 (limb (r) 1 : Nat), .int .u64 (limb (r) 2 : Nat), .int .u64 (limb (r) 3 : Nat)]] w fun e w' => e = .returned (.agg #[.int .u64 (limb (s) 0 : Nat), .int .u64 (limb (s) 1 : Nat), .int .u64 (limb (s) 2 : Nat), .int .u64 (limb (s) 3 : Nat)]) ∧ Below w.heap.size w w')
    (d0 : (limb E 0 : Int) / 4 = (x0 : Nat))
    (d1 : (limb E 1 : Int) / 4 = (x1 : Nat))
    (d2 : (limb E 2 : Int) / 4 = (x2 : Nat))
    (d3 : (limb E 3 : Int) / 4 = (x3 : Nat))
    (l0 : bits .or .u64 (x0 : Int) (IntKind.u64.wrap ((limb E 1 : Int) * 4611686018427387904)) = (limb q 0 : Nat))
    (l1 : bits .or .u64 (x1 : Int) (IntKind.u64.wrap ((limb E 2 : Int) * 4611686018427387904)) = (limb q 1 : Nat))
    (l2 : bits .or .u64 (x2 : Int) (IntKind.u64.wrap ((limb E 3 : Int) * 4611686018427387904)) = (limb q 2 : Nat))
    (hx3 : x3 = limb q 3) (hs : eq4 (limb s 0 : Nat) (limb s 1 : Nat) (limb s 2 : Nat) (limb s 3 : Nat) (limb a 0 : Nat) (limb a 1 : Nat) (limb a 2 : Nat) (limb a 3 : Nat) = true) (hp2 : (limb r 0 : Int).tmod 2 = 0) (w : World) :
    Calls Tryd.prog 55 #[.agg #[.int .u64 (limb (m) 0 : Nat), .int .u64 (limb (m) 1 : Nat), .int .u64 (limb (m) 2 : Nat), .int .u64 (limb (m) 3 : Nat), .int .u64 (limb (R256 - (m)) 0 : Nat), .int .u64 (limb (R256 - (m)) 1 : Nat), .int .u64 (limb (R256 - (m)) 2 : Nat), .int .u64 (limb (R256 - (m)) 3 : Nat)], .agg #[.int .u64 (limb (a) 0 : Nat), .int .u64 (limb (a) 1 : Nat), .int .u64 (limb (a) 2 : Nat), .int .u64 (limb (a) 3 : Nat)], .bool true] w fun e w' => e = .returned (.tuple #[.agg #[.int .u64 (limb (r) 0 : Nat), .int .u64 (limb (r) 1 : Nat), .int .u64 (limb (r) 2 : Nat), .int .u64 (limb (r) 3 : Nat)], .int .i64 0]) ∧ Below w.heap.size w w' := by
  obtain ⟨G, hG⟩ : ∃ G, G = R256 - m := ⟨_, rfl⟩
  have HFN : Hid (∀ W t, FieldB ((W : World).alloc (.cells #[.int .u64 (limb m 0 : Nat), .int .u64 (limb m 1 : Nat), .int .u64 (limb m 2 : Nat), .int .u64 (limb m 3 : Nat), .int .u64 (limb (R256 - m) 0 : Nat), .int .u64 (limb (R256 - m) 1 : Nat), .int .u64 (limb (R256 - m) 2 : Nat), .int .u64 (limb (R256 - m) 3 : Nat)] t)) W.heap.size m) := fun W t => FieldB.new W m t
  rw [← hG] at HFN k1 k3 k4
  rw [← hG]
  have HG : Hid (G = R256 - m) := hG
  have K1 : Hid _ := k1
  have K3 : Hid _ := k3
  have K4 : Hid _ := k4
  have K2 : Hid _ := k2
  have HX : Hid (x3 = limb q 3) := hx3
  have wr1 : IntKind.i64.wrap 1 = 1 := by rw [IntKind.wrap_i64]; omega
  have wr2 : IntKind.i64.wrap 2 = 2 := by rw [IntKind.wrap_i64]; omega
  have wr3 : IntKind.i64.wrap 3 = 3 := by rw [IntKind.wrap_i64]; omega
  clear hG hx3 k2 k1 k3 k4
  go_enter Tryd.func55, Tryd.ntmps55
  go_wp2_with fail
  obtain ⟨Y, hY⟩ : ∃ Y, Y = ((w.alloc (.cells #[.int .u64 (limb m 0 : Nat), .int .u64 (limb m 1 : Nat), .int .u64 (limb m 2 : Nat), .int .u64 (limb m 3 : Nat), .int .u64 (limb G 0 : Nat), .int .u64 (limb G 1 : Nat), .int .u64 (limb G 2 : Nat), .int .u64 (limb G 3 : Nat)] 77)).alloc (.cells #[.int .u64 (limb a 0 : Nat), .int .u64 (limb a 1 : Nat), .int .u64 (limb a 2 : Nat), .int .u64 (limb a 3 : Nat)] 24)).alloc (.cells #[.int .u64 0, .int .u64 0, .int .u64 0, .int .u64 0] 24) := ⟨_, rfl⟩
  rw [← hY]
  have HF : Hid (FieldB Y w.heap.size m) := by rw [hY]; exact FieldB.alloc (FieldB.alloc (HFN.out w _))
  have HA : Hid (NS Y (w.heap.size + 1) a) := by
    rw [hY]
    have t := NS.alloc (o := .cells #[.int .u64 0, .int .u64 0, .int .u64 0, .int .u64 0] 24) (NS.new (w.alloc (.cells #[.int .u64 (limb m 0 : Nat), .int .u64 (limb m 1 : Nat), .int .u64 (limb m 2 : Nat), .int .u64 (limb m 3 : Nat), .int .u64 (limb G 0 : Nat), .int .u64 (limb G 1 : Nat), .int .u64 (limb G 2 : Nat), .int .u64 (limb G 3 : Nat)] 77)) a 24)
    simp only [World.size_alloc] at t
    exact t
  have HP : Hid (Pend Y (w.heap.size + 1 + 1)) := by
    rw [hY]
    have t := Pend.new ((w.alloc (.cells #[.int .u64 (limb m 0 : Nat), .int .u64 (limb m 1 : Nat), .int .u64 (limb m 2 : Nat), .int .u64 (limb m 3 : Nat), .int .u64 (limb G 0 : Nat), .int .u64 (limb G 1 : Nat), .int .u64 (limb G 2 : Nat), .int .u64 (limb G 3 : Nat)] 77)).alloc (.cells #[.int .u64 (limb a 0 : Nat), .int .u64 (limb a 1 : Nat), .int .u64 (limb a 2 : Nat), .int .u64 (limb a 3 : Nat)] 24)) 24
    simp only [World.size_alloc] at t
    exact t
  have HW : Hid (Below w.heap.size w Y) := by rw [hY]; exact below_alloc0 (below_alloc0 (below_alloc0 (Below.refl _ _) _) _) _
  clear hY HFN
  obtain ⟨m0, m1, m2, m3⟩ := HF.out.1.facts
  obtain ⟨g0, g1, g2, g3⟩ := HF.out.gap
  rw [← HG.out] at g0 g1 g2 g3
  have mz := HF.out.2.2
  obtain ⟨⟨a0, a1, a2, a3⟩, az⟩ := HA.out.facts
  go_wp2_with fail
  refine (K1.out _).mono ?_
  rintro e w1 ⟨rfl, hq1⟩
  replace HF : Hid (FieldB w1 w.heap.size m) := FieldB.call HF.out hq1
  replace HA : Hid (NS w1 (w.heap.size + 1) a) := NS.call HA.out hq1
  replace HP : Hid (Pend w1 (w.heap.size + 1 + 1)) := Pend.call HP.out hq1
  replace HW : Hid (Below w.heap.size w w1) := below_call0 HW.out hq1
  clear hq1 m0 m1 m2 m3 g0 g1 g2 g3 mz a0 a1 a2 a3 az
  obtain ⟨m0, m1, m2, m3⟩ := HF.out.1.facts
  obtain ⟨g0, g1, g2, g3⟩ := HF.out.gap
  rw [← HG.out] at g0 g1 g2 g3
  have mz := HF.out.2.2
  obtain ⟨⟨a0, a1, a2, a3⟩, az⟩ := HA.out.facts
  go_wp2_with fail
  refine (K2.out _).mono ?_
  rintro e w2 ⟨rfl, hq2⟩
  replace HF : Hid (FieldB w2 w.heap.size m) := FieldB.call HF.out hq2
  replace HA : Hid (NS w2 (w.heap.size + 1) a) := NS.call HA.out hq2
  replace HP : Hid (Pend w2 (w.heap.size + 1 + 1)) := Pend.call HP.out hq2
  replace HW : Hid (Below w.heap.size w w2) := below_call0 HW.out hq2
  clear hq2 m0 m1 m2 m3 g0 g1 g2 g3 mz a0 a1 a2 a3 az
  obtain ⟨B, hB0⟩ : ∃ B, B = w2.heap.size := ⟨_, rfl⟩
  have hB : w.heap.size + 1 + 1 < B := by rw [hB0]; exact HP.out.2.2
  have HS0 : Hid (SqAt w ((w2.alloc (.cells #[.int .u64 (limb E 0 : Nat), .int .u64 (limb E 1 : Nat), .int .u64 (limb E 2 : Nat), .int .u64 (limb E 3 : Nat)] 24)).alloc (.cells #[.int .u64 0, .int .u64 0, .int .u64 0, .int .u64 0] 24)) m a B E (fun _ => 0)) := by
    have t := Pend.new (w2.alloc (.cells #[.int .u64 (limb E 0 : Nat), .int .u64 (limb E 1 : Nat), .int .u64 (limb E 2 : Nat), .int .u64 (limb E 3 : Nat)] 24)) 24
    simp only [World.size_alloc, ← hB0] at t
    exact ⟨FieldB.alloc (FieldB.alloc HF.out), NS.alloc (NS.alloc HA.out), Pend.alloc (Pend.alloc HP.out), by rw [hB0]; exact NS.alloc (NS.new _ _ _), t, below_alloc0 (below_alloc0 HW.out _) _⟩
  have HB0 : Hid (B = w2.heap.size) := hB0
  clear hB0 HF HA HP HW K1 K2
  go_wp2_with fail
  rw [← HB0.out]
  go_loopw [11] (fun v wx => ∃ (i : Nat) (f : Nat → Nat), i ≤ 4 ∧ v = .int .i64 i ∧ (∀ j, j < i → f j = limb q j) ∧ SqAt w wx m a B E f) (fun v _ => 4 - (intOf v).toNat)
  case atStart => exact ⟨0, _, by omega, rfl, fun j hj => absurd hj (by omega), HS0.out⟩
  case round =>
    clear HS0 HB0
    obtain ⟨i, f, hi, rfl, hf, hS⟩ := hrel
    rcases (show i = 0 ∨ i = 1 ∨ i = 2 ∨ i = 3 ∨ i = 4 by omega) with rfl | rfl | rfl | rfl | rfl
    · obtain ⟨⟨e0, e1, e2, e3⟩, ez⟩ := hS.2.2.2.1.facts
      have q0 := hS.2.2.2.2.1.1 0 (by omega)
      have f0 := hS.2.2.2.2.1.2.1 0 (by omega)
      have qz := hS.2.2.2.2.1.2.2
      have X1 : Hid (SqAt w _ m a B E _) := hS.put hB 0 x0 (by omega)
      have X2 : Hid (SqAt w _ m a B E _) := X1.out.put hB 0 (limb q 0) (by omega)
      have HN : Hid (∀ j, j < 1 → (fun j => if j = 0 then limb q 0 else (fun j => if j = 0 then x0 else f j) j) j = limb q j) := by
        intro j hj
        show (if j = 0 then limb q 0 else (if j = 0 then x0 else f j)) = limb q j
        by_cases h : j = 0
        · rw [if_pos h, h]
        · rw [if_neg h, if_neg h]; exact hf j (by omega)
      clear hS hf
      go_wp2_with fail
      refine wp_region_N (fun w' => SqAt w w' m a B E (fun j => if j = 0 then x0 else f j)) 11 12 rfl (by kernel_rfl) ?_
      refine wpAnyN_take (i := 0) (oi := ?o0_0) (v := ?v0_0) ?hi0_0 (by kernel_rfl) (by kernel_rfl) (by kernel_rfl) (by kernel_rfl) (by decide) (by kernel_rfl) ?hQ0_0 ?hy0_0 (SqAt.drew X1.out) ?more0_0
      case hi0_0 => rw [List.getElem?_toArray]; exact rfl
      case hQ0_0 => exact fun _ _ _ h => h
      case hy0_0 =>
        refine Or.inl ⟨by rfl, ?_⟩
        intro w' hSw
        have hS' : SqAt w w' m a B E (fun j => if j = 0 then x0 else f j) := hSw
        obtain ⟨⟨e0, e1, e2, e3⟩, ez⟩ := hS'.2.2.2.1.facts
        have q0 : w'.cell? ⟨B + 1, 0, none⟩ = some (.int .u64 (x0 : Nat)) := hS'.2.2.2.2.1.1 0 (by omega)
        have qz := hS'.2.2.2.2.1.2.2
        clear hSw hS'
        go_simp
        try with_reducible rfl
      simp only [Act.put, List.setIfInBounds_toArray, List.set_cons_zero, List.set_cons_succ]
      refine wpAnyN_take (i := 1) (oi := ?o1_0) (v := ?v1_0) ?hi1_0 (by kernel_rfl) (by kernel_rfl) (by kernel_rfl) (by kernel_rfl) (by decide) (by kernel_rfl) ?hQ1_0 ?hy1_0 (SqAt.drew X1.out) ?more1_0
      case hi1_0 => rw [List.getElem?_toArray]; exact rfl
      case hQ1_0 => exact fun _ _ _ h => h
      case hy1_0 =>
        refine Or.inl ⟨by rfl, ?_⟩
        intro w' hSw
        have hS' : SqAt w w' m a B E (fun j => if j = 0 then x0 else f j) := hSw
        obtain ⟨⟨e0, e1, e2, e3⟩, ez⟩ := hS'.2.2.2.1.facts
        have q0 : w'.cell? ⟨B + 1, 0, none⟩ = some (.int .u64 (x0 : Nat)) := hS'.2.2.2.2.1.1 0 (by omega)
        have qz := hS'.2.2.2.2.1.2.2
        clear hSw hS'
        go_simp
        try with_reducible rfl
      simp only [Act.put, List.setIfInBounds_toArray, List.set_cons_zero, List.set_cons_succ]
      refine wpAnyN_take (i := 2) (oi := ?o2_0) (v := ?v2_0) ?hi2_0 (by kernel_rfl) (by kernel_rfl) (by kernel_rfl) (by kernel_rfl) (by decide) (by kernel_rfl) ?hQ2_0 ?hy2_0 (SqAt.drew X1.out) ?more2_0
      case hi2_0 => rw [List.getElem?_toArray]; exact rfl
      case hQ2_0 => exact fun _ _ _ h => h
      case hy2_0 =>
        refine Or.inl ⟨by rfl, ?_⟩
        intro w' hSw
        have hS' : SqAt w w' m a B E (fun j => if j = 0 then x0 else f j) := hSw
        obtain ⟨⟨e0, e1, e2, e3⟩, ez⟩ := hS'.2.2.2.1.facts
        have q0 : w'.cell? ⟨B + 1, 0, none⟩ = some (.int .u64 (x0 : Nat)) := hS'.2.2.2.2.1.1 0 (by omega)
        have qz := hS'.2.2.2.2.1.2.2
        clear hSw hS'
        go_simp
        try with_reducible rfl
      simp only [Act.put, List.setIfInBounds_toArray, List.set_cons_zero, List.set_cons_succ]
      refine wpAnyN_take (i := 3) (oi := ?o3_0) (v := ?v3_0) ?hi3_0 (by kernel_rfl) (by kernel_rfl) (by kernel_rfl) (by kernel_rfl) (by decide) (by kernel_rfl) ?hQ3_0 ?hy3_0 (SqAt.drew X1.out) ?more3_0
      case hi3_0 => rw [List.getElem?_toArray]; exact rfl
      case hQ3_0 => exact fun _ _ _ h => h
      case hy3_0 =>
        refine Or.inl ⟨by rfl, ?_⟩
        intro w' hSw
        have hS' : SqAt w w' m a B E (fun j => if j = 0 then x0 else f j) := hSw
        obtain ⟨⟨e0, e1, e2, e3⟩, ez⟩ := hS'.2.2.2.1.facts
        have q0 : w'.cell? ⟨B + 1, 0, none⟩ = some (.int .u64 (x0 : Nat)) := hS'.2.2.2.2.1.1 0 (by omega)
        have qz := hS'.2.2.2.2.1.2.2
        clear hSw hS'
        go_simp
        try with_reducible rfl
      simp only [Act.put, List.setIfInBounds_toArray, List.set_cons_zero, List.set_cons_succ]
      refine wpAnyN_take (i := 4) (oi := ?o4_0) (v := ?v4_0) ?hi4_0 (by kernel_rfl) (by kernel_rfl) (by kernel_rfl) (by kernel_rfl) (by decide) (by kernel_rfl) ?hQ4_0 ?hy4_0 (SqAt.drew X1.out) ?more4_0
      case hi4_0 => rw [List.getElem?_toArray]; exact rfl
      case hQ4_0 => exact fun _ _ _ h => h
      case hy4_0 =>
        refine Or.inl ⟨by rfl, ?_⟩
        intro w' hSw
        have hS' : SqAt w w' m a B E (fun j => if j = 0 then x0 else f j) := hSw
        obtain ⟨⟨e0, e1, e2, e3⟩, ez⟩ := hS'.2.2.2.1.facts
        have q0 : w'.cell? ⟨B + 1, 0, none⟩ = some (.int .u64 (x0 : Nat)) := hS'.2.2.2.2.1.1 0 (by omega)
        have qz := hS'.2.2.2.2.1.2.2
        clear hSw hS'
        go_simp
        try with_reducible rfl
      simp only [Act.put, List.setIfInBounds_toArray, List.set_cons_zero, List.set_cons_succ]
      refine wpAnyN_take (i := 5) (oi := ?o5_0) (v := ?v5_0) ?hi5_0 (by kernel_rfl) (by kernel_rfl) (by kernel_rfl) (by kernel_rfl) (by decide) (by kernel_rfl) ?hQ5_0 ?hy5_0 (SqAt.drew X1.out) ?more5_0
      case hi5_0 => rw [List.getElem?_toArray]; exact rfl
      case hQ5_0 => exact fun _ _ _ h => h
      case hy5_0 =>
        refine Or.inl ⟨by rfl, ?_⟩
        intro w' hSw
        have hS' : SqAt w w' m a B E (fun j => if j = 0 then x0 else f j) := hSw
        obtain ⟨⟨e0, e1, e2, e3⟩, ez⟩ := hS'.2.2.2.1.facts
        have q0 : w'.cell? ⟨B + 1, 0, none⟩ = some (.int .u64 (x0 : Nat)) := hS'.2.2.2.2.1.1 0 (by omega)
        have qz := hS'.2.2.2.2.1.2.2
        clear hSw hS'
        go_simp
        try with_reducible rfl
      simp only [Act.put, List.setIfInBounds_toArray, List.set_cons_zero, List.set_cons_succ]
      refine wpAnyN_take (i := 6) (oi := ?o6_0) (v := ?v6_0) ?hi6_0 (by kernel_rfl) (by kernel_rfl) (by kernel_rfl) (by kernel_rfl) (by decide) (by kernel_rfl) ?hQ6_0 ?hy6_0 (SqAt.drew X1.out) ?more6_0
      case hi6_0 => rw [List.getElem?_toArray]; exact rfl
      case hQ6_0 => exact fun _ _ _ h => h
      case hy6_0 =>
        refine Or.inl ⟨by rfl, ?_⟩
        intro w' hSw
        have hS' : SqAt w w' m a B E (fun j => if j = 0 then x0 else f j) := hSw
        obtain ⟨⟨e0, e1, e2, e3⟩, ez⟩ := hS'.2.2.2.1.facts
        have q0 : w'.cell? ⟨B + 1, 0, none⟩ = some (.int .u64 (x0 : Nat)) := hS'.2.2.2.2.1.1 0 (by omega)
        have qz := hS'.2.2.2.2.1.2.2
        clear hSw hS'
        go_simp
        try with_reducible rfl
      simp only [Act.put, List.setIfInBounds_toArray, List.set_cons_zero, List.set_cons_succ]
      refine wpAnyN_take (i := 7) (oi := ?o7_0) (v := ?v7_0) ?hi7_0 (by kernel_rfl) (by kernel_rfl) (by kernel_rfl) (by kernel_rfl) (by decide) (by kernel_rfl) ?hQ7_0 ?hy7_0 (SqAt.drew X1.out) ?more7_0
      case hi7_0 => rw [List.getElem?_toArray]; exact rfl
      case hQ7_0 => exact fun _ _ _ h => h
      case hy7_0 =>
        refine Or.inl ⟨by rfl, ?_⟩
        intro w' hSw
        have hS' : SqAt w w' m a B E (fun j => if j = 0 then x0 else f j) := hSw
        obtain ⟨⟨e0, e1, e2, e3⟩, ez⟩ := hS'.2.2.2.1.facts
        have q0 : w'.cell? ⟨B + 1, 0, none⟩ = some (.int .u64 (x0 : Nat)) := hS'.2.2.2.2.1.1 0 (by omega)
        have qz := hS'.2.2.2.2.1.2.2
        clear hSw hS'
        go_simp
        try with_reducible rfl
      simp only [Act.put, List.setIfInBounds_toArray, List.set_cons_zero, List.set_cons_succ]
      refine wpAnyN_take (i := 8) (oi := ?o8_0) (v := ?v8_0) ?hi8_0 (by kernel_rfl) (by kernel_rfl) (by kernel_rfl) (by kernel_rfl) (by decide) (by kernel_rfl) ?hQ8_0 ?hy8_0 (SqAt.drew X1.out) ?more8_0
      case hi8_0 => rw [List.getElem?_toArray]; exact rfl
      case hQ8_0 => exact fun _ _ _ h => h
      case hy8_0 =>
        refine Or.inl ⟨by rfl, ?_⟩
        intro w' hSw
        have hS' : SqAt w w' m a B E (fun j => if j = 0 then x0 else f j) := hSw
        obtain ⟨⟨e0, e1, e2, e3⟩, ez⟩ := hS'.2.2.2.1.facts
        have q0 : w'.cell? ⟨B + 1, 0, none⟩ = some (.int .u64 (x0 : Nat)) := hS'.2.2.2.2.1.1 0 (by omega)
        have qz := hS'.2.2.2.2.1.2.2
        clear hSw hS'
        go_simp
        try with_reducible rfl
      simp only [Act.put, List.setIfInBounds_toArray, List.set_cons_zero, List.set_cons_succ]
      refine wpAnyN_take (i := 9) (oi := ?o9_0) (v := ?v9_0) ?hi9_0 (by kernel_rfl) (by kernel_rfl) (by kernel_rfl) (by kernel_rfl) (by decide) (by kernel_rfl) ?hQ9_0 ?hy9_0 (SqAt.drew X1.out) ?more9_0
      case hi9_0 => rw [List.getElem?_toArray]; exact rfl
      case hQ9_0 => exact fun _ _ _ h => h
      case hy9_0 =>
        refine Or.inl ⟨by rfl, ?_⟩
        intro w' hSw
        have hS' : SqAt w w' m a B E (fun j => if j = 0 then x0 else f j) := hSw
        obtain ⟨⟨e0, e1, e2, e3⟩, ez⟩ := hS'.2.2.2.1.facts
        have q0 : w'.cell? ⟨B + 1, 0, none⟩ = some (.int .u64 (x0 : Nat)) := hS'.2.2.2.2.1.1 0 (by omega)
        have qz := hS'.2.2.2.2.1.2.2
        clear hSw hS'
        go_simp
        try with_reducible rfl
      simp only [Act.put, List.setIfInBounds_toArray, List.set_cons_zero, List.set_cons_succ]
      refine wpAnyN_take (i := 10) (oi := ?o10_0) (v := ?v10_0) ?hi10_0 (by kernel_rfl) (by kernel_rfl) (by kernel_rfl) (by kernel_rfl) (by decide) (by kernel_rfl) ?hQ10_0 ?hy10_0 (SqAt.drew X1.out) ?more10_0
      case hi10_0 => rw [List.getElem?_toArray]; exact rfl
      case hQ10_0 => exact fun _ _ _ h => h
      case hy10_0 =>
        refine Or.inl ⟨by rfl, ?_⟩
        intro w' hSw
        have hS' : SqAt w w' m a B E (fun j => if j = 0 then x0 else f j) := hSw
        obtain ⟨⟨e0, e1, e2, e3⟩, ez⟩ := hS'.2.2.2.1.facts
        have q0 : w'.cell? ⟨B + 1, 0, none⟩ = some (.int .u64 (x0 : Nat)) := hS'.2.2.2.2.1.1 0 (by omega)
        have qz := hS'.2.2.2.2.1.2.2
        clear hSw hS'
        go_simp
        try with_reducible rfl
      simp only [Act.put, List.setIfInBounds_toArray, List.set_cons_zero, List.set_cons_succ]
      refine wpAnyN_one (i := 11) (o := ?o11_0) (by kernel_rfl) ?hi11_0 ?hw11_0 ?st11_0
      case hi11_0 => rw [List.getElem?_toArray]; exact rfl
      case hw11_0 => exact rfl
      intro K hK
      have HK11 : Hid _ := hK
      clear hK
      go_simp
      refine HK11.out _ _ ⟨fun h => absurd h (by decide +kernel), ?_⟩
      clear HK11 K
      try simp only [Act.put, List.setIfInBounds_toArray, List.set_cons_zero, List.set_cons_succ]
      refine wpAnyN_done (by kernel_rfl) ?_ _
      go_wp2_with fail
      go_roundw
      case rel => exact ⟨1, _, by omega, by first | rfl | go_num, HN.out, X2.out.drew⟩
      case measure => simp [intOf]
    · obtain ⟨⟨e0, e1, e2, e3⟩, ez⟩ := hS.2.2.2.1.facts
      have q0 := hS.2.2.2.2.1.1 1 (by omega)
      have f0 := hS.2.2.2.2.1.2.1 1 (by omega)
      have qz := hS.2.2.2.2.1.2.2
      have X1 : Hid (SqAt w _ m a B E _) := hS.put hB 1 x1 (by omega)
      have X2 : Hid (SqAt w _ m a B E _) := X1.out.put hB 1 (limb q 1) (by omega)
      have HN : Hid (∀ j, j < 2 → (fun j => if j = 1 then limb q 1 else (fun j => if j = 1 then x1 else f j) j) j = limb q j) := by
        intro j hj
        show (if j = 1 then limb q 1 else (if j = 1 then x1 else f j)) = limb q j
        by_cases h : j = 1
        · rw [if_pos h, h]
        · rw [if_neg h, if_neg h]; exact hf j (by omega)
      clear hS hf
      go_wp2_with fail
      refine wp_region_N (fun w' => SqAt w w' m a B E (fun j => if j = 1 then x1 else f j)) 11 12 rfl (by kernel_rfl) ?_
      refine wpAnyN_take (i := 0) (oi := ?o0_1) (v := ?v0_1) ?hi0_1 (by kernel_rfl) (by kernel_rfl) (by kernel_rfl) (by kernel_rfl) (by decide) (by kernel_rfl) ?hQ0_1 ?hy0_1 (SqAt.drew X1.out) ?more0_1
      case hi0_1 => rw [List.getElem?_toArray]; exact rfl
      case hQ0_1 => exact fun _ _ _ h => h
      case hy0_1 =>
        refine Or.inl ⟨by rfl, ?_⟩
        intro w' hSw
        have hS' : SqAt w w' m a B E (fun j => if j = 1 then x1 else f j) := hSw
        obtain ⟨⟨e0, e1, e2, e3⟩, ez⟩ := hS'.2.2.2.1.facts
        have q0 : w'.cell? ⟨B + 1, 1, none⟩ = some (.int .u64 (x1 : Nat)) := hS'.2.2.2.2.1.1 1 (by omega)
        have qz := hS'.2.2.2.2.1.2.2
        clear hSw hS'
        go_simp
        try with_reducible rfl
      simp only [Act.put, List.setIfInBounds_toArray, List.set_cons_zero, List.set_cons_succ]
      refine wpAnyN_take (i := 1) (oi := ?o1_1) (v := ?v1_1) ?hi1_1 (by kernel_rfl) (by kernel_rfl) (by kernel_rfl) (by kernel_rfl) (by decide) (by kernel_rfl) ?hQ1_1 ?hy1_1 (SqAt.drew X1.out) ?more1_1
      case hi1_1 => rw [List.getElem?_toArray]; exact rfl
      case hQ1_1 => exact fun _ _ _ h => h
      case hy1_1 =>
        refine Or.inl ⟨by rfl, ?_⟩
        intro w' hSw
        have hS' : SqAt w w' m a B E (fun j => if j = 1 then x1 else f j) := hSw
        obtain ⟨⟨e0, e1, e2, e3⟩, ez⟩ := hS'.2.2.2.1.facts
        have q0 : w'.cell? ⟨B + 1, 1, none⟩ = some (.int .u64 (x1 : Nat)) := hS'.2.2.2.2.1.1 1 (by omega)
        have qz := hS'.2.2.2.2.1.2.2
        clear hSw hS'
        go_simp
        try with_reducible rfl
      simp only [Act.put, List.setIfInBounds_toArray, List.set_cons_zero, List.set_cons_succ]
      refine wpAnyN_take (i := 2) (oi := ?o2_1) (v := ?v2_1) ?hi2_1 (by kernel_rfl) (by kernel_rfl) (by kernel_rfl) (by kernel_rfl) (by decide) (by kernel_rfl) ?hQ2_1 ?hy2_1 (SqAt.drew X1.out) ?more2_1
      case hi2_1 => rw [List.getElem?_toArray]; exact rfl
      case hQ2_1 => exact fun _ _ _ h => h
      case hy2_1 =>
        refine Or.inl ⟨by rfl, ?_⟩
        intro w' hSw
        have hS' : SqAt w w' m a B E (fun j => if j = 1 then x1 else f j) := hSw
        obtain ⟨⟨e0, e1, e2, e3⟩, ez⟩ := hS'.2.2.2.1.facts
        have q0 : w'.cell? ⟨B + 1, 1, none⟩ = some (.int .u64 (x1 : Nat)) := hS'.2.2.2.2.1.1 1 (by omega)
        have qz := hS'.2.2.2.2.1.2.2
        clear hSw hS'
        go_simp
        try with_reducible rfl
      simp only [Act.put, List.setIfInBounds_toArray, List.set_cons_zero, List.set_cons_succ]
      refine wpAnyN_take (i := 3) (oi := ?o3_1) (v := ?v3_1) ?hi3_1 (by kernel_rfl) (by kernel_rfl) (by kernel_rfl) (by kernel_rfl) (by decide) (by kernel_rfl) ?hQ3_1 ?hy3_1 (SqAt.drew X1.out) ?more3_1
      case hi3_1 => rw [List.getElem?_toArray]; exact rfl
      case hQ3_1 => exact fun _ _ _ h => h
      case hy3_1 =>
        refine Or.inl ⟨by rfl, ?_⟩
        intro w' hSw
        have hS' : SqAt w w' m a B E (fun j => if j = 1 then x1 else f j) := hSw
        obtain ⟨⟨e0, e1, e2, e3⟩, ez⟩ := hS'.2.2.2.1.facts
        have q0 : w'.cell? ⟨B + 1, 1, none⟩ = some (.int .u64 (x1 : Nat)) := hS'.2.2.2.2.1.1 1 (by omega)
        have qz := hS'.2.2.2.2.1.2.2
        clear hSw hS'
        go_simp
        try with_reducible rfl
      simp only [Act.put, List.setIfInBounds_toArray, List.set_cons_zero, List.set_cons_succ]
      refine wpAnyN_take (i := 4) (oi := ?o4_1) (v := ?v4_1) ?hi4_1 (by kernel_rfl) (by kernel_rfl) (by kernel_rfl) (by kernel_rfl) (by decide) (by kernel_rfl) ?hQ4_1 ?hy4_1 (SqAt.drew X1.out) ?more4_1
      case hi4_1 => rw [List.getElem?_toArray]; exact rfl
      case hQ4_1 => exact fun _ _ _ h => h
      case hy4_1 =>
        refine Or.inl ⟨by rfl, ?_⟩
        intro w' hSw
        have hS' : SqAt w w' m a B E (fun j => if j = 1 then x1 else f j) := hSw
        obtain ⟨⟨e0, e1, e2, e3⟩, ez⟩ := hS'.2.2.2.1.facts
        have q0 : w'.cell? ⟨B + 1, 1, none⟩ = some (.int .u64 (x1 : Nat)) := hS'.2.2.2.2.1.1 1 (by omega)
        have qz := hS'.2.2.2.2.1.2.2
        clear hSw hS'
        go_simp
        try with_reducible rfl
      simp only [Act.put, List.setIfInBounds_toArray, List.set_cons_zero, List.set_cons_succ]
      refine wpAnyN_take (i := 5) (oi := ?o5_1) (v := ?v5_1) ?hi5_1 (by kernel_rfl) (by kernel_rfl) (by kernel_rfl) (by kernel_rfl) (by decide) (by kernel_rfl) ?hQ5_1 ?hy5_1 (SqAt.drew X1.out) ?more5_1
      case hi5_1 => rw [List.getElem?_toArray]; exact rfl
      case hQ5_1 => exact fun _ _ _ h => h
      case hy5_1 =>
        refine Or.inl ⟨by rfl, ?_⟩
        intro w' hSw
        have hS' : SqAt w w' m a B E (fun j => if j = 1 then x1 else f j) := hSw
        obtain ⟨⟨e0, e1, e2, e3⟩, ez⟩ := hS'.2.2.2.1.facts
        have q0 : w'.cell? ⟨B + 1, 1, none⟩ = some (.int .u64 (x1 : Nat)) := hS'.2.2.2.2.1.1 1 (by omega)
        have qz := hS'.2.2.2.2.1.2.2
        clear hSw hS'
        go_simp
        try with_reducible rfl
      simp only [Act.put, List.setIfInBounds_toArray, List.set_cons_zero, List.set_cons_succ]
      refine wpAnyN_take (i := 6) (oi := ?o6_1) (v := ?v6_1) ?hi6_1 (by kernel_rfl) (by kernel_rfl) (by kernel_rfl) (by kernel_rfl) (by decide) (by kernel_rfl) ?hQ6_1 ?hy6_1 (SqAt.drew X1.out) ?more6_1
      case hi6_1 => rw [List.getElem?_toArray]; exact rfl
      case hQ6_1 => exact fun _ _ _ h => h
      case hy6_1 =>
        refine Or.inl ⟨by rfl, ?_⟩
        intro w' hSw
        have hS' : SqAt w w' m a B E (fun j => if j = 1 then x1 else f j) := hSw
        obtain ⟨⟨e0, e1, e2, e3⟩, ez⟩ := hS'.2.2.2.1.facts
        have q0 : w'.cell? ⟨B + 1, 1, none⟩ = some (.int .u64 (x1 : Nat)) := hS'.2.2.2.2.1.1 1 (by omega)
        have qz := hS'.2.2.2.2.1.2.2
        clear hSw hS'
        go_simp
        try with_reducible rfl
      simp only [Act.put, List.setIfInBounds_toArray, List.set_cons_zero, List.set_cons_succ]
      refine wpAnyN_take (i := 7) (oi := ?o7_1) (v := ?v7_1) ?hi7_1 (by kernel_rfl) (by kernel_rfl) (by kernel_rfl) (by kernel_rfl) (by decide) (by kernel_rfl) ?hQ7_1 ?hy7_1 (SqAt.drew X1.out) ?more7_1
      case hi7_1 => rw [List.getElem?_toArray]; exact rfl
      case hQ7_1 => exact fun _ _ _ h => h
      case hy7_1 =>
        refine Or.inl ⟨by rfl, ?_⟩
        intro w' hSw
        have hS' : SqAt w w' m a B E (fun j => if j = 1 then x1 else f j) := hSw
        obtain ⟨⟨e0, e1, e2, e3⟩, ez⟩ := hS'.2.2.2.1.facts
        have q0 : w'.cell? ⟨B + 1, 1, none⟩ = some (.int .u64 (x1 : Nat)) := hS'.2.2.2.2.1.1 1 (by omega)
        have qz := hS'.2.2.2.2.1.2.2
        clear hSw hS'
        go_simp
        try with_reducible rfl
      simp only [Act.put, List.setIfInBounds_toArray, List.set_cons_zero, List.set_cons_succ]
      refine wpAnyN_take (i := 8) (oi := ?o8_1) (v := ?v8_1) ?hi8_1 (by kernel_rfl) (by kernel_rfl) (by kernel_rfl) (by kernel_rfl) (by decide) (by kernel_rfl) ?hQ8_1 ?hy8_1 (SqAt.drew X1.out) ?more8_1
      case hi8_1 => rw [List.getElem?_toArray]; exact rfl
      case hQ8_1 => exact fun _ _ _ h => h
      case hy8_1 =>
        refine Or.inl ⟨by rfl, ?_⟩
        intro w' hSw
        have hS' : SqAt w w' m a B E (fun j => if j = 1 then x1 else f j) := hSw
        obtain ⟨⟨e0, e1, e2, e3⟩, ez⟩ := hS'.2.2.2.1.facts
        have q0 : w'.cell? ⟨B + 1, 1, none⟩ = some (.int .u64 (x1 : Nat)) := hS'.2.2.2.2.1.1 1 (by omega)
        have qz := hS'.2.2.2.2.1.2.2
        clear hSw hS'
        go_simp
        try with_reducible rfl
      simp only [Act.put, List.setIfInBounds_toArray, List.set_cons_zero, List.set_cons_succ]
      refine wpAnyN_take (i := 9) (oi := ?o9_1) (v := ?v9_1) ?hi9_1 (by kernel_rfl) (by kernel_rfl) (by kernel_rfl) (by kernel_rfl) (by decide) (by kernel_rfl) ?hQ9_1 ?hy9_1 (SqAt.drew X1.out) ?more9_1
      case hi9_1 => rw [List.getElem?_toArray]; exact rfl
      case hQ9_1 => exact fun _ _ _ h => h
      case hy9_1 =>
        refine Or.inl ⟨by rfl, ?_⟩
        intro w' hSw
        have hS' : SqAt w w' m a B E (fun j => if j = 1 then x1 else f j) := hSw
        obtain ⟨⟨e0, e1, e2, e3⟩, ez⟩ := hS'.2.2.2.1.facts
        have q0 : w'.cell? ⟨B + 1, 1, none⟩ = some (.int .u64 (x1 : Nat)) := hS'.2.2.2.2.1.1 1 (by omega)
        have qz := hS'.2.2.2.2.1.2.2
        clear hSw hS'
        go_simp
        try with_reducible rfl
      simp only [Act.put, List.setIfInBounds_toArray, List.set_cons_zero, List.set_cons_succ]
      refine wpAnyN_take (i := 10) (oi := ?o10_1) (v := ?v10_1) ?hi10_1 (by kernel_rfl) (by kernel_rfl) (by kernel_rfl) (by kernel_rfl) (by decide) (by kernel_rfl) ?hQ10_1 ?hy10_1 (SqAt.drew X1.out) ?more10_1
      case hi10_1 => rw [List.getElem?_toArray]; exact rfl
      case hQ10_1 => exact fun _ _ _ h => h
      case hy10_1 =>
        refine Or.inl ⟨by rfl, ?_⟩
        intro w' hSw
        have hS' : SqAt w w' m a B E (fun j => if j = 1 then x1 else f j) := hSw
        obtain ⟨⟨e0, e1, e2, e3⟩, ez⟩ := hS'.2.2.2.1.facts
        have q0 : w'.cell? ⟨B + 1, 1, none⟩ = some (.int .u64 (x1 : Nat)) := hS'.2.2.2.2.1.1 1 (by omega)
        have qz := hS'.2.2.2.2.1.2.2
        clear hSw hS'
        go_simp
        try with_reducible rfl
      simp only [Act.put, List.setIfInBounds_toArray, List.set_cons_zero, List.set_cons_succ]
      refine wpAnyN_one (i := 11) (o := ?o11_1) (by kernel_rfl) ?hi11_1 ?hw11_1 ?st11_1
      case hi11_1 => rw [List.getElem?_toArray]; exact rfl
      case hw11_1 => exact rfl
      intro K hK
      have HK11 : Hid _ := hK
      clear hK
      go_simp
      refine HK11.out _ _ ⟨fun h => absurd h (by decide +kernel), ?_⟩
      clear HK11 K
      try simp only [Act.put, List.setIfInBounds_toArray, List.set_cons_zero, List.set_cons_succ]
      refine wpAnyN_done (by kernel_rfl) ?_ _
      go_wp2_with fail
      go_roundw
      case rel => exact ⟨2, _, by omega, by first | rfl | go_num, HN.out, X2.out.drew⟩
      case measure => simp [intOf]
    · obtain ⟨⟨e0, e1, e2, e3⟩, ez⟩ := hS.2.2.2.1.facts
      have q0 := hS.2.2.2.2.1.1 2 (by omega)
      have f0 := hS.2.2.2.2.1.2.1 2 (by omega)
      have qz := hS.2.2.2.2.1.2.2
      have X1 : Hid (SqAt w _ m a B E _) := hS.put hB 2 x2 (by omega)
      have X2 : Hid (SqAt w _ m a B E _) := X1.out.put hB 2 (limb q 2) (by omega)
      have HN : Hid (∀ j, j < 3 → (fun j => if j = 2 then limb q 2 else (fun j => if j = 2 then x2 else f j) j) j = limb q j) := by
        intro j hj
        show (if j = 2 then limb q 2 else (if j = 2 then x2 else f j)) = limb q j
        by_cases h : j = 2
        · rw [if_pos h, h]
        · rw [if_neg h, if_neg h]; exact hf j (by omega)
      clear hS hf
      go_wp2_with fail
      refine wp_region_N (fun w' => SqAt w w' m a B E (fun j => if j = 2 then x2 else f j)) 11 12 rfl (by kernel_rfl) ?_
      refine wpAnyN_take (i := 0) (oi := ?o0_2) (v := ?v0_2) ?hi0_2 (by kernel_rfl) (by kernel_rfl) (by kernel_rfl) (by kernel_rfl) (by decide) (by kernel_rfl) ?hQ0_2 ?hy0_2 (SqAt.drew X1.out) ?more0_2
      case hi0_2 => rw [List.getElem?_toArray]; exact rfl
      case hQ0_2 => exact fun _ _ _ h => h
      case hy0_2 =>
        refine Or.inl ⟨by rfl, ?_⟩
        intro w' hSw
        have hS' : SqAt w w' m a B E (fun j => if j = 2 then x2 else f j) := hSw
        obtain ⟨⟨e0, e1, e2, e3⟩, ez⟩ := hS'.2.2.2.1.facts
        have q0 : w'.cell? ⟨B + 1, 2, none⟩ = some (.int .u64 (x2 : Nat)) := hS'.2.2.2.2.1.1 2 (by omega)
        have qz := hS'.2.2.2.2.1.2.2
        clear hSw hS'
        go_simp
        try with_reducible rfl
      simp only [Act.put, List.setIfInBounds_toArray, List.set_cons_zero, List.set_cons_succ]
      refine wpAnyN_take (i := 1) (oi := ?o1_2) (v := ?v1_2) ?hi1_2 (by kernel_rfl) (by kernel_rfl) (by kernel_rfl) (by kernel_rfl) (by decide) (by kernel_rfl) ?hQ1_2 ?hy1_2 (SqAt.drew X1.out) ?more1_2
      case hi1_2 => rw [List.getElem?_toArray]; exact rfl
      case hQ1_2 => exact fun _ _ _ h => h
      case hy1_2 =>
        refine Or.inl ⟨by rfl, ?_⟩
        intro w' hSw
        have hS' : SqAt w w' m a B E (fun j => if j = 2 then x2 else f j) := hSw
        obtain ⟨⟨e0, e1, e2, e3⟩, ez⟩ := hS'.2.2.2.1.facts
        have q0 : w'.cell? ⟨B + 1, 2, none⟩ = some (.int .u64 (x2 : Nat)) := hS'.2.2.2.2.1.1 2 (by omega)
        have qz := hS'.2.2.2.2.1.2.2
        clear hSw hS'
        go_simp
        try with_reducible rfl
      simp only [Act.put, List.setIfInBounds_toArray, List.set_cons_zero, List.set_cons_succ]
      refine wpAnyN_take (i := 2) (oi := ?o2_2) (v := ?v2_2) ?hi2_2 (by kernel_rfl) (by kernel_rfl) (by kernel_rfl) (by kernel_rfl) (by decide) (by kernel_rfl) ?hQ2_2 ?hy2_2 (SqAt.drew X1.out) ?more2_2
      case hi2_2 => rw [List.getElem?_toArray]; exact rfl
      case hQ2_2 => exact fun _ _ _ h => h
      case hy2_2 =>
        refine Or.inl ⟨by rfl, ?_⟩
        intro w' hSw
        have hS' : SqAt w w' m a B E (fun j => if j = 2 then x2 else f j) := hSw
        obtain ⟨⟨e0, e1, e2, e3⟩, ez⟩ := hS'.2.2.2.1.facts
        have q0 : w'.cell? ⟨B + 1, 2, none⟩ = some (.int .u64 (x2 : Nat)) := hS'.2.2.2.2.1.1 2 (by omega)
        have qz := hS'.2.2.2.2.1.2.2
        clear hSw hS'
        go_simp
        try with_reducible rfl
      simp only [Act.put, List.setIfInBounds_toArray, List.set_cons_zero, List.set_cons_succ]
      refine wpAnyN_take (i := 3) (oi := ?o3_2) (v := ?v3_2) ?hi3_2 (by kernel_rfl) (by kernel_rfl) (by kernel_rfl) (by kernel_rfl) (by decide) (by kernel_rfl) ?hQ3_2 ?hy3_2 (SqAt.drew X1.out) ?more3_2
      case hi3_2 => rw [List.getElem?_toArray]; exact rfl
      case hQ3_2 => exact fun _ _ _ h => h
      case hy3_2 =>
        refine Or.inl ⟨by rfl, ?_⟩
        intro w' hSw
        have hS' : SqAt w w' m a B E (fun j => if j = 2 then x2 else f j) := hSw
        obtain ⟨⟨e0, e1, e2, e3⟩, ez⟩ := hS'.2.2.2.1.facts
        have q0 : w'.cell? ⟨B + 1, 2, none⟩ = some (.int .u64 (x2 : Nat)) := hS'.2.2.2.2.1.1 2 (by omega)
        have qz := hS'.2.2.2.2.1.2.2
        clear hSw hS'
        go_simp
        try with_reducible rfl
      simp only [Act.put, List.setIfInBounds_toArray, List.set_cons_zero, List.set_cons_succ]
      refine wpAnyN_take (i := 4) (oi := ?o4_2) (v := ?v4_2) ?hi4_2 (by kernel_rfl) (by kernel_rfl) (by kernel_rfl) (by kernel_rfl) (by decide) (by kernel_rfl) ?hQ4_2 ?hy4_2 (SqAt.drew X1.out) ?more4_2
      case hi4_2 => rw [List.getElem?_toArray]; exact rfl
      case hQ4_2 => exact fun _ _ _ h => h
      case hy4_2 =>
        refine Or.inl ⟨by rfl, ?_⟩
        intro w' hSw
        have hS' : SqAt w w' m a B E (fun j => if j = 2 then x2 else f j) := hSw
        obtain ⟨⟨e0, e1, e2, e3⟩, ez⟩ := hS'.2.2.2.1.facts
        have q0 : w'.cell? ⟨B + 1, 2, none⟩ = some (.int .u64 (x2 : Nat)) := hS'.2.2.2.2.1.1 2 (by omega)
        have qz := hS'.2.2.2.2.1.2.2
        clear hSw hS'
        go_simp
        try with_reducible rfl
      simp only [Act.put, List.setIfInBounds_toArray, List.set_cons_zero, List.set_cons_succ]
      refine wpAnyN_take (i := 5) (oi := ?o5_2) (v := ?v5_2) ?hi5_2 (by kernel_rfl) (by kernel_rfl) (by kernel_rfl) (by kernel_rfl) (by decide) (by kernel_rfl) ?hQ5_2 ?hy5_2 (SqAt.drew X1.out) ?more5_2
      case hi5_2 => rw [List.getElem?_toArray]; exact rfl
      case hQ5_2 => exact fun _ _ _ h => h
      case hy5_2 =>
        refine Or.inl ⟨by rfl, ?_⟩
        intro w' hSw
        have hS' : SqAt w w' m a B E (fun j => if j = 2 then x2 else f j) := hSw
        obtain ⟨⟨e0, e1, e2, e3⟩, ez⟩ := hS'.2.2.2.1.facts
        have q0 : w'.cell? ⟨B + 1, 2, none⟩ = some (.int .u64 (x2 : Nat)) := hS'.2.2.2.2.1.1 2 (by omega)
        have qz := hS'.2.2.2.2.1.2.2
        clear hSw hS'
        go_simp
        try with_reducible rfl
      simp only [Act.put, List.setIfInBounds_toArray, List.set_cons_zero, List.set_cons_succ]
      refine wpAnyN_take (i := 6) (oi := ?o6_2) (v := ?v6_2) ?hi6_2 (by kernel_rfl) (by kernel_rfl) (by kernel_rfl) (by kernel_rfl) (by decide) (by kernel_rfl) ?hQ6_2 ?hy6_2 (SqAt.drew X1.out) ?more6_2
      case hi6_2 => rw [List.getElem?_toArray]; exact rfl
      case hQ6_2 => exact fun _ _ _ h => h
      case hy6_2 =>
        refine Or.inl ⟨by rfl, ?_⟩
        intro w' hSw
        have hS' : SqAt w w' m a B E (fun j => if j = 2 then x2 else f j) := hSw
        obtain ⟨⟨e0, e1, e2, e3⟩, ez⟩ := hS'.2.2.2.1.facts
        have q0 : w'.cell? ⟨B + 1, 2, none⟩ = some (.int .u64 (x2 : Nat)) := hS'.2.2.2.2.1.1 2 (by omega)
        have qz := hS'.2.2.2.2.1.2.2
        clear hSw hS'
        go_simp
        try with_reducible rfl
      simp only [Act.put, List.setIfInBounds_toArray, List.set_cons_zero, List.set_cons_succ]
      refine wpAnyN_take (i := 7) (oi := ?o7_2) (v := ?v7_2) ?hi7_2 (by kernel_rfl) (by kernel_rfl) (by kernel_rfl) (by kernel_rfl) (by decide) (by kernel_rfl) ?hQ7_2 ?hy7_2 (SqAt.drew X1.out) ?more7_2
      case hi7_2 => rw [List.getElem?_toArray]; exact rfl
      case hQ7_2 => exact fun _ _ _ h => h
      case hy7_2 =>
        refine Or.inl ⟨by rfl, ?_⟩
        intro w' hSw
        have hS' : SqAt w w' m a B E (fun j => if j = 2 then x2 else f j) := hSw
        obtain ⟨⟨e0, e1, e2, e3⟩, ez⟩ := hS'.2.2.2.1.facts
        have q0 : w'.cell? ⟨B + 1, 2, none⟩ = some (.int .u64 (x2 : Nat)) := hS'.2.2.2.2.1.1 2 (by omega)
        have qz := hS'.2.2.2.2.1.2.2
        clear hSw hS'
        go_simp
        try with_reducible rfl
      simp only [Act.put, List.setIfInBounds_toArray, List.set_cons_zero, List.set_cons_succ]
      refine wpAnyN_take (i := 8) (oi := ?o8_2) (v := ?v8_2) ?hi8_2 (by kernel_rfl) (by kernel_rfl) (by kernel_rfl) (by kernel_rfl) (by decide) (by kernel_rfl) ?hQ8_2 ?hy8_2 (SqAt.drew X1.out) ?more8_2
      case hi8_2 => rw [List.getElem?_toArray]; exact rfl
      case hQ8_2 => exact fun _ _ _ h => h
      case hy8_2 =>
        refine Or.inl ⟨by rfl, ?_⟩
        intro w' hSw
        have hS' : SqAt w w' m a B E (fun j => if j = 2 then x2 else f j) := hSw
        obtain ⟨⟨e0, e1, e2, e3⟩, ez⟩ := hS'.2.2.2.1.facts
        have q0 : w'.cell? ⟨B + 1, 2, none⟩ = some (.int .u64 (x2 : Nat)) := hS'.2.2.2.2.1.1 2 (by omega)
        have qz := hS'.2.2.2.2.1.2.2
        clear hSw hS'
        go_simp
        try with_reducible rfl
      simp only [Act.put, List.setIfInBounds_toArray, List.set_cons_zero, List.set_cons_succ]
      refine wpAnyN_take (i := 9) (oi := ?o9_2) (v := ?v9_2) ?hi9_2 (by kernel_rfl) (by kernel_rfl) (by kernel_rfl) (by kernel_rfl) (by decide) (by kernel_rfl) ?hQ9_2 ?hy9_2 (SqAt.drew X1.out) ?more9_2
      case hi9_2 => rw [List.getElem?_toArray]; exact rfl
      case hQ9_2 => exact fun _ _ _ h => h
      case hy9_2 =>
        refine Or.inl ⟨by rfl, ?_⟩
        intro w' hSw
        have hS' : SqAt w w' m a B E (fun j => if j = 2 then x2 else f j) := hSw
        obtain ⟨⟨e0, e1, e2, e3⟩, ez⟩ := hS'.2.2.2.1.facts
        have q0 : w'.cell? ⟨B + 1, 2, none⟩ = some (.int .u64 (x2 : Nat)) := hS'.2.2.2.2.1.1 2 (by omega)
        have qz := hS'.2.2.2.2.1.2.2
        clear hSw hS'
        go_simp
        try with_reducible rfl
      simp only [Act.put, List.setIfInBounds_toArray, List.set_cons_zero, List.set_cons_succ]
      refine wpAnyN_take (i := 10) (oi := ?o10_2) (v := ?v10_2) ?hi10_2 (by kernel_rfl) (by kernel_rfl) (by kernel_rfl) (by kernel_rfl) (by decide) (by kernel_rfl) ?hQ10_2 ?hy10_2 (SqAt.drew X1.out) ?more10_2
      case hi10_2 => rw [List.getElem?_toArray]; exact rfl
      case hQ10_2 => exact fun _ _ _ h => h
      case hy10_2 =>
        refine Or.inl ⟨by rfl, ?_⟩
        intro w' hSw
        have hS' : SqAt w w' m a B E (fun j => if j = 2 then x2 else f j) := hSw
        obtain ⟨⟨e0, e1, e2, e3⟩, ez⟩ := hS'.2.2.2.1.facts
        have q0 : w'.cell? ⟨B + 1, 2, none⟩ = some (.int .u64 (x2 : Nat)) := hS'.2.2.2.2.1.1 2 (by omega)
        have qz := hS'.2.2.2.2.1.2.2
        clear hSw hS'
        go_simp
        try with_reducible rfl
      simp only [Act.put, List.setIfInBounds_toArray, List.set_cons_zero, List.set_cons_succ]
      refine wpAnyN_one (i := 11) (o := ?o11_2) (by kernel_rfl) ?hi11_2 ?hw11_2 ?st11_2
      case hi11_2 => rw [List.getElem?_toArray]; exact rfl
      case hw11_2 => exact rfl
      intro K hK
      have HK11 : Hid _ := hK
      clear hK
      go_simp
      refine HK11.out _ _ ⟨fun h => absurd h (by decide +kernel), ?_⟩
      clear HK11 K
      try simp only [Act.put, List.setIfInBounds_toArray, List.set_cons_zero, List.set_cons_succ]
      refine wpAnyN_done (by kernel_rfl) ?_ _
      go_wp2_with fail
      go_roundw
      case rel => exact ⟨3, _, by omega, by first | rfl | go_num, HN.out, X2.out.drew⟩
      case measure => simp [intOf]
    · obtain ⟨⟨e0, e1, e2, e3⟩, ez⟩ := hS.2.2.2.1.facts
      have q0 := hS.2.2.2.2.1.1 3 (by omega)
      have f0 := hS.2.2.2.2.1.2.1 3 (by omega)
      have qz := hS.2.2.2.2.1.2.2
      have X1 : Hid (SqAt w _ m a B E _) := hS.put hB 3 x3 (by omega)
      have HN : Hid (∀ j, j < 4 → (fun j => if j = 3 then x3 else f j) j = limb q j) := by
        intro j hj
        show (if j = 3 then x3 else f j) = limb q j
        by_cases h : j = 3
        · rw [if_pos h, h, HX.out]
        · rw [if_neg h]; exact hf j (by omega)
      clear hS hf
      go_wp2_with fail
      go_roundw
      case rel => exact ⟨4, _, by omega, by first | rfl | go_num, HN.out, X1.out⟩
      case measure => simp [intOf]
    · obtain ⟨w9, rfl⟩ : ∃ y, y = wr := ⟨_, rfl⟩
      have HA9 : Hid (NS w9 (w.heap.size + 1) a) := hS.2.1
      have HQ9 : Hid (NS w9 (B + 1) q) := ⟨fun j hj => by rw [hS.2.2.2.2.1.1 j hj, hf j hj], hS.2.2.2.2.1.2.2⟩
      have HF9 : Hid (FieldB w9 w.heap.size m) := hS.1
      have HP9 : Hid (Pend w9 (w.heap.size + 1 + 1)) := hS.2.2.1
      have HW9 : Hid (Below w.heap.size w w9) := hS.2.2.2.2.2
      clear hS hf hi d0 d1 d2 d3 l0 l1 l2 HX
      obtain ⟨⟨aa0, aa1, aa2, aa3⟩, aaz⟩ := HA9.out.facts
      obtain ⟨⟨qq0, qq1, qq2, qq3⟩, qqz⟩ := HQ9.out.facts
      obtain ⟨⟨fm0, fm1, fm2, fm3⟩, ⟨fg0, fg1, fg2, fg3⟩, fz⟩ := FieldB.factsG (HF9.out) HG.out
      go_wp2_with fail
      refine (K3.out _).mono ?_
      rintro e w10 ⟨rfl, hb10⟩
      have HA10 : Hid (NS w10 (w.heap.size + 1) a) := NS.call HA9.out hb10
      have HW10 : Hid (Below w.heap.size w w10) := below_call0 HW9.out hb10
      have HF10 : Hid (FieldB w10 w.heap.size m) := FieldB.call HF9.out hb10
      have HP10 : Hid (Pend w10 (w.heap.size + 1 + 1)) := Pend.call HP9.out hb10
      clear hb10
      clear HA9 HQ9 HW9 HF9 HP9
      clear aa0 aa1 aa2 aa3 aaz qq0 qq1 qq2 qq3 qqz fm0 fm1 fm2 fm3 fg0 fg1 fg2 fg3 fz
      go_wp2_with fail
      obtain ⟨w11, hX⟩ : ∃ x, x = (w10 : World).alloc (.cells #[.int .u64 (limb r 0 : Nat), .int .u64 (limb r 1 : Nat), .int .u64 (limb r 2 : Nat), .int .u64 (limb r 3 : Nat)] 24) := ⟨_, rfl⟩
      rw [← hX]
      have HA11 : Hid (NS w11 (w.heap.size + 1) a) := by rw [hX]; exact NS.alloc HA10.out
      have HF11 : Hid (FieldB w11 w.heap.size m) := by rw [hX]; exact FieldB.alloc HF10.out
      have HP11 : Hid (Pend w11 (w.heap.size + 1 + 1)) := by rw [hX]; exact Pend.alloc HP10.out
      have HR11 : Hid (Own4 w11 w10.heap.size r) := by rw [hX]; exact Own4.new _ _ _
      have HW11 : Hid (Below w.heap.size w w11) := by rw [hX]; exact below_alloc0 HW10.out _
      obtain ⟨D, hD⟩ : ∃ D, D = w10.heap.size := ⟨_, rfl⟩
      have HDD : Hid (w.heap.size + 1 + 1 < D) := by rw [hD]; exact HP10.out.2.2
      rw [← hD] at HR11
      rw [← hD]
      clear hX hD HA10 HF10 HP10 HW10
      refine wp_region_H (fun w' => Below w11.heap.size w11 w') 6 rfl (by kernel_rfl) ?_
      refine wpAnyH_take (i := 0) (oi := ?o0_11) (v := ?v0_11) ?hi0_11 (by kernel_rfl) (by kernel_rfl) (by kernel_rfl) ?hQ0_11 ?hy0_11 (Below.drew (Below.refl _ _)) ?more0_11
      case hi0_11 => rw [List.getElem?_toArray]; exact rfl
      case hQ0_11 => exact fun _ _ _ h => h
      case hy0_11 =>
        refine Or.inl ⟨by rfl, ?_⟩
        intro w' hSw
        obtain ⟨⟨fm0, fm1, fm2, fm3⟩, ⟨fg0, fg1, fg2, fg3⟩, fz⟩ := FieldB.factsG ((FieldB.call HF11.out hSw)) HG.out
        clear hSw
        go_simp
        try with_reducible rfl
      simp only [Act.put, List.setIfInBounds_toArray, List.set_cons_zero, List.set_cons_succ]
      refine wpAnyH_take (i := 1) (oi := ?o1_11) (v := ?v1_11) ?hi1_11 (by kernel_rfl) (by kernel_rfl) (by kernel_rfl) ?hQ1_11 ?hy1_11 (Below.drew (Below.refl _ _)) ?more1_11
      case hi1_11 => rw [List.getElem?_toArray]; exact rfl
      case hQ1_11 => exact fun _ _ _ h => h
      case hy1_11 =>
        refine Or.inl ⟨by rfl, ?_⟩
        intro w' hSw
        obtain ⟨⟨r0, r1, r2, r3⟩, ⟨s0, s1, s2, s3⟩, rz⟩ := ((Own4.call HR11.out hSw)).facts
        clear hSw
        go_simp
        try with_reducible rfl
      simp only [Act.put, List.setIfInBounds_toArray, List.set_cons_zero, List.set_cons_succ]
      refine wpAnyH_take (i := 2) (oi := ?o2_11) (v := ?v2_11) ?hi2_11 (by kernel_rfl) (by kernel_rfl) (by kernel_rfl) ?hQ2_11 ?hy2_11 (Below.drew (Below.refl _ _)) ?more2_11
      case hi2_11 => rw [List.getElem?_toArray]; exact rfl
      case hQ2_11 => exact fun _ _ _ h => h
      case hy2_11 =>
        refine Or.inl ⟨by rfl, ?_⟩
        intro w' hSw
        obtain ⟨⟨r0, r1, r2, r3⟩, ⟨s0, s1, s2, s3⟩, rz⟩ := ((Own4.call HR11.out hSw)).facts
        clear hSw
        go_simp
        try with_reducible rfl
      simp only [Act.put, List.setIfInBounds_toArray, List.set_cons_zero, List.set_cons_succ]
      refine wpAnyH_take (i := 4) (oi := ?o4_11) (v := ?v4_11) ?hi4_11 (by kernel_rfl) (by kernel_rfl) (by kernel_rfl) ?hQ4_11 ?hy4_11 (Below.drew (Below.refl _ _)) ?more4_11
      case hi4_11 => rw [List.getElem?_toArray]; exact rfl
      case hQ4_11 => exact fun _ _ _ h => h
      case hy4_11 =>
        refine Or.inl ⟨by rfl, ?_⟩
        intro w' hSw
        obtain ⟨⟨aa0, aa1, aa2, aa3⟩, aaz⟩ := (NS.call HA11.out hSw).facts
        clear hSw
        go_simp
        try with_reducible rfl
      simp only [Act.put, List.setIfInBounds_toArray, List.set_cons_zero, List.set_cons_succ]
      refine wpAnyH_one (i := 3) (o := ?o3_11) (by kernel_rfl) ?hi3_11 ?hw3_11 ?st3_11
      case hi3_11 => rw [List.getElem?_toArray]; exact rfl
      case hw3_11 => exact rfl
      intro K hK
      have HK3 : Hid _ := hK
      clear hK
      go_simp
      refine (K4.out _).mono ?_
      rintro e w12 ⟨rfl, hq⟩
      have HB11_1 : Hid (Below w11.heap.size w11 w12) := below_call0 (Below.drew (Below.refl _ _)) hq
      clear hq
      go_wp2_with fail
      refine HK3.out _ _ ⟨HB11_1.out, ?_⟩
      clear HK3 K
      try simp only [Act.put, List.setIfInBounds_toArray, List.set_cons_zero, List.set_cons_succ]
      refine wpAnyH_take (i := 5) (oi := ?o5_11) (v := ?v5_11) ?hi5_11 (by kernel_rfl) (by kernel_rfl) (by kernel_rfl) ?hQ5_11 ?hy5_11 HB11_1.out ?more5_11
      case hi5_11 => rw [List.getElem?_toArray]; exact rfl
      case hQ5_11 => exact fun _ _ _ h => h
      case hy5_11 =>
        refine Or.inl ⟨by rfl, ?_⟩
        intro w' hSw
        clear hSw
        go_simp
        try with_reducible rfl
      simp only [Act.put, List.setIfInBounds_toArray, List.set_cons_zero, List.set_cons_succ]
      refine wpAnyH_done (by kernel_rfl) ?_ _
      have HA12 : Hid (NS w12 (w.heap.size + 1) a) := NS.call HA11.out HB11_1.out
      have HF12 : Hid (FieldB w12 w.heap.size m) := FieldB.call HF11.out HB11_1.out
      have HP12 : Hid (Pend w12 (w.heap.size + 1 + 1)) := Pend.call HP11.out HB11_1.out
      have HR12 : Hid (Own4 w12 D r) := Own4.call HR11.out HB11_1.out
      have HW12 : Hid (Below w.heap.size w w12) := below_call0 HW11.out HB11_1.out
      clear HA11 HW11 HF11 HP11 HR11 HB11_1
      obtain ⟨⟨p0, p1, p2, p3⟩, ⟨f0, f1, f2, f3⟩, pz⟩ := (HP12.out).facts
      obtain ⟨⟨r0, r1, r2, r3⟩, ⟨s0, s1, s2, s3⟩, rz⟩ := (HR12.out).facts
      go_wp2_with fail
      have W2 := HW12.out
      refine bodyPost_ret (v := .tuple #[.agg #[.int .u64 (limb (r) 0 : Nat), .int .u64 (limb (r) 1 : Nat), .int .u64 (limb (r) 2 : Nat), .int .u64 (limb (r) 3 : Nat)], .int .i64 0]) ?_ rfl ⟨rfl, ?_⟩
      · simp [results, Tryd.results55, go_sem, p0, p1, p2, p3]
      · ((repeat' (first | with_reducible exact Below.refl _ _ | with_reducible refine Below.setCell ?_ ?_ _ | with_reducible refine below_alloc0 ?_ _ | with_reducible refine below_drewN ?_ _ | with_reducible refine Below.drew ?_ | refine below_call0 ?_ (by assumption))) <;> (first | omega | (simp; done) | (simp; omega)))
set_option maxRecDepth 100000 in
set_option maxHeartbeats 4000000 in
theorem sqrt2_odd (m a E q r s x x0 x1 x2 x3 : Nat) (k1 : ∀ w, Calls Tryd.prog 39 #[.agg #[.int .u64 (limb (m) 0 : Nat), .int .u64 (limb (m) 1 : Nat), .int .u64 (limb (m) 2 : Nat), .int .u64 (limb (m) 3 : Nat), .int .u64 (limb (R256 - (m)) 0 : Nat), .int .u64 (limb (R256 - (m)) 1 : Nat), .int .u64 (limb (R256 - (m)) 2 : Nat), .int .u64 (limb (R256 - (m)) 3 : Nat)], .agg #[.int .u64 (limb (a) 0 : Nat), .int .u64 (limb (a) 1 : Nat), .int .u64 (limb (a) 2 : Nat), .int .u64 (limb (a) 3 : Nat)]] w fun e w' => e = .returned (.bool true) ∧ Below w.heap.size w w') (k2 : ∀ w, Calls Tryd.prog 73 #[.agg #[.int .u64 (limb (m) 0 : Nat), .int .u64 (limb (m) 1 : Nat), .int .u64 (limb (m) 2 : Nat), .int .u64 (limb (m) 3 : Nat)], .agg #[.int .u64 1, .int .u64 0, .int .u64 0, .int .u64 0]] w fun e w' => e = .returned (.tuple #[.agg #[.int .u64 (limb (E) 0 : Nat), .int .u64 (limb (E) 1 : Nat), .int .u64 (limb (E) 2 : Nat), .int .u64 (limb (E) 3 : Nat)], .bool false]) ∧ Below w.heap.size w w') (k3 : ∀ w, Calls Tryd.prog 80 #[.agg #[.int .u64 (limb (m) 0 : Nat), .int .u64 (limb (m) 1 : Nat), .int .u64 (limb (m) 2 : Nat), .int .u64 (limb (m) 3 : Nat), .int .u64 (limb (R256 - (m)) 0 : Nat), .int .u64 (limb (R256 - (m)) 1 : Nat), .int .u64 (limb (R256 - (m)) 2 : Nat), .int .u64 (limb (R256 - (m)) 3 : Nat)], .agg #[.int .u64 (limb (a) 0 : Nat), .int .u64 (limb (a) 1 : Nat), .int .u64 (limb (a) 2 : Nat), .int .u64 (limb (a) 3 : Nat)], .agg #[.int .u64 (limb (q) 0 : Nat), .int .u64 (limb (q) 1 : Nat), .int .u64 (limb (q) 2 : Nat), .int .u64 (limb (q) 3 : Nat)]] w fun e w' => e = .returned (.agg #[.int .u64 (limb (r) 0 : Nat), .int .u64 (limb (r) 1 : Nat), .int .u64 (limb (r) 2 : Nat), .int .u64 (limb (r) 3 : Nat)]) ∧ Below w.heap.size w w') (k4 : ∀ w, Calls Tryd.prog 40 #[.agg #[.int .u64 (limb (m) 0 : Nat), .int .u64 (limb (m) 1 : Nat), .int .u64 (limb (m) 2 : Nat), .int .u64 (limb (m) 3 : Nat), .int .u64 (limb (R256 - (m)) 0 : Nat), .int .u64 (limb (R256 - (m)) 1 : Nat), .int .u64 (limb (R256 - (m)) 2 : Nat), .int .u64 (limb (R256 - (m)) 3 : Nat)], .agg #[.int .u64 (limb (r) 0 : Nat), .int .u64 (limb (r) 1 : Nat), .int .u64 (limb (r) 2 : Nat), .int .u64 (limb (r) 3 : Nat)], .agg #[.int .u64 (limb (r) 0 : Nat), .int .u64 (limb (r) 1 : Nat), .int .u64 (limb (r) 2 : Nat), .int .u64 (limb (r) 3 : Nat)]] w fun e w' => e = .returned (.agg #[.int .u64 (limb (s) 0 : Nat), .int .u64 (limb (s) 1 : Nat), .int .u64 (limb (s) 2 : Nat), .int .u64 (limb (s) 3 : Nat)]) ∧ Below w.heap.size w w') (k5 : ∀ w, Calls Tryd.prog 42 #[.agg #[.int .u64 (limb (m) 0 : Nat), .int .u64 (limb (m) 1 : Nat), .int .u64 (limb (m) 2 : Nat), .int .u64 (limb (m) 3 : Nat), .int .u64 (limb (R256 - (m)) 0 : Nat), .int .u64 (limb (R256 - (m)) 1 : Nat), .int .u64 (limb (R256 - (m)) 2 : Nat), .int .u64 (limb (R256 - (m)) 3 : Nat)], .agg #[.int .u64 0, .int .u64 0, .int .u64 0, .int .u64 0], .agg #[.int .u64 (limb (r) 0 : Nat), .int .u64 (limb (r) 1 : Nat), .int .u64 (limb (r) 2 : Nat), .int .u64 (limb (r) 3 : Nat)]] w fun e w' => e = .returned (.agg #[.int .u64 (limb (x) 0 : Nat), .int .u64 (limb (x) 1 : Nat), .int .u64 (limb (x) 2 : Nat), .int .u64 (limb (x) 3 : Nat)]) ∧ Below w.heap.size w w')
    (d0 : (limb E 0 : Int) / 4 = (x0 : Nat))
    (d1 : (limb E 1 : Int) / 4 = (x1 : Nat))
    (d2 : (limb E 2 : Int) / 4 = (x2 : Nat))
    (d3 : (limb E 3 : Int) / 4 = (x3 : Nat))
    (l0 : bits .or .u64 (x0 : Int) (IntKind.u64.wrap ((limb E 1 : Int) * 4611686018427387904)) = (limb q 0 : Nat))
    (l1 : bits .or .u64 (x1 : Int) (IntKind.u64.wrap ((limb E 2 : Int) * 4611686018427387904)) = (limb q 1 : Nat))
    (l2 : bits .or .u64 (x2 : Int) (IntKind.u64.wrap ((limb E 3 : Int) * 4611686018427387904)) = (limb q 2 : Nat))
    (hx3 : x3 = limb q 3) (hs : eq4 (limb s 0 : Nat) (limb s 1 : Nat) (limb s 2 : Nat) (limb s 3 : Nat) (limb a 0 : Nat) (limb a 1 : Nat) (limb a 2 : Nat) (limb a 3 : Nat) = true) (hp2 : (limb r 0 : Int).tmod 2 = 1) (w : World) :
    Calls Tryd.prog 55 #[.agg #[.int .u64 (limb (m) 0 : Nat), .int .u64 (limb (m) 1 : Nat), .int .u64 (limb (m) 2 : Nat), .int .u64 (limb (m) 3 : Nat), .int .u64 (limb (R256 - (m)) 0 : Nat), .int .u64 (limb (R256 - (m)) 1 : Nat), .int .u64 (limb (R256 - (m)) 2 : Nat), .int .u64 (limb (R256 - (m)) 3 : Nat)], .agg #[.int .u64 (limb (a) 0 : Nat), .int .u64 (limb (a) 1 : Nat), .int .u64 (limb (a) 2 : Nat), .int .u64 (limb (a) 3 : Nat)], .bool true] w fun e w' => e = .returned (.tuple #[.agg #[.int .u64 (limb (x) 0 : Nat), .int .u64 (limb (x) 1 : Nat), .int .u64 (limb (x) 2 : Nat), .int .u64 (limb (x) 3 : Nat)], .int .i64 0]) ∧ Below w.heap.size w w' := by
  obtain ⟨G, hG⟩ : ∃ G, G = R256 - m := ⟨_, rfl⟩
  have HFN : Hid (∀ W t, FieldB ((W : World).alloc (.cells #[.int .u64 (limb m 0 : Nat), .int .u64 (limb m 1 : Nat), .int .u64 (limb m 2 : Nat), .int .u64 (limb m 3 : Nat), .int .u64 (limb (R256 - m) 0 : Nat), .int .u64 (limb (R256 - m) 1 : Nat), .int .u64 (limb (R256 - m) 2 : Nat), .int .u64 (limb (R256 - m) 3 : Nat)] t)) W.heap.size m) := fun W t => FieldB.new W m t
  rw [← hG] at HFN k1 k3 k4 k5
  rw [← hG]
  have HG : Hid (G = R256 - m) := hG
  have K1 : Hid _ := k1
  have K3 : Hid _ := k3
  have K4 : Hid _ := k4
  have K5 : Hid _ := k5
  have K2 : Hid _ := k2
  have HX : Hid (x3 = limb q 3) := hx3
  have wr1 : IntKind.i64.wrap 1 = 1 := by rw [IntKind.wrap_i64]; omega
  have wr2 : IntKind.i64.wrap 2 = 2 := by rw [IntKind.wrap_i64]; omega
  have wr3 : IntKind.i64.wrap 3 = 3 := by rw [IntKind.wrap_i64]; omega
  clear hG hx3 k2 k1 k3 k4 k5
  go_enter Tryd.func55, Tryd.ntmps55
  go_wp2_with fail
  obtain ⟨Y, hY⟩ : ∃ Y, Y = ((w.alloc (.cells #[.int .u64 (limb m 0 : Nat), .int .u64 (limb m 1 : Nat), .int .u64 (limb m 2 : Nat), .int .u64 (limb m 3 : Nat), .int .u64 (limb G 0 : Nat), .int .u64 (limb G 1 : Nat), .int .u64 (limb G 2 : Nat), .int .u64 (limb G 3 : Nat)] 77)).alloc (.cells #[.int .u64 (limb a 0 : Nat), .int .u64 (limb a 1 : Nat), .int .u64 (limb a 2 : Nat), .int .u64 (limb a 3 : Nat)] 24)).alloc (.cells #[.int .u64 0, .int .u64 0, .int .u64 0, .int .u64 0] 24) := ⟨_, rfl⟩
  rw [← hY]
  have HF : Hid (FieldB Y w.heap.size m) := by rw [hY]; exact FieldB.alloc (FieldB.alloc (HFN.out w _))
  have HA : Hid (NS Y (w.heap.size + 1) a) := by
    rw [hY]
    have t := NS.alloc (o := .cells #[.int .u64 0, .int .u64 0, .int .u64 0, .int .u64 0] 24) (NS.new (w.alloc (.cells #[.int .u64 (limb m 0 : Nat), .int .u64 (limb m 1 : Nat), .int .u64 (limb m 2 : Nat), .int .u64 (limb m 3 : Nat), .int .u64 (limb G 0 : Nat), .int .u64 (limb G 1 : Nat), .int .u64 (limb G 2 : Nat), .int .u64 (limb G 3 : Nat)] 77)) a 24)
    simp only [World.size_alloc] at t
    exact t
  have HP : Hid (Pend Y (w.heap.size + 1 + 1)) := by
    rw [hY]
    have t := Pend.new ((w.alloc (.cells #[.int .u64 (limb m 0 : Nat), .int .u64 (limb m 1 : Nat), .int .u64 (limb m 2 : Nat), .int .u64 (limb m 3 : Nat), .int .u64 (limb G 0 : Nat), .int .u64 (limb G 1 : Nat), .int .u64 (limb G 2 : Nat), .int .u64 (limb G 3 : Nat)] 77)).alloc (.cells #[.int .u64 (limb a 0 : Nat), .int .u64 (limb a 1 : Nat), .int .u64 (limb a 2 : Nat), .int .u64 (limb a 3 : Nat)] 24)) 24
    simp only [World.size_alloc] at t
    exact t
  have HW : Hid (Below w.heap.size w Y) := by rw [hY]; exact below_alloc0 (below_alloc0 (below_alloc0 (Below.refl _ _) _) _) _
  clear hY HFN
  obtain ⟨m0, m1, m2, m3⟩ := HF.out.1.facts
  obtain ⟨g0, g1, g2, g3⟩ := HF.out.gap
  rw [← HG.out] at g0 g1 g2 g3
  have mz := HF.out.2.2
  obtain ⟨⟨a0, a1, a2, a3⟩, az⟩ := HA.out.facts
  go_wp2_with fail
  refine (K1.out _).mono ?_
  rintro e w1 ⟨rfl, hq1⟩
  replace HF : Hid (FieldB w1 w.heap.size m) := FieldB.call HF.out hq1
  replace HA : Hid (NS w1 (w.heap.size + 1) a) := NS.call HA.out hq1
  replace HP : Hid (Pend w1 (w.heap.size + 1 + 1)) := Pend.call HP.out hq1
  replace HW : Hid (Below w.heap.size w w1) := below_call0 HW.out hq1
  clear hq1 m0 m1 m2 m3 g0 g1 g2 g3 mz a0 a1 a2 a3 az
  obtain ⟨m0, m1, m2, m3⟩ := HF.out.1.facts
  obtain ⟨g0, g1, g2, g3⟩ := HF.out.gap
  rw [← HG.out] at g0 g1 g2 g3
  have mz := HF.out.2.2
  obtain ⟨⟨a0, a1, a2, a3⟩, az⟩ := HA.out.facts
  go_wp2_with fail
  refine (K2.out _).mono ?_
  rintro e w2 ⟨rfl, hq2⟩
  replace HF : Hid (FieldB w2 w.heap.size m) := FieldB.call HF.out hq2
  replace HA : Hid (NS w2 (w.heap.size + 1) a) := NS.call HA.out hq2
  replace HP : Hid (Pend w2 (w.heap.size + 1 + 1)) := Pend.call HP.out hq2
  replace HW : Hid (Below w.heap.size w w2) := below_call0 HW.out hq2
  clear hq2 m0 m1 m2 m3 g0 g1 g2 g3 mz a0 a1 a2 a3 az
  obtain ⟨B, hB0⟩ : ∃ B, B = w2.heap.size := ⟨_, rfl⟩
  have hB : w.heap.size + 1 + 1 < B := by rw [hB0]; exact HP.out.2.2
  have HS0 : Hid (SqAt w ((w2.alloc (.cells #[.int .u64 (limb E 0 : Nat), .int .u64 (limb E 1 : Nat), .int .u64 (limb E 2 : Nat), .int .u64 (limb E 3 : Nat)] 24)).alloc (.cells #[.int .u64 0, .int .u64 0, .int .u64 0, .int .u64 0] 24)) m a B E (fun _ => 0)) := by
    have t := Pend.new (w2.alloc (.cells #[.int .u64 (limb E 0 : Nat), .int .u64 (limb E 1 : Nat), .int .u64 (limb E 2 : Nat), .int .u64 (limb E 3 : Nat)] 24)) 24
    simp only [World.size_alloc, ← hB0] at t
    exact ⟨FieldB.alloc (FieldB.alloc HF.out), NS.alloc (NS.alloc HA.out), Pend.alloc (Pend.alloc HP.out), by rw [hB0]; exact NS.alloc (NS.new _ _ _), t, below_alloc0 (below_alloc0 HW.out _) _⟩
  have HB0 : Hid (B = w2.heap.size) := hB0
  clear hB0 HF HA HP HW K1 K2
  go_wp2_with fail
  rw [← HB0.out]
  go_loopw [11] (fun v wx => ∃ (i : Nat) (f : Nat → Nat), i ≤ 4 ∧ v = .int .i64 i ∧ (∀ j, j < i → f j = limb q j) ∧ SqAt w wx m a B E f) (fun v _ => 4 - (intOf v).toNat)
  case atStart => exact ⟨0, _, by omega, rfl, fun j hj => absurd hj (by omega), HS0.out⟩
  case round =>
    clear HS0 HB0
    obtain ⟨i, f, hi, rfl, hf, hS⟩ := hrel
    rcases (show i = 0 ∨ i = 1 ∨ i = 2 ∨ i = 3 ∨ i = 4 by omega) with rfl | rfl | rfl | rfl | rfl
    · obtain ⟨⟨e0, e1, e2, e3⟩, ez⟩ := hS.2.2.2.1.facts
      have q0 := hS.2.2.2.2.1.1 0 (by omega)
      have f0 := hS.2.2.2.2.1.2.1 0 (by omega)
      have qz := hS.2.2.2.2.1.2.2
      have X1 : Hid (SqAt w _ m a B E _) := hS.put hB 0 x0 (by omega)
      have X2 : Hid (SqAt w _ m a B E _) := X1.out.put hB 0 (limb q 0) (by omega)
      have HN : Hid (∀ j, j < 1 → (fun j => if j = 0 then limb q 0 else (fun j => if j = 0 then x0 else f j) j) j = limb q j) := by
        intro j hj
        show (if j = 0 then limb q 0 else (if j = 0 then x0 else f j)) = limb q j
        by_cases h : j = 0
        · rw [if_pos h, h]
        · rw [if_neg h, if_neg h]; exact hf j (by omega)
      clear hS hf
      go_wp2_with fail
      refine wp_region_N (fun w' => SqAt w w' m a B E (fun j => if j = 0 then x0 else f j)) 11 12 rfl (by kernel_rfl) ?_
      refine wpAnyN_take (i := 0) (oi := ?o0_0) (v := ?v0_0) ?hi0_0 (by kernel_rfl) (by kernel_rfl) (by kernel_rfl) (by kernel_rfl) (by decide) (by kernel_rfl) ?hQ0_0 ?hy0_0 (SqAt.drew X1.out) ?more0_0
      case hi0_0 => rw [List.getElem?_toArray]; exact rfl
      case hQ0_0 => exact fun _ _ _ h => h
      case hy0_0 =>
        refine Or.inl ⟨by rfl, ?_⟩
        intro w' hSw
        have hS' : SqAt w w' m a B E (fun j => if j = 0 then x0 else f j) := hSw
        obtain ⟨⟨e0, e1, e2, e3⟩, ez⟩ := hS'.2.2.2.1.facts
        have q0 : w'.cell? ⟨B + 1, 0, none⟩ = some (.int .u64 (x0 : Nat)) := hS'.2.2.2.2.1.1 0 (by omega)
        have qz := hS'.2.2.2.2.1.2.2
        clear hSw hS'
        go_simp
        try with_reducible rfl
      simp only [Act.put, List.setIfInBounds_toArray, List.set_cons_zero, List.set_cons_succ]
      refine wpAnyN_take (i := 1) (oi := ?o1_0) (v := ?v1_0) ?hi1_0 (by kernel_rfl) (by kernel_rfl) (by kernel_rfl) (by kernel_rfl) (by decide) (by kernel_rfl) ?hQ1_0 ?hy1_0 (SqAt.drew X1.out) ?more1_0
      case hi1_0 => rw [List.getElem?_toArray]; exact rfl
      case hQ1_0 => exact fun _ _ _ h => h
      case hy1_0 =>
        refine Or.inl ⟨by rfl, ?_⟩
        intro w' hSw
        have hS' : SqAt w w' m a B E (fun j => if j = 0 then x0 else f j) := hSw
        obtain ⟨⟨e0, e1, e2, e3⟩, ez⟩ := hS'.2.2.2.1.facts
        have q0 : w'.cell? ⟨B + 1, 0, none⟩ = some (.int .u64 (x0 : Nat)) := hS'.2.2.2.2.1.1 0 (by omega)
        have qz := hS'.2.2.2.2.1.2.2
        clear hSw hS'
        go_simp
        try with_reducible rfl
      simp only [Act.put, List.setIfInBounds_toArray, List.set_cons_zero, List.set_cons_succ]
      refine wpAnyN_take (i := 2) (oi := ?o2_0) (v := ?v2_0) ?hi2_0 (by kernel_rfl) (by kernel_rfl) (by kernel_rfl) (by kernel_rfl) (by decide) (by kernel_rfl) ?hQ2_0 ?hy2_0 (SqAt.drew X1.out) ?more2_0
      case hi2_0 => rw [List.getElem?_toArray]; exact rfl
      case hQ2_0 => exact fun _ _ _ h => h
      case hy2_0 =>
        refine Or.inl ⟨by rfl, ?_⟩
        intro w' hSw
        have hS' : SqAt w w' m a B E (fun j => if j = 0 then x0 else f j) := hSw
        obtain ⟨⟨e0, e1, e2, e3⟩, ez⟩ := hS'.2.2.2.1.facts
        have q0 : w'.cell? ⟨B + 1, 0, none⟩ = some (.int .u64 (x0 : Nat)) := hS'.2.2.2.2.1.1 0 (by omega)
        have qz := hS'.2.2.2.2.1.2.2
        clear hSw hS'
        go_simp
        try with_reducible rfl
      simp only [Act.put, List.setIfInBounds_toArray, List.set_cons_zero, List.set_cons_succ]
      refine wpAnyN_take (i := 3) (oi := ?o3_0) (v := ?v3_0) ?hi3_0 (by kernel_rfl) (by kernel_rfl) (by kernel_rfl) (by kernel_rfl) (by decide) (by kernel_rfl) ?hQ3_0 ?hy3_0 (SqAt.drew X1.out) ?more3_0
      case hi3_0 => rw [List.getElem?_toArray]; exact rfl
      case hQ3_0 => exact fun _ _ _ h => h
      case hy3_0 =>
        refine Or.inl ⟨by rfl, ?_⟩
        intro w' hSw
        have hS' : SqAt w w' m a B E (fun j => if j = 0 then x0 else f j) := hSw
        obtain ⟨⟨e0, e1, e2, e3⟩, ez⟩ := hS'.2.2.2.1.facts
        have q0 : w'.cell? ⟨B + 1, 0, none⟩ = some (.int .u64 (x0 : Nat)) := hS'.2.2.2.2.1.1 0 (by omega)
        have qz := hS'.2.2.2.2.1.2.2
        clear hSw hS'
        go_simp
        try with_reducible rfl
      simp only [Act.put, List.setIfInBounds_toArray, List.set_cons_zero, List.set_cons_succ]
      refine wpAnyN_take (i := 4) (oi := ?o4_0) (v := ?v4_0) ?hi4_0 (by kernel_rfl) (by kernel_rfl) (by kernel_rfl) (by kernel_rfl) (by decide) (by kernel_rfl) ?hQ4_0 ?hy4_0 (SqAt.drew X1.out) ?more4_0
      case hi4_0 => rw [List.getElem?_toArray]; exact rfl
      case hQ4_0 => exact fun _ _ _ h => h
      case hy4_0 =>
        refine Or.inl ⟨by rfl, ?_⟩
        intro w' hSw
        have hS' : SqAt w w' m a B E (fun j => if j = 0 then x0 else f j) := hSw
        obtain ⟨⟨e0, e1, e2, e3⟩, ez⟩ := hS'.2.2.2.1.facts
        have q0 : w'.cell? ⟨B + 1, 0, none⟩ = some (.int .u64 (x0 : Nat)) := hS'.2.2.2.2.1.1 0 (by omega)
        have qz := hS'.2.2.2.2.1.2.2
        clear hSw hS'
        go_simp
        try with_reducible rfl
      simp only [Act.put, List.setIfInBounds_toArray, List.set_cons_zero, List.set_cons_succ]
      refine wpAnyN_take (i := 5) (oi := ?o5_0) (v := ?v5_0) ?hi5_0 (by kernel_rfl) (by kernel_rfl) (by kernel_rfl) (by kernel_rfl) (by decide) (by kernel_rfl) ?hQ5_0 ?hy5_0 (SqAt.drew X1.out) ?more5_0
      case hi5_0 => rw [List.getElem?_toArray]; exact rfl
      case hQ5_0 => exact fun _ _ _ h => h
      case hy5_0 =>
        refine Or.inl ⟨by rfl, ?_⟩
        intro w' hSw
        have hS' : SqAt w w' m a B E (fun j => if j = 0 then x0 else f j) := hSw
        obtain ⟨⟨e0, e1, e2, e3⟩, ez⟩ := hS'.2.2.2.1.facts
        have q0 : w'.cell? ⟨B + 1, 0, none⟩ = some (.int .u64 (x0 : Nat)) := hS'.2.2.2.2.1.1 0 (by omega)
        have qz := hS'.2.2.2.2.1.2.2
        clear hSw hS'
        go_simp
        try with_reducible rfl
      simp only [Act.put, List.setIfInBounds_toArray, List.set_cons_zero, List.set_cons_succ]
      refine wpAnyN_take (i := 6) (oi := ?o6_0) (v := ?v6_0) ?hi6_0 (by kernel_rfl) (by kernel_rfl) (by kernel_rfl) (by kernel_rfl) (by decide) (by kernel_rfl) ?hQ6_0 ?hy6_0 (SqAt.drew X1.out) ?more6_0
      case hi6_0 => rw [List.getElem?_toArray]; exact rfl
      case hQ6_0 => exact fun _ _ _ h => h
      case hy6_0 =>
        refine Or.inl ⟨by rfl, ?_⟩
        intro w' hSw
        have hS' : SqAt w w' m a B E (fun j => if j = 0 then x0 else f j) := hSw
        obtain ⟨⟨e0, e1, e2, e3⟩, ez⟩ := hS'.2.2.2.1.facts
        have q0 : w'.cell? ⟨B + 1, 0, none⟩ = some (.int .u64 (x0 : Nat)) := hS'.2.2.2.2.1.1 0 (by omega)
        have qz := hS'.2.2.2.2.1.2.2
        clear hSw hS'
        go_simp
        try with_reducible rfl
      simp only [Act.put, List.setIfInBounds_toArray, List.set_cons_zero, List.set_cons_succ]
      refine wpAnyN_take (i := 7) (oi := ?o7_0) (v := ?v7_0) ?hi7_0 (by kernel_rfl) (by kernel_rfl) (by kernel_rfl) (by kernel_rfl) (by decide) (by kernel_rfl) ?hQ7_0 ?hy7_0 (SqAt.drew X1.out) ?more7_0
      case hi7_0 => rw [List.getElem?_toArray]; exact rfl
      case hQ7_0 => exact fun _ _ _ h => h
      case hy7_0 =>
        refine Or.inl ⟨by rfl, ?_⟩
        intro w' hSw
        have hS' : SqAt w w' m a B E (fun j => if j = 0 then x0 else f j) := hSw
        obtain ⟨⟨e0, e1, e2, e3⟩, ez⟩ := hS'.2.2.2.1.facts
        have q0 : w'.cell? ⟨B + 1, 0, none⟩ = some (.int .u64 (x0 : Nat)) := hS'.2.2.2.2.1.1 0 (by omega)
        have qz := hS'.2.2.2.2.1.2.2
        clear hSw hS'
        go_simp
        try with_reducible rfl
      simp only [Act.put, List.setIfInBounds_toArray, List.set_cons_zero, List.set_cons_succ]
      refine wpAnyN_take (i := 8) (oi := ?o8_0) (v := ?v8_0) ?hi8_0 (by kernel_rfl) (by kernel_rfl) (by kernel_rfl) (by kernel_rfl) (by decide) (by kernel_rfl) ?hQ8_0 ?hy8_0 (SqAt.drew X1.out) ?more8_0
      case hi8_0 => rw [List.getElem?_toArray]; exact rfl
      case hQ8_0 => exact fun _ _ _ h => h
      case hy8_0 =>
        refine Or.inl ⟨by rfl, ?_⟩
        intro w' hSw
        have hS' : SqAt w w' m a B E (fun j => if j = 0 then x0 else f j) := hSw
        obtain ⟨⟨e0, e1, e2, e3⟩, ez⟩ := hS'.2.2.2.1.facts
        have q0 : w'.cell? ⟨B + 1, 0, none⟩ = some (.int .u64 (x0 : Nat)) := hS'.2.2.2.2.1.1 0 (by omega)
        have qz := hS'.2.2.2.2.1.2.2
        clear hSw hS'
        go_simp
        try with_reducible rfl
      simp only [Act.put, List.setIfInBounds_toArray, List.set_cons_zero, List.set_cons_succ]
      refine wpAnyN_take (i := 9) (oi := ?o9_0) (v := ?v9_0) ?hi9_0 (by kernel_rfl) (by kernel_rfl) (by kernel_rfl) (by kernel_rfl) (by decide) (by kernel_rfl) ?hQ9_0 ?hy9_0 (SqAt.drew X1.out) ?more9_0
      case hi9_0 => rw [List.getElem?_toArray]; exact rfl
      case hQ9_0 => exact fun _ _ _ h => h
      case hy9_0 =>
        refine Or.inl ⟨by rfl, ?_⟩
        intro w' hSw
        have hS' : SqAt w w' m a B E (fun j => if j = 0 then x0 else f j) := hSw
        obtain ⟨⟨e0, e1, e2, e3⟩, ez⟩ := hS'.2.2.2.1.facts
        have q0 : w'.cell? ⟨B + 1, 0, none⟩ = some (.int .u64 (x0 : Nat)) := hS'.2.2.2.2.1.1 0 (by omega)
        have qz := hS'.2.2.2.2.1.2.2
        clear hSw hS'
        go_simp
        try with_reducible rfl
      simp only [Act.put, List.setIfInBounds_toArray, List.set_cons_zero, List.set_cons_succ]
      refine wpAnyN_take (i := 10) (oi := ?o10_0) (v := ?v10_0) ?hi10_0 (by kernel_rfl) (by kernel_rfl) (by kernel_rfl) (by kernel_rfl) (by decide) (by kernel_rfl) ?hQ10_0 ?hy10_0 (SqAt.drew X1.out) ?more10_0
      case hi10_0 => rw [List.getElem?_toArray]; exact rfl
      case hQ10_0 => exact fun _ _ _ h => h
      case hy10_0 =>
        refine Or.inl ⟨by rfl, ?_⟩
        intro w' hSw
        have hS' : SqAt w w' m a B E (fun j => if j = 0 then x0 else f j) := hSw
        obtain ⟨⟨e0, e1, e2, e3⟩, ez⟩ := hS'.2.2.2.1.facts
        have q0 : w'.cell? ⟨B + 1, 0, none⟩ = some (.int .u64 (x0 : Nat)) := hS'.2.2.2.2.1.1 0 (by omega)
        have qz := hS'.2.2.2.2.1.2.2
        clear hSw hS'
        go_simp
        try with_reducible rfl
      simp only [Act.put, List.setIfInBounds_toArray, List.set_cons_zero, List.set_cons_succ]
      refine wpAnyN_one (i := 11) (o := ?o11_0) (by kernel_rfl) ?hi11_0 ?hw11_0 ?st11_0
      case hi11_0 => rw [List.getElem?_toArray]; exact rfl
      case hw11_0 => exact rfl
      intro K hK
      have HK11 : Hid _ := hK
      clear hK
      go_simp
      refine HK11.out _ _ ⟨fun h => absurd h (by decide +kernel), ?_⟩
      clear HK11 K
      try simp only [Act.put, List.setIfInBounds_toArray, List.set_cons_zero, List.set_cons_succ]
      refine wpAnyN_done (by kernel_rfl) ?_ _
      go_wp2_with fail
      go_roundw
      case rel => exact ⟨1, _, by omega, by first | rfl | go_num, HN.out, X2.out.drew⟩
      case measure => simp [intOf]
    · obtain ⟨⟨e0, e1, e2, e3⟩, ez⟩ := hS.2.2.2.1.facts
      have q0 := hS.2.2.2.2.1.1 1 (by omega)
      have f0 := hS.2.2.2.2.1.2.1 1 (by omega)
      have qz := hS.2.2.2.2.1.2.2
      have X1 : Hid (SqAt w _ m a B E _) := hS.put hB 1 x1 (by omega)
      have X2 : Hid (SqAt w _ m a B E _) := X1.out.put hB 1 (limb q 1) (by omega)
      have HN : Hid (∀ j, j < 2 → (fun j => if j = 1 then limb q 1 else (fun j => if j = 1 then x1 else f j) j) j = limb q j) := by
        intro j hj
        show (if j = 1 then limb q 1 else (if j = 1 then x1 else f j)) = limb q j
        by_cases h : j = 1
        · rw [if_pos h, h]
        · rw [if_neg h, if_neg h]; exact hf j (by omega)
      clear hS hf
      go_wp2_with fail
      refine wp_region_N (fun w' => SqAt w w' m a B E (fun j => if j = 1 then x1 else f j)) 11 12 rfl (by kernel_rfl) ?_
      refine wpAnyN_take (i := 0) (oi := ?o0_1) (v := ?v0_1) ?hi0_1 (by kernel_rfl) (by kernel_rfl) (by kernel_rfl) (by kernel_rfl) (by decide) (by kernel_rfl) ?hQ0_1 ?hy0_1 (SqAt.drew X1.out) ?more0_1
      case hi0_1 => rw [List.getElem?_toArray]; exact rfl
      case hQ0_1 => exact fun _ _ _ h => h
      case hy0_1 =>
        refine Or.inl ⟨by rfl, ?_⟩
        intro w' hSw
        have hS' : SqAt w w' m a B E (fun j => if j = 1 then x1 else f j) := hSw
        obtain ⟨⟨e0, e1, e2, e3⟩, ez⟩ := hS'.2.2.2.1.facts
        have q0 : w'.cell? ⟨B + 1, 1, none⟩ = some (.int .u64 (x1 : Nat)) := hS'.2.2.2.2.1.1 1 (by omega)
        have qz := hS'.2.2.2.2.1.2.2
        clear hSw hS'
        go_simp
        try with_reducible rfl
      simp only [Act.put, List.setIfInBounds_toArray, List.set_cons_zero, List.set_cons_succ]
      refine wpAnyN_take (i := 1) (oi := ?o1_1) (v := ?v1_1) ?hi1_1 (by kernel_rfl) (by kernel_rfl) (by kernel_rfl) (by kernel_rfl) (by decide) (by kernel_rfl) ?hQ1_1 ?hy1_1 (SqAt.drew X1.out) ?more1_1
      case hi1_1 => rw [List.getElem?_toArray]; exact rfl
      case hQ1_1 => exact fun _ _ _ h => h
      case hy1_1 =>
        refine Or.inl ⟨by rfl, ?_⟩
        intro w' hSw
        have hS' : SqAt w w' m a B E (fun j => if j = 1 then x1 else f j) := hSw
        obtain ⟨⟨e0, e1, e2, e3⟩, ez⟩ := hS'.2.2.2.1.facts
        have q0 : w'.cell? ⟨B + 1, 1, none⟩ = some (.int .u64 (x1 : Nat)) := hS'.2.2.2.2.1.1 1 (by omega)
        have qz := hS'.2.2.2.2.1.2.2
        clear hSw hS'
        go_simp
        try with_reducible rfl
      simp only [Act.put, List.setIfInBounds_toArray, List.set_cons_zero, List.set_cons_succ]
      refine wpAnyN_take (i := 2) (oi := ?o2_1) (v := ?v2_1) ?hi2_1 (by kernel_rfl) (by kernel_rfl) (by kernel_rfl) (by kernel_rfl) (by decide) (by kernel_rfl) ?hQ2_1 ?hy2_1 (SqAt.drew X1.out) ?more2_1
      case hi2_1 => rw [List.getElem?_toArray]; exact rfl
      case hQ2_1 => exact fun _ _ _ h => h
      case hy2_1 =>
        refine Or.inl ⟨by rfl, ?_⟩
        intro w' hSw
        have hS' : SqAt w w' m a B E (fun j => if j = 1 then x1 else f j) := hSw
        obtain ⟨⟨e0, e1, e2, e3⟩, ez⟩ := hS'.2.2.2.1.facts
        have q0 : w'.cell? ⟨B + 1, 1, none⟩ = some (.int .u64 (x1 : Nat)) := hS'.2.2.2.2.1.1 1 (by omega)
        have qz := hS'.2.2.2.2.1.2.2
        clear hSw hS'
        go_simp
        try with_reducible rfl
      simp only [Act.put, List.setIfInBounds_toArray, List.set_cons_zero, List.set_cons_succ]
      refine wpAnyN_take (i := 3) (oi := ?o3_1) (v := ?v3_1) ?hi3_1 (by kernel_rfl) (by kernel_rfl) (by kernel_rfl) (by kernel_rfl) (by decide) (by kernel_rfl) ?hQ3_1 ?hy3_1 (SqAt.drew X1.out) ?more3_1
      case hi3_1 => rw [List.getElem?_toArray]; exact rfl
      case hQ3_1 => exact fun _ _ _ h => h
      case hy3_1 =>
        refine Or.inl ⟨by rfl, ?_⟩
        intro w' hSw
        have hS' : SqAt w w' m a B E (fun j => if j = 1 then x1 else f j) := hSw
        obtain ⟨⟨e0, e1, e2, e3⟩, ez⟩ := hS'.2.2.2.1.facts
        have q0 : w'.cell? ⟨B + 1, 1, none⟩ = some (.int .u64 (x1 : Nat)) := hS'.2.2.2.2.1.1 1 (by omega)
        have qz := hS'.2.2.2.2.1.2.2
        clear hSw hS'
        go_simp
        try with_reducible rfl
      simp only [Act.put, List.setIfInBounds_toArray, List.set_cons_zero, List.set_cons_succ]
      refine wpAnyN_take (i := 4) (oi := ?o4_1) (v := ?v4_1) ?hi4_1 (by kernel_rfl) (by kernel_rfl) (by kernel_rfl) (by kernel_rfl) (by decide) (by kernel_rfl) ?hQ4_1 ?hy4_1 (SqAt.drew X1.out) ?more4_1
      case hi4_1 => rw [List.getElem?_toArray]; exact rfl
      case hQ4_1 => exact fun _ _ _ h => h
      case hy4_1 =>
        refine Or.inl ⟨by rfl, ?_⟩
        intro w' hSw
        have hS' : SqAt w w' m a B E (fun j => if j = 1 then x1 else f j) := hSw
        obtain ⟨⟨e0, e1, e2, e3⟩, ez⟩ := hS'.2.2.2.1.facts
        have q0 : w'.cell? ⟨B + 1, 1, none⟩ = some (.int .u64 (x1 : Nat)) := hS'.2.2.2.2.1.1 1 (by omega)
        have qz := hS'.2.2.2.2.1.2.2
        clear hSw hS'
        go_simp
        try with_reducible rfl
      simp only [Act.put, List.setIfInBounds_toArray, List.set_cons_zero, List.set_cons_succ]
      refine wpAnyN_take (i := 5) (oi := ?o5_1) (v := ?v5_1) ?hi5_1 (by kernel_rfl) (by kernel_rfl) (by kernel_rfl) (by kernel_rfl) (by decide) (by kernel_rfl) ?hQ5_1 ?hy5_1 (SqAt.drew X1.out) ?more5_1
      case hi5_1 => rw [List.getElem?_toArray]; exact rfl
      case hQ5_1 => exact fun _ _ _ h => h
      case hy5_1 =>
        refine Or.inl ⟨by rfl, ?_⟩
        intro w' hSw
        have hS' : SqAt w w' m a B E (fun j => if j = 1 then x1 else f j) := hSw
        obtain ⟨⟨e0, e1, e2, e3⟩, ez⟩ := hS'.2.2.2.1.facts
        have q0 : w'.cell? ⟨B + 1, 1, none⟩ = some (.int .u64 (x1 : Nat)) := hS'.2.2.2.2.1.1 1 (by omega)
        have qz := hS'.2.2.2.2.1.2.2
        clear hSw hS'
        go_simp
        try with_reducible rfl
      simp only [Act.put, List.setIfInBounds_toArray, List.set_cons_zero, List.set_cons_succ]
      refine wpAnyN_take (i := 6) (oi := ?o6_1) (v := ?v6_1) ?hi6_1 (by kernel_rfl) (by kernel_rfl) (by kernel_rfl) (by kernel_rfl) (by decide) (by kernel_rfl) ?hQ6_1 ?hy6_1 (SqAt.drew X1.out) ?more6_1
      case hi6_1 => rw [List.getElem?_toArray]; exact rfl
      case hQ6_1 => exact fun _ _ _ h => h
      case hy6_1 =>
        refine Or.inl ⟨by rfl, ?_⟩
        intro w' hSw
        have hS' : SqAt w w' m a B E (fun j => if j = 1 then x1 else f j) := hSw
        obtain ⟨⟨e0, e1, e2, e3⟩, ez⟩ := hS'.2.2.2.1.facts
        have q0 : w'.cell? ⟨B + 1, 1, none⟩ = some (.int .u64 (x1 : Nat)) := hS'.2.2.2.2.1.1 1 (by omega)
        have qz := hS'.2.2.2.2.1.2.2
        clear hSw hS'
        go_simp
        try with_reducible rfl
      simp only [Act.put, List.setIfInBounds_toArray, List.set_cons_zero, List.set_cons_succ]
      refine wpAnyN_take (i := 7) (oi := ?o7_1) (v := ?v7_1) ?hi7_1 (by kernel_rfl) (by kernel_rfl) (by kernel_rfl) (by kernel_rfl) (by decide) (by kernel_rfl) ?hQ7_1 ?hy7_1 (SqAt.drew X1.out) ?more7_1
      case hi7_1 => rw [List.getElem?_toArray]; exact rfl
      case hQ7_1 => exact fun _ _ _ h => h
      case hy7_1 =>
        refine Or.inl ⟨by rfl, ?_⟩
        intro w' hSw
        have hS' : SqAt w w' m a B E (fun j => if j = 1 then x1 else f j) := hSw
        obtain ⟨⟨e0, e1, e2, e3⟩, ez⟩ := hS'.2.2.2.1.facts
        have q0 : w'.cell? ⟨B + 1, 1, none⟩ = some (.int .u64 (x1 : Nat)) := hS'.2.2.2.2.1.1 1 (by omega)
        have qz := hS'.2.2.2.2.1.2.2
        clear hSw hS'
        go_simp
        try with_reducible rfl
      simp only [Act.put, List.setIfInBounds_toArray, List.set_cons_zero, List.set_cons_succ]
      refine wpAnyN_take (i := 8) (oi := ?o8_1) (v := ?v8_1) ?hi8_1 (by kernel_rfl) (by kernel_rfl) (by kernel_rfl) (by kernel_rfl) (by decide) (by kernel_rfl) ?hQ8_1 ?hy8_1 (SqAt.drew X1.out) ?more8_1
      case hi8_1 => rw [List.getElem?_toArray]; exact rfl
      case hQ8_1 => exact fun _ _ _ h => h
      case hy8_1 =>
        refine Or.inl ⟨by rfl, ?_⟩
        intro w' hSw
        have hS' : SqAt w w' m a B E (fun j => if j = 1 then x1 else f j) := hSw
        obtain ⟨⟨e0, e1, e2, e3⟩, ez⟩ := hS'.2.2.2.1.facts
        have q0 : w'.cell? ⟨B + 1, 1, none⟩ = some (.int .u64 (x1 : Nat)) := hS'.2.2.2.2.1.1 1 (by omega)
        have qz := hS'.2.2.2.2.1.2.2
        clear hSw hS'
        go_simp
        try with_reducible rfl
      simp only [Act.put, List.setIfInBounds_toArray, List.set_cons_zero, List.set_cons_succ]
      refine wpAnyN_take (i := 9) (oi := ?o9_1) (v := ?v9_1) ?hi9_1 (by kernel_rfl) (by kernel_rfl) (by kernel_rfl) (by kernel_rfl) (by decide) (by kernel_rfl) ?hQ9_1 ?hy9_1 (SqAt.drew X1.out) ?more9_1
      case hi9_1 => rw [List.getElem?_toArray]; exact rfl
      case hQ9_1 => exact fun _ _ _ h => h
      case hy9_1 =>
        refine Or.inl ⟨by rfl, ?_⟩
        intro w' hSw
        have hS' : SqAt w w' m a B E (fun j => if j = 1 then x1 else f j) := hSw
        obtain ⟨⟨e0, e1, e2, e3⟩, ez⟩ := hS'.2.2.2.1.facts
        have q0 : w'.cell? ⟨B + 1, 1, none⟩ = some (.int .u64 (x1 : Nat)) := hS'.2.2.2.2.1.1 1 (by omega)
        have qz := hS'.2.2.2.2.1.2.2
        clear hSw hS'
        go_simp
        try with_reducible rfl
      simp only [Act.put, List.setIfInBounds_toArray, List.set_cons_zero, List.set_cons_succ]
      refine wpAnyN_take (i := 10) (oi := ?o10_1) (v := ?v10_1) ?hi10_1 (by kernel_rfl) (by kernel_rfl) (by kernel_rfl) (by kernel_rfl) (by decide) (by kernel_rfl) ?hQ10_1 ?hy10_1 (SqAt.drew X1.out) ?more10_1
      case hi10_1 => rw [List.getElem?_toArray]; exact rfl
      case hQ10_1 => exact fun _ _ _ h => h
      case hy10_1 =>
        refine Or.inl ⟨by rfl, ?_⟩
        intro w' hSw
        have hS' : SqAt w w' m a B E (fun j => if j = 1 then x1 else f j) := hSw
        obtain ⟨⟨e0, e1, e2, e3⟩, ez⟩ := hS'.2.2.2.1.facts
        have q0 : w'.cell? ⟨B + 1, 1, none⟩ = some (.int .u64 (x1 : Nat)) := hS'.2.2.2.2.1.1 1 (by omega)
        have qz := hS'.2.2.2.2.1.2.2
        clear hSw hS'
        go_simp
        try with_reducible rfl
      simp only [Act.put, List.setIfInBounds_toArray, List.set_cons_zero, List.set_cons_succ]
      refine wpAnyN_one (i := 11) (o := ?o11_1) (by kernel_rfl) ?hi11_1 ?hw11_1 ?st11_1
      case hi11_1 => rw [List.getElem?_toArray]; exact rfl
      case hw11_1 => exact rfl
      intro K hK
      have HK11 : Hid _ := hK
      clear hK
      go_simp
      refine HK11.out _ _ ⟨fun h => absurd h (by decide +kernel), ?_⟩
      clear HK11 K
      try simp only [Act.put, List.setIfInBounds_toArray, List.set_cons_zero, List.set_cons_succ]
      refine wpAnyN_done (by kernel_rfl) ?_ _
      go_wp2_with fail
      go_roundw
      case rel => exact ⟨2, _, by omega, by first | rfl | go_num, HN.out, X2.out.drew⟩
      case measure => simp [intOf]
    · obtain ⟨⟨e0, e1, e2, e3⟩, ez⟩ := hS.2.2.2.1.facts
      have q0 := hS.2.2.2.2.1.1 2 (by omega)
      have f0 := hS.2.2.2.2.1.2.1 2 (by omega)
      have qz := hS.2.2.2.2.1.2.2
      have X1 : Hid (SqAt w _ m a B E _) := hS.put hB 2 x2 (by omega)
      have X2 : Hid (SqAt w _ m a B E _) := X1.out.put hB 2 (limb q 2) (by omega)
      have HN : Hid (∀ j, j < 3 → (fun j => if j = 2 then limb q 2 else (fun j => if j = 2 then x2 else f j) j) j = limb q j) := by
        intro j hj
        show (if j = 2 then limb q 2 else (if j = 2 then x2 else f j)) = limb q j
        by_cases h : j = 2
        · rw [if_pos h, h]
        · rw [if_neg h, if_neg h]; exact hf j (by omega)
      clear hS hf
      go_wp2_with fail
      refine wp_region_N (fun w' => SqAt w w' m a B E (fun j => if j = 2 then x2 else f j)) 11 12 rfl (by kernel_rfl) ?_
      refine wpAnyN_take (i := 0) (oi := ?o0_2) (v := ?v0_2) ?hi0_2 (by kernel_rfl) (by kernel_rfl) (by kernel_rfl) (by kernel_rfl) (by decide) (by kernel_rfl) ?hQ0_2 ?hy0_2 (SqAt.drew X1.out) ?more0_2
      case hi0_2 => rw [List.getElem?_toArray]; exact rfl
      case hQ0_2 => exact fun _ _ _ h => h
      case hy0_2 =>
        refine Or.inl ⟨by rfl, ?_⟩
        intro w' hSw
        have hS' : SqAt w w' m a B E (fun j => if j = 2 then x2 else f j) := hSw
        obtain ⟨⟨e0, e1, e2, e3⟩, ez⟩ := hS'.2.2.2.1.facts
        have q0 : w'.cell? ⟨B + 1, 2, none⟩ = some (.int .u64 (x2 : Nat)) := hS'.2.2.2.2.1.1 2 (by omega)
        have qz := hS'.2.2.2.2.1.2.2
        clear hSw hS'
        go_simp
        try with_reducible rfl
      simp only [Act.put, List.setIfInBounds_toArray, List.set_cons_zero, List.set_cons_succ]
      refine wpAnyN_take (i := 1) (oi := ?o1_2) (v := ?v1_2) ?hi1_2 (by kernel_rfl) (by kernel_rfl) (by kernel_rfl) (by kernel_rfl) (by decide) (by kernel_rfl) ?hQ1_2 ?hy1_2 (SqAt.drew X1.out) ?more1_2
      case hi1_2 => rw [List.getElem?_toArray]; exact rfl
      case hQ1_2 => exact fun _ _ _ h => h
      case hy1_2 =>
        refine Or.inl ⟨by rfl, ?_⟩
        intro w' hSw
        have hS' : SqAt w w' m a B E (fun j => if j = 2 then x2 else f j) := hSw
        obtain ⟨⟨e0, e1, e2, e3⟩, ez⟩ := hS'.2.2.2.1.facts
        have q0 : w'.cell? ⟨B + 1, 2, none⟩ = some (.int .u64 (x2 : Nat)) := hS'.2.2.2.2.1.1 2 (by omega)
        have qz := hS'.2.2.2.2.1.2.2
        clear hSw hS'
        go_simp
        try with_reducible rfl
      simp only [Act.put, List.setIfInBounds_toArray, List.set_cons_zero, List.set_cons_succ]
      refine wpAnyN_take (i := 2) (oi := ?o2_2) (v := ?v2_2) ?hi2_2 (by kernel_rfl) (by kernel_rfl) (by kernel_rfl) (by kernel_rfl) (by decide) (by kernel_rfl) ?hQ2_2 ?hy2_2 (SqAt.drew X1.out) ?more2_2
      case hi2_2 => rw [List.getElem?_toArray]; exact rfl
      case hQ2_2 => exact fun _ _ _ h => h
      case hy2_2 =>
        refine Or.inl ⟨by rfl, ?_⟩
        intro w' hSw
        have hS' : SqAt w w' m a B E (fun j => if j = 2 then x2 else f j) := hSw
        obtain ⟨⟨e0, e1, e2, e3⟩, ez⟩ := hS'.2.2.2.1.facts
        have q0 : w'.cell? ⟨B + 1, 2, none⟩ = some (.int .u64 (x2 : Nat)) := hS'.2.2.2.2.1.1 2 (by omega)
        have qz := hS'.2.2.2.2.1.2.2
        clear hSw hS'
        go_simp
        try with_reducible rfl
      simp only [Act.put, List.setIfInBounds_toArray, List.set_cons_zero, List.set_cons_succ]
      refine wpAnyN_take (i := 3) (oi := ?o3_2) (v := ?v3_2) ?hi3_2 (by kernel_rfl) (by kernel_rfl) (by kernel_rfl) (by kernel_rfl) (by decide) (by kernel_rfl) ?hQ3_2 ?hy3_2 (SqAt.drew X1.out) ?more3_2
      case hi3_2 => rw [List.getElem?_toArray]; exact rfl
      case hQ3_2 => exact fun _ _ _ h => h
      case hy3_2 =>
        refine Or.inl ⟨by rfl, ?_⟩
        intro w' hSw
        have hS' : SqAt w w' m a B E (fun j => if j = 2 then x2 else f j) := hSw
        obtain ⟨⟨e0, e1, e2, e3⟩, ez⟩ := hS'.2.2.2.1.facts
        have q0 : w'.cell? ⟨B + 1, 2, none⟩ = some (.int .u64 (x2 : Nat)) := hS'.2.2.2.2.1.1 2 (by omega)
        have qz := hS'.2.2.2.2.1.2.2
        clear hSw hS'
        go_simp
        try with_reducible rfl
      simp only [Act.put, List.setIfInBounds_toArray, List.set_cons_zero, List.set_cons_succ]
      refine wpAnyN_take (i := 4) (oi := ?o4_2) (v := ?v4_2) ?hi4_2 (by kernel_rfl) (by kernel_rfl) (by kernel_rfl) (by kernel_rfl) (by decide) (by kernel_rfl) ?hQ4_2 ?hy4_2 (SqAt.drew X1.out) ?more4_2
      case hi4_2 => rw [List.getElem?_toArray]; exact rfl
      case hQ4_2 => exact fun _ _ _ h => h
      case hy4_2 =>
        refine Or.inl ⟨by rfl, ?_⟩
        intro w' hSw
        have hS' : SqAt w w' m a B E (fun j => if j = 2 then x2 else f j) := hSw
        obtain ⟨⟨e0, e1, e2, e3⟩, ez⟩ := hS'.2.2.2.1.facts
        have q0 : w'.cell? ⟨B + 1, 2, none⟩ = some (.int .u64 (x2 : Nat)) := hS'.2.2.2.2.1.1 2 (by omega)
        have qz := hS'.2.2.2.2.1.2.2
        clear hSw hS'
        go_simp
        try with_reducible rfl
      simp only [Act.put, List.setIfInBounds_toArray, List.set_cons_zero, List.set_cons_succ]
      refine wpAnyN_take (i := 5) (oi := ?o5_2) (v := ?v5_2) ?hi5_2 (by kernel_rfl) (by kernel_rfl) (by kernel_rfl) (by kernel_rfl) (by decide) (by kernel_rfl) ?hQ5_2 ?hy5_2 (SqAt.drew X1.out) ?more5_2
      case hi5_2 => rw [List.getElem?_toArray]; exact rfl
      case hQ5_2 => exact fun _ _ _ h => h
      case hy5_2 =>
        refine Or.inl ⟨by rfl, ?_⟩
        intro w' hSw
        have hS' : SqAt w w' m a B E (fun j => if j = 2 then x2 else f j) := hSw
        obtain ⟨⟨e0, e1, e2, e3⟩, ez⟩ := hS'.2.2.2.1.facts
        have q0 : w'.cell? ⟨B + 1, 2, none⟩ = some (.int .u64 (x2 : Nat)) := hS'.2.2.2.2.1.1 2 (by omega)
        have qz := hS'.2.2.2.2.1.2.2
        clear hSw hS'
        go_simp
        try with_reducible rfl
      simp only [Act.put, List.setIfInBounds_toArray, List.set_cons_zero, List.set_cons_succ]
      refine wpAnyN_take (i := 6) (oi := ?o6_2) (v := ?v6_2) ?hi6_2 (by kernel_rfl) (by kernel_rfl) (by kernel_rfl) (by kernel_rfl) (by decide) (by kernel_rfl) ?hQ6_2 ?hy6_2 (SqAt.drew X1.out) ?more6_2
      case hi6_2 => rw [List.getElem?_toArray]; exact rfl
      case hQ6_2 => exact fun _ _ _ h => h
      case hy6_2 =>
        refine Or.inl ⟨by rfl, ?_⟩
        intro w' hSw
        have hS' : SqAt w w' m a B E (fun j => if j = 2 then x2 else f j) := hSw
        obtain ⟨⟨e0, e1, e2, e3⟩, ez⟩ := hS'.2.2.2.1.facts
        have q0 : w'.cell? ⟨B + 1, 2, none⟩ = some (.int .u64 (x2 : Nat)) := hS'.2.2.2.2.1.1 2 (by omega)
        have qz := hS'.2.2.2.2.1.2.2
        clear hSw hS'
        go_simp
        try with_reducible rfl
      simp only [Act.put, List.setIfInBounds_toArray, List.set_cons_zero, List.set_cons_succ]
      refine wpAnyN_take (i := 7) (oi := ?o7_2) (v := ?v7_2) ?hi7_2 (by kernel_rfl) (by kernel_rfl) (by kernel_rfl) (by kernel_rfl) (by decide) (by kernel_rfl) ?hQ7_2 ?hy7_2 (SqAt.drew X1.out) ?more7_2
      case hi7_2 => rw [List.getElem?_toArray]; exact rfl
      case hQ7_2 => exact fun _ _ _ h => h
      case hy7_2 =>
        refine Or.inl ⟨by rfl, ?_⟩
        intro w' hSw
        have hS' : SqAt w w' m a B E (fun j => if j = 2 then x2 else f j) := hSw
        obtain ⟨⟨e0, e1, e2, e3⟩, ez⟩ := hS'.2.2.2.1.facts
        have q0 : w'.cell? ⟨B + 1, 2, none⟩ = some (.int .u64 (x2 : Nat)) := hS'.2.2.2.2.1.1 2 (by omega)
        have qz := hS'.2.2.2.2.1.2.2
        clear hSw hS'
        go_simp
        try with_reducible rfl
      simp only [Act.put, List.setIfInBounds_toArray, List.set_cons_zero, List.set_cons_succ]
      refine wpAnyN_take (i := 8) (oi := ?o8_2) (v := ?v8_2) ?hi8_2 (by kernel_rfl) (by kernel_rfl) (by kernel_rfl) (by kernel_rfl) (by decide) (by kernel_rfl) ?hQ8_2 ?hy8_2 (SqAt.drew X1.out) ?more8_2
      case hi8_2 => rw [List.getElem?_toArray]; exact rfl
      case hQ8_2 => exact fun _ _ _ h => h
      case hy8_2 =>
        refine Or.inl ⟨by rfl, ?_⟩
        intro w' hSw
        have hS' : SqAt w w' m a B E (fun j => if j = 2 then x2 else f j) := hSw
        obtain ⟨⟨e0, e1, e2, e3⟩, ez⟩ := hS'.2.2.2.1.facts
        have q0 : w'.cell? ⟨B + 1, 2, none⟩ = some (.int .u64 (x2 : Nat)) := hS'.2.2.2.2.1.1 2 (by omega)
        have qz := hS'.2.2.2.2.1.2.2
        clear hSw hS'
        go_simp
        try with_reducible rfl
      simp only [Act.put, List.setIfInBounds_toArray, List.set_cons_zero, List.set_cons_succ]
      refine wpAnyN_take (i := 9) (oi := ?o9_2) (v := ?v9_2) ?hi9_2 (by kernel_rfl) (by kernel_rfl) (by kernel_rfl) (by kernel_rfl) (by decide) (by kernel_rfl) ?hQ9_2 ?hy9_2 (SqAt.drew X1.out) ?more9_2
      case hi9_2 => rw [List.getElem?_toArray]; exact rfl
      case hQ9_2 => exact fun _ _ _ h => h
      case hy9_2 =>
        refine Or.inl ⟨by rfl, ?_⟩
        intro w' hSw
        have hS' : SqAt w w' m a B E (fun j => if j = 2 then x2 else f j) := hSw
        obtain ⟨⟨e0, e1, e2, e3⟩, ez⟩ := hS'.2.2.2.1.facts
        have q0 : w'.cell? ⟨B + 1, 2, none⟩ = some (.int .u64 (x2 : Nat)) := hS'.2.2.2.2.1.1 2 (by omega)
        have qz := hS'.2.2.2.2.1.2.2
        clear hSw hS'
        go_simp
        try with_reducible rfl
      simp only [Act.put, List.setIfInBounds_toArray, List.set_cons_zero, List.set_cons_succ]
      refine wpAnyN_take (i := 10) (oi := ?o10_2) (v := ?v10_2) ?hi10_2 (by kernel_rfl) (by kernel_rfl) (by kernel_rfl) (by kernel_rfl) (by decide) (by kernel_rfl) ?hQ10_2 ?hy10_2 (SqAt.drew X1.out) ?more10_2
      case hi10_2 => rw [List.getElem?_toArray]; exact rfl
      case hQ10_2 => exact fun _ _ _ h => h
      case hy10_2 =>
        refine Or.inl ⟨by rfl, ?_⟩
        intro w' hSw
        have hS' : SqAt w w' m a B E (fun j => if j = 2 then x2 else f j) := hSw
        obtain ⟨⟨e0, e1, e2, e3⟩, ez⟩ := hS'.2.2.2.1.facts
        have q0 : w'.cell? ⟨B + 1, 2, none⟩ = some (.int .u64 (x2 : Nat)) := hS'.2.2.2.2.1.1 2 (by omega)
        have qz := hS'.2.2.2.2.1.2.2
        clear hSw hS'
        go_simp
        try with_reducible rfl
      simp only [Act.put, List.setIfInBounds_toArray, List.set_cons_zero, List.set_cons_succ]
      refine wpAnyN_one (i := 11) (o := ?o11_2) (by kernel_rfl) ?hi11_2 ?hw11_2 ?st11_2
      case hi11_2 => rw [List.getElem?_toArray]; exact rfl
      case hw11_2 => exact rfl
      intro K hK
      have HK11 : Hid _ := hK
      clear hK
      go_simp
      refine HK11.out _ _ ⟨fun h => absurd h (by decide +kernel), ?_⟩
      clear HK11 K
      try simp only [Act.put, List.setIfInBounds_toArray, List.set_cons_zero, List.set_cons_succ]
      refine wpAnyN_done (by kernel_rfl) ?_ _
      go_wp2_with fail
      go_roundw
      case rel => exact ⟨3, _, by omega, by first | rfl | go_num, HN.out, X2.out.drew⟩
      case measure => simp [intOf]
    · obtain ⟨⟨e0, e1, e2, e3⟩, ez⟩ := hS.2.2.2.1.facts
      have q0 := hS.2.2.2.2.1.1 3 (by omega)
      have f0 := hS.2.2.2.2.1.2.1 3 (by omega)
      have qz := hS.2.2.2.2.1.2.2
      have X1 : Hid (SqAt w _ m a B E _) := hS.put hB 3 x3 (by omega)
      have HN : Hid (∀ j, j < 4 → (fun j => if j = 3 then x3 else f j) j = limb q j) := by
        intro j hj
        show (if j = 3 then x3 else f j) = limb q j
        by_cases h : j = 3
        · rw [if_pos h, h, HX.out]
        · rw [if_neg h]; exact hf j (by omega)
      clear hS hf
      go_wp2_with fail
      go_roundw
      case rel => exact ⟨4, _, by omega, by first | rfl | go_num, HN.out, X1.out⟩
      case measure => simp [intOf]
    · obtain ⟨w9, rfl⟩ : ∃ y, y = wr := ⟨_, rfl⟩
      have HA9 : Hid (NS w9 (w.heap.size + 1) a) := hS.2.1
      have HQ9 : Hid (NS w9 (B + 1) q) := ⟨fun j hj => by rw [hS.2.2.2.2.1.1 j hj, hf j hj], hS.2.2.2.2.1.2.2⟩
      have HF9 : Hid (FieldB w9 w.heap.size m) := hS.1
      have HP9 : Hid (Pend w9 (w.heap.size + 1 + 1)) := hS.2.2.1
      have HW9 : Hid (Below w.heap.size w w9) := hS.2.2.2.2.2
      clear hS hf hi d0 d1 d2 d3 l0 l1 l2 HX
      obtain ⟨⟨aa0, aa1, aa2, aa3⟩, aaz⟩ := HA9.out.facts
      obtain ⟨⟨qq0, qq1, qq2, qq3⟩, qqz⟩ := HQ9.out.facts
      obtain ⟨⟨fm0, fm1, fm2, fm3⟩, ⟨fg0, fg1, fg2, fg3⟩, fz⟩ := FieldB.factsG (HF9.out) HG.out
      go_wp2_with fail
      refine (K3.out _).mono ?_
      rintro e w10 ⟨rfl, hb10⟩
      have HA10 : Hid (NS w10 (w.heap.size + 1) a) := NS.call HA9.out hb10
      have HW10 : Hid (Below w.heap.size w w10) := below_call0 HW9.out hb10
      have HF10 : Hid (FieldB w10 w.heap.size m) := FieldB.call HF9.out hb10
      have HP10 : Hid (Pend w10 (w.heap.size + 1 + 1)) := Pend.call HP9.out hb10
      clear hb10
      clear HA9 HQ9 HW9 HF9 HP9
      clear aa0 aa1 aa2 aa3 aaz qq0 qq1 qq2 qq3 qqz fm0 fm1 fm2 fm3 fg0 fg1 fg2 fg3 fz
      go_wp2_with fail
      obtain ⟨w11, hX⟩ : ∃ x, x = (w10 : World).alloc (.cells #[.int .u64 (limb r 0 : Nat), .int .u64 (limb r 1 : Nat), .int .u64 (limb r 2 : Nat), .int .u64 (limb r 3 : Nat)] 24) := ⟨_, rfl⟩
      rw [← hX]
      have HA11 : Hid (NS w11 (w.heap.size + 1) a) := by rw [hX]; exact NS.alloc HA10.out
      have HF11 : Hid (FieldB w11 w.heap.size m) := by rw [hX]; exact FieldB.alloc HF10.out
      have HP11 : Hid (Pend w11 (w.heap.size + 1 + 1)) := by rw [hX]; exact Pend.alloc HP10.out
      have HR11 : Hid (Own4 w11 w10.heap.size r) := by rw [hX]; exact Own4.new _ _ _
      have HW11 : Hid (Below w.heap.size w w11) := by rw [hX]; exact below_alloc0 HW10.out _
      obtain ⟨D, hD⟩ : ∃ D, D = w10.heap.size := ⟨_, rfl⟩
      have HDD : Hid (w.heap.size + 1 + 1 < D) := by rw [hD]; exact HP10.out.2.2
      rw [← hD] at HR11
      rw [← hD]
      clear hX hD HA10 HF10 HP10 HW10
      refine wp_region_H (fun w' => Below w11.heap.size w11 w') 6 rfl (by kernel_rfl) ?_
      refine wpAnyH_take (i := 0) (oi := ?o0_11) (v := ?v0_11) ?hi0_11 (by kernel_rfl) (by kernel_rfl) (by kernel_rfl) ?hQ0_11 ?hy0_11 (Below.drew (Below.refl _ _)) ?more0_11
      case hi0_11 => rw [List.getElem?_toArray]; exact rfl
      case hQ0_11 => exact fun _ _ _ h => h
      case hy0_11 =>
        refine Or.inl ⟨by rfl, ?_⟩
        intro w' hSw
        obtain ⟨⟨fm0, fm1, fm2, fm3⟩, ⟨fg0, fg1, fg2, fg3⟩, fz⟩ := FieldB.factsG ((FieldB.call HF11.out hSw)) HG.out
        clear hSw
        go_simp
        try with_reducible rfl
      simp only [Act.put, List.setIfInBounds_toArray, List.set_cons_zero, List.set_cons_succ]
      refine wpAnyH_take (i := 1) (oi := ?o1_11) (v := ?v1_11) ?hi1_11 (by kernel_rfl) (by kernel_rfl) (by kernel_rfl) ?hQ1_11 ?hy1_11 (Below.drew (Below.refl _ _)) ?more1_11
      case hi1_11 => rw [List.getElem?_toArray]; exact rfl
      case hQ1_11 => exact fun _ _ _ h => h
      case hy1_11 =>
        refine Or.inl ⟨by rfl, ?_⟩
        intro w' hSw
        obtain ⟨⟨r0, r1, r2, r3⟩, ⟨s0, s1, s2, s3⟩, rz⟩ := ((Own4.call HR11.out hSw)).facts
        clear hSw
        go_simp
        try with_reducible rfl
      simp only [Act.put, List.setIfInBounds_toArray, List.set_cons_zero, List.set_cons_succ]
      refine wpAnyH_take (i := 2) (oi := ?o2_11) (v := ?v2_11) ?hi2_11 (by kernel_rfl) (by kernel_rfl) (by kernel_rfl) ?hQ2_11 ?hy2_11 (Below.drew (Below.refl _ _)) ?more2_11
      case hi2_11 => rw [List.getElem?_toArray]; exact rfl
      case hQ2_11 => exact fun _ _ _ h => h
      case hy2_11 =>
        refine Or.inl ⟨by rfl, ?_⟩
        intro w' hSw
        obtain ⟨⟨r0, r1, r2, r3⟩, ⟨s0, s1, s2, s3⟩, rz⟩ := ((Own4.call HR11.out hSw)).facts
        clear hSw
        go_simp
        try with_reducible rfl
      simp only [Act.put, List.setIfInBounds_toArray, List.set_cons_zero, List.set_cons_succ]
      refine wpAnyH_take (i := 4) (oi := ?o4_11) (v := ?v4_11) ?hi4_11 (by kernel_rfl) (by kernel_rfl) (by kernel_rfl) ?hQ4_11 ?hy4_11 (Below.drew (Below.refl _ _)) ?more4_11
      case hi4_11 => rw [List.getElem?_toArray]; exact rfl
      case hQ4_11 => exact fun _ _ _ h => h
      case hy4_11 =>
        refine Or.inl ⟨by rfl, ?_⟩
        intro w' hSw
        obtain ⟨⟨aa0, aa1, aa2, aa3⟩, aaz⟩ := (NS.call HA11.out hSw).facts
        clear hSw
        go_simp
        try with_reducible rfl
      simp only [Act.put, List.setIfInBounds_toArray, List.set_cons_zero, List.set_cons_succ]
      refine wpAnyH_one (i := 3) (o := ?o3_11) (by kernel_rfl) ?hi3_11 ?hw3_11 ?st3_11
      case hi3_11 => rw [List.getElem?_toArray]; exact rfl
      case hw3_11 => exact rfl
      intro K hK
      have HK3 : Hid _ := hK
      clear hK
      go_simp
      refine (K4.out _).mono ?_
      rintro e w12 ⟨rfl, hq⟩
      have HB11_1 : Hid (Below w11.heap.size w11 w12) := below_call0 (Below.drew (Below.refl _ _)) hq
      clear hq
      go_wp2_with fail
      refine HK3.out _ _ ⟨HB11_1.out, ?_⟩
      clear HK3 K
      try simp only [Act.put, List.setIfInBounds_toArray, List.set_cons_zero, List.set_cons_succ]
      refine wpAnyH_take (i := 5) (oi := ?o5_11) (v := ?v5_11) ?hi5_11 (by kernel_rfl) (by kernel_rfl) (by kernel_rfl) ?hQ5_11 ?hy5_11 HB11_1.out ?more5_11
      case hi5_11 => rw [List.getElem?_toArray]; exact rfl
      case hQ5_11 => exact fun _ _ _ h => h
      case hy5_11 =>
        refine Or.inl ⟨by rfl, ?_⟩
        intro w' hSw
        clear hSw
        go_simp
        try with_reducible rfl
      simp only [Act.put, List.setIfInBounds_toArray, List.set_cons_zero, List.set_cons_succ]
      refine wpAnyH_done (by kernel_rfl) ?_ _
      have HA12 : Hid (NS w12 (w.heap.size + 1) a) := NS.call HA11.out HB11_1.out
      have HF12 : Hid (FieldB w12 w.heap.size m) := FieldB.call HF11.out HB11_1.out
      have HP12 : Hid (Pend w12 (w.heap.size + 1 + 1)) := Pend.call HP11.out HB11_1.out
      have HR12 : Hid (Own4 w12 D r) := Own4.call HR11.out HB11_1.out
      have HW12 : Hid (Below w.heap.size w w12) := below_call0 HW11.out HB11_1.out
      clear HA11 HW11 HF11 HP11 HR11 HB11_1
      obtain ⟨⟨p0, p1, p2, p3⟩, ⟨f0, f1, f2, f3⟩, pz⟩ := (HP12.out).facts
      obtain ⟨⟨r0, r1, r2, r3⟩, ⟨s0, s1, s2, s3⟩, rz⟩ := (HR12.out).facts
      obtain ⟨⟨fm0, fm1, fm2, fm3⟩, ⟨fg0, fg1, fg2, fg3⟩, fz⟩ := FieldB.factsG (HF12.out) HG.out
      go_wp2_with fail
      refine (K5.out _).mono ?_
      rintro e w13 ⟨rfl, hb⟩
      replace HP12 : Hid (Pend w13 (w.heap.size + 1 + 1)) := Pend.call HP12.out hb
      replace HR12 : Hid (Own4 w13 D r) := Own4.call HR12.out hb
      replace HW12 : Hid (Below w.heap.size w w13) := below_call0 HW12.out hb
      clear hb p0 p1 p2 p3 f0 f1 f2 f3 pz r0 r1 r2 r3 s0 s1 s2 s3 rz fm0 fm1 fm2 fm3 fg0 fg1 fg2 fg3 fz
      obtain ⟨⟨p0, p1, p2, p3⟩, ⟨f0, f1, f2, f3⟩, pz⟩ := (HP12.out).facts
      obtain ⟨⟨r0, r1, r2, r3⟩, ⟨s0, s1, s2, s3⟩, rz⟩ := (HR12.out).facts
      have hD := HDD.out
      go_wp2_with fail
      have W2 := HW12.out
      refine bodyPost_ret (v := .tuple #[.agg #[.int .u64 (limb (x) 0 : Nat), .int .u64 (limb (x) 1 : Nat), .int .u64 (limb (x) 2 : Nat), .int .u64 (limb (x) 3 : Nat)], .int .i64 0]) ?_ rfl ⟨rfl, ?_⟩
      · simp [results, Tryd.results55, go_sem, p0, p1, p2, p3]
      · ((repeat' (first | with_reducible exact Below.refl _ _ | with_reducible refine Below.setCell ?_ ?_ _ | with_reducible refine below_alloc0 ?_ _ | with_reducible refine below_drewN ?_ _ | with_reducible refine Below.drew ?_ | refine below_call0 ?_ (by assumption))) <;> (first | omega | (simp; done) | (simp; omega)))
end Go.Proofs.YtgmfecncfekjfaaDoor
