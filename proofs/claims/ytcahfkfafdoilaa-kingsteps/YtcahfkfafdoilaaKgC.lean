/- Package king: the three rounds of a phase; Hear. -/
import Derived.Test.YtcahfkfafdoilaaKgB
import Derived.Test.YtcahfkfafdoilaaHeldN
import Derived.Deep.QuietTactic
namespace Go.Proofs.Ytcahfkfafdoilaa
open Go Go.RowKit Go.Lib

theorem NodeAt.setv {w : World} {g : Nat} {x : Kn} {v : Nat} (h : NodeAt w g x) (hv : v ≤ 2) : NodeAt (w.setCell ⟨g, 2, none⟩ (.int .i64 (v : Nat))) g { x with v := v } :=
  have e : ∀ o, o ≠ 2 → (w.setCell ⟨g, 2, none⟩ (.int .i64 (v : Nat))).cell? ⟨g, o, none⟩ = w.cell? ⟨g, o, none⟩ := fun o ho => World.cell?_setCell_other _ _ _ _ (by intro k; injection k with _ k2 _; exact ho k2.symm)
  ⟨⟨h.ok.n1, h.ok.n10, h.ok.hf, hv, h.ok.hr⟩, by rw [World.size_setCell]; exact h.lt, (e 0 (by decide)).trans h.c0, (e 1 (by decide)).trans h.c1, World.cell?_setCell_same _ _ _ h.c2, (e 3 (by decide)).trans h.c3, (e 4 (by decide)).trans h.c4, fun o => by rw [World.frozen?_setCell]; exact h.fz o⟩
theorem NodeAt.setr {w : World} {g : Nat} {x : Kn} {r : Nat} (h : NodeAt w g x) (hr : r ≤ 3 * (x.f + 1)) : NodeAt (w.setCell ⟨g, 3, none⟩ (.int .i64 (r : Nat))) g { x with r := r } :=
  have e : ∀ o, o ≠ 3 → (w.setCell ⟨g, 3, none⟩ (.int .i64 (r : Nat))).cell? ⟨g, o, none⟩ = w.cell? ⟨g, o, none⟩ := fun o ho => World.cell?_setCell_other _ _ _ _ (by intro k; injection k with _ k2 _; exact ho k2.symm)
  ⟨⟨h.ok.n1, h.ok.n10, h.ok.hf, h.ok.hv, hr⟩, by rw [World.size_setCell]; exact h.lt, (e 0 (by decide)).trans h.c0, (e 1 (by decide)).trans h.c1, (e 2 (by decide)).trans h.c2, World.cell?_setCell_same _ _ _ h.c3, (e 4 (by decide)).trans h.c4, fun o => by rw [World.frozen?_setCell]; exact h.fz o⟩
theorem NodeAt.setm {w : World} {g : Nat} {x : Kn} {m : Bool} (h : NodeAt w g x) : NodeAt (w.setCell ⟨g, 4, none⟩ (.bool m)) g { x with m := m } :=
  have e : ∀ o, o ≠ 4 → (w.setCell ⟨g, 4, none⟩ (.bool m)).cell? ⟨g, o, none⟩ = w.cell? ⟨g, o, none⟩ := fun o ho => World.cell?_setCell_other _ _ _ _ (by intro k; injection k with _ k2 _; exact ho k2.symm)
  ⟨⟨h.ok.n1, h.ok.n10, h.ok.hf, h.ok.hv, h.ok.hr⟩, by rw [World.size_setCell]; exact h.lt, (e 0 (by decide)).trans h.c0, (e 1 (by decide)).trans h.c1, (e 2 (by decide)).trans h.c2, (e 3 (by decide)).trans h.c3, World.cell?_setCell_same _ _ _ h.c4, fun o => by rw [World.frozen?_setCell]; exact h.fz o⟩
theorem NodeAt.drewN {w : World} {g n : Nat} {x : Kn} (h : NodeAt w g x) : NodeAt (w.drewN n) g x := ⟨h.ok, h.lt, h.c0, h.c1, h.c2, h.c3, h.c4, h.fz⟩
theorem Three.drewN {w : World} {B a b c n : Nat} (h : Three w B a b c) : Three (w.drewN n) B a b c := h
theorem Three.setg {w : World} {B a b c g o : Nat} {v : Value} (h : Three w B a b c) (hg : B ≠ g) : Three (w.setCell ⟨g, o, none⟩ v) B a b c :=
  h.block (by rw [World.size_setCell]; exact Nat.le_refl _) (Below.heap_setCell w ⟨g, o, none⟩ v B hg)
theorem kthird_in (g : Nat) (x : Kn) (k : Nat) (hk : k ≤ 2) (w : World) (h : NodeAt w g x) : Calls Try.prog 29 #[.pointer (some ⟨g, 0, none⟩), .int .i64 (k : Nat)] w fun e w' => e = .returned (.tuple #[]) ∧ NodeAt w' g { x with v := thirdV x.m x.v k } ∧ But g (From w.heap.size) w w' := by
  have H : Hid (NodeAt w g x) := h
  have c4 := h.c4
  have c2 := h.c2
  have f2 := h.fz 2
  obtain ⟨b, hb⟩ : ∃ b, b = x.m := ⟨_, rfl⟩
  rw [← hb] at c4
  have HM : Hid (b = x.m) := hb
  clear h hb
  cases b with
  | true =>
    have HV : Hid (thirdV x.m x.v k = x.v) := by rw [← HM.out]; rfl
    go_enter Try.func29, Try.ntmps29
    go_wp2_with fail
    go_end0
    refine ⟨rfl, ?_, But.refl _ _ _⟩
    rw [HV.out]; exact H.out
  | false =>
    have HV : Hid (thirdV x.m x.v k = if k = 0 then 0 else 1) := by rw [← HM.out]; rfl
    have hc : k = 0 ∨ k = 1 ∨ k = 2 := by omega
    clear hk
    rcases hc with rfl | rfl | rfl
    all_goals
      go_enter Try.func29, Try.ntmps29
      go_wp2_with fail
      go_end0
      refine ⟨rfl, ?_, (But.refl _ _ _).set _⟩
      rw [HV.out]
      exact (show NodeAt w g x from H.out).setv (by decide)
/-- What the first round holds behind i words. -/
def fst2 (n f c0 c1 i : Nat) : Nat := if i = 2 ∧ n - f ≤ c1 then 1 else if 1 ≤ i ∧ n - f ≤ c0 then 0 else 2
theorem fst2_end (n f c0 c1 : Nat) : fst2 n f c0 c1 2 = firstV n f c0 c1 := by unfold fst2 firstV; simp
theorem fst2_le (n f c0 c1 i : Nat) : fst2 n f c0 c1 i ≤ 2 := by unfold fst2; split <;> (try split) <;> omega
set_option maxHeartbeats 4000000 in
theorem kfirst_in (g : Nat) (x : Kn) (c0 c1 c2 : Nat) (b0 : c0 ≤ 10) (b1 : c1 ≤ 10) (w : World) (h : NodeAt w g x) : Calls Try.prog 26 #[.pointer (some ⟨g, 0, none⟩), .agg #[.int .i64 (c0 : Nat), .int .i64 (c1 : Nat), .int .i64 (c2 : Nat)]] w fun e w' => e = .returned (.tuple #[]) ∧ NodeAt w' g { x with v := firstV x.n x.f c0 c1 } ∧ But g (From w.heap.size) w w' := by
  have H : Hid (NodeAt w g x ∧ c0 ≤ 10 ∧ c1 ≤ 10) := ⟨h, b0, b1⟩
  have gl := h.lt
  have c2' := h.c2
  have f2 := h.fz 2
  clear h b0 b1
  go_enter Try.func26, Try.ntmps26
  go_wp2_with fail
  obtain ⟨B, hB⟩ : ∃ B, B = w.heap.size := ⟨_, rfl⟩
  obtain ⟨W, hW⟩ : ∃ W, W = ((w.setCell ⟨g, 2, none⟩ (.int .i64 2)).alloc (Obj.cells #[.int .i64 (c0 : Nat), .int .i64 (c1 : Nat), .int .i64 (c2 : Nat)] 55)) := ⟨_, rfl⟩
  have HP : Hid (NodeAt W g { x with v := fst2 x.n x.f c0 c1 0 } ∧ Three W B c0 c1 c2 ∧ But g (From B) w W ∧ g ≠ B) := by
    rw [hW, hB]
    obtain ⟨W0, hW0⟩ : ∃ W0, W0 = w.setCell ⟨g, 2, none⟩ (.int .i64 2) := ⟨_, rfl⟩
    have hz : W0.heap.size = w.heap.size := by rw [hW0, World.size_setCell]
    have hn : NodeAt W0 g { x with v := fst2 x.n x.f c0 c1 0 } := by rw [hW0]; exact H.out.1.setv (v := 2) (by decide)
    have hu : But g (From w.heap.size) w W0 := by rw [hW0]; exact (But.refl _ _ _).set _
    rw [← hW0]
    have ha : Below w.heap.size W0 (W0.alloc (Obj.cells #[.int .i64 (c0 : Nat), .int .i64 (c1 : Nat), .int .i64 (c2 : Nat)] 55)) := by rw [← hz]; exact below_alloc0 (Below.refl _ _) _
    have ht := Three.new W0 c0 c1 c2 55
    rw [hz] at ht
    exact ⟨hn.call (by rw [hz]; exact ha), ht, hu.trans (But.of_below ha), by omega⟩
  have HB : Hid (B = w.heap.size) := hB
  rw [← hW, ← hB]
  clear hW hB gl c2' f2
  go_loopw [8] (fun iv wr => ∃ i : Nat, i ≤ 2 ∧ iv = .int .i64 (i : Nat) ∧ NodeAt wr g { x with v := fst2 x.n x.f c0 c1 i } ∧ Three wr B c0 c1 c2 ∧ But g (From B) w wr) (fun iv _ => 2 - (Go.RowKit.intOf iv).toNat)
  case atStart => exact ⟨0, Nat.zero_le _, rfl, HP.out.1, HP.out.2.1, HP.out.2.2.1⟩
  case round =>
    obtain ⟨i, hi, rfl, hN, hT, hU⟩ := hrel
    rename World => wr
    have HR : Hid (_ ∧ _ ∧ _) := ⟨hN, hT, hU⟩
    have hc : i = 0 ∨ i = 1 ∨ i = 2 := by omega
    clear hi
    have n0 : wr.cell? ⟨g, 0, none⟩ = some (.int .i64 (x.n : Nat)) := hN.c0
    have n1 : wr.cell? ⟨g, 1, none⟩ = some (.int .i64 (x.f : Nat)) := hN.c1
    have n2 := hN.c2
    have nf := hN.fz 2
    obtain ⟨-, t0, t1, -, -⟩ := hT
    have e1 : (x.f : Int) ≤ 10 := by have := H.out.1.ok.hf; have := H.out.1.ok.n10; omega
    have e2 : (x.n : Int) ≤ 10 := by have := H.out.1.ok.n10; omega
    have e3 : ((x.n : Int) - (x.f : Int)) = ((x.n - x.f : Nat) : Int) := by have := H.out.1.ok.hf; omega
    obtain ⟨D, hD⟩ : ∃ D, D = x.n - x.f := ⟨_, rfl⟩
    rw [← hD] at e3
    have HD : Hid _ := hD
    clear hD hU hN
    rcases hc with rfl | rfl | rfl
    · by_cases hq : D ≤ c0
      · have HQ : Hid (D ≤ c0) := hq
        have hd : decide (((D : Nat) : Int) ≤ ((c0 : Nat) : Int)) = true := decide_eq_true (by omega)
        have hd2 : decide (D ≤ c0) = true := decide_eq_true hq
        have hq' : ((D : Nat) : Int) ≤ ((c0 : Nat) : Int) := by omega
        clear hq
        go_wp2_with fail
        go_quiet (fail)
        go_wp2_with fail
        go_roundw
        case rel =>
          have ev : fst2 x.n x.f c0 c1 1 = 0 := by unfold fst2; rw [← HD.out]; have := HQ.out; simp [this]
          have t : NodeAt ((wr.drewN nq).setCell ⟨g, 2, none⟩ (.int .i64 ((0 : Nat) : Int))) g { x with v := fst2 x.n x.f c0 c1 1 } ∧ Three ((wr.drewN nq).setCell ⟨g, 2, none⟩ (.int .i64 ((0 : Nat) : Int))) B c0 c1 c2 ∧ But g (From B) w ((wr.drewN nq).setCell ⟨g, 2, none⟩ (.int .i64 ((0 : Nat) : Int))) :=
            ⟨by rw [ev]; exact HR.out.1.drewN.setv (v := 0) (by decide), HR.out.2.1.drewN.setg (fun c => HP.out.2.2.2 c.symm), (But.drewN HR.out.2.2).set _⟩
          first | exact ⟨1, by decide, by go_num, t⟩ | ((repeat apply Exists.intro); exact ⟨⟨1, by decide, by go_num, t⟩, rfl⟩)
        case measure => simp [Go.RowKit.intOf]
      · have HQ : Hid (¬ D ≤ c0) := hq
        have hd : decide (((D : Nat) : Int) ≤ ((c0 : Nat) : Int)) = false := decide_eq_false (by omega)
        have hd2 : decide (D ≤ c0) = false := decide_eq_false hq
        have hq' : ¬ ((D : Nat) : Int) ≤ ((c0 : Nat) : Int) := by omega
        clear hq
        go_wp2_with fail
        go_quiet (fail)
        go_wp2_with fail
        go_roundw
        case rel =>
          have ev : fst2 x.n x.f c0 c1 1 = fst2 x.n x.f c0 c1 0 := by unfold fst2; rw [← HD.out]; have := HQ.out; simp [this]
          have t : NodeAt (wr.drewN nq) g { x with v := fst2 x.n x.f c0 c1 1 } ∧ Three (wr.drewN nq) B c0 c1 c2 ∧ But g (From B) w (wr.drewN nq) := ⟨by rw [ev]; exact HR.out.1.drewN, HR.out.2.1.drewN, But.drewN HR.out.2.2⟩
          first | exact ⟨1, by decide, by go_num, t⟩ | ((repeat apply Exists.intro); exact ⟨⟨1, by decide, by go_num, t⟩, rfl⟩)
        case measure => simp [Go.RowKit.intOf]
    · by_cases hq : D ≤ c1
      · have HQ : Hid (D ≤ c1) := hq
        have hd : decide (((D : Nat) : Int) ≤ ((c1 : Nat) : Int)) = true := decide_eq_true (by omega)
        have hd2 : decide (D ≤ c1) = true := decide_eq_true hq
        have hq' : ((D : Nat) : Int) ≤ ((c1 : Nat) : Int) := by omega
        clear hq
        go_wp2_with fail
        go_quiet (fail)
        go_wp2_with fail
        go_roundw
        case rel =>
          have ev : fst2 x.n x.f c0 c1 2 = 1 := by unfold fst2; rw [← HD.out]; have := HQ.out; simp [this]
          have t : NodeAt ((wr.drewN nq).setCell ⟨g, 2, none⟩ (.int .i64 ((1 : Nat) : Int))) g { x with v := fst2 x.n x.f c0 c1 2 } ∧ Three ((wr.drewN nq).setCell ⟨g, 2, none⟩ (.int .i64 ((1 : Nat) : Int))) B c0 c1 c2 ∧ But g (From B) w ((wr.drewN nq).setCell ⟨g, 2, none⟩ (.int .i64 ((1 : Nat) : Int))) :=
            ⟨by rw [ev]; exact HR.out.1.drewN.setv (v := 1) (by decide), HR.out.2.1.drewN.setg (fun c => HP.out.2.2.2 c.symm), (But.drewN HR.out.2.2).set _⟩
          first | exact ⟨2, by decide, by go_num, t⟩ | ((repeat apply Exists.intro); exact ⟨⟨2, by decide, by go_num, t⟩, rfl⟩)
        case measure => simp [Go.RowKit.intOf]
      · have HQ : Hid (¬ D ≤ c1) := hq
        have hd : decide (((D : Nat) : Int) ≤ ((c1 : Nat) : Int)) = false := decide_eq_false (by omega)
        have hd2 : decide (D ≤ c1) = false := decide_eq_false hq
        have hq' : ¬ ((D : Nat) : Int) ≤ ((c1 : Nat) : Int) := by omega
        clear hq
        go_wp2_with fail
        go_quiet (fail)
        go_wp2_with fail
        go_roundw
        case rel =>
          have ev : fst2 x.n x.f c0 c1 2 = fst2 x.n x.f c0 c1 1 := by unfold fst2; rw [← HD.out]; have := HQ.out; simp [this]
          have t : NodeAt (wr.drewN nq) g { x with v := fst2 x.n x.f c0 c1 2 } ∧ Three (wr.drewN nq) B c0 c1 c2 ∧ But g (From B) w (wr.drewN nq) := ⟨by rw [ev]; exact HR.out.1.drewN, HR.out.2.1.drewN, But.drewN HR.out.2.2⟩
          first | exact ⟨2, by decide, by go_num, t⟩ | ((repeat apply Exists.intro); exact ⟨⟨2, by decide, by go_num, t⟩, rfl⟩)
        case measure => simp [Go.RowKit.intOf]
    · go_wp2_with fail
      go_end0
      rw [← HB.out]
      refine ⟨rfl, ?_, HR.out.2.2⟩
      have := HR.out.1
      rw [fst2_end] at this
      exact this
end Go.Proofs.Ytcahfkfafdoilaa
