/- The reference's Hear. -/
import Derived.Test.YtcahfkfafdoilaaKgR
namespace Go.Proofs.Ytcahfkfafdoilaa
open Go Go.RowKit Go.Lib

structure RCells (w : World) (g n f s v r b : Nat) : Prop where
  lt : g < w.heap.size
  c0 : w.cell? ⟨g, 0, none⟩ = some (.int .i64 (n : Nat))
  c1 : w.cell? ⟨g, 1, none⟩ = some (.int .i64 (f : Nat))
  c2 : w.cell? ⟨g, 2, none⟩ = some (.int .i64 (s : Nat))
  c3 : w.cell? ⟨g, 3, none⟩ = some (.int .i64 (v : Nat))
  c4 : w.cell? ⟨g, 4, none⟩ = some (.int .i64 (r : Nat))
  c5 : w.cell? ⟨g, 5, none⟩ = some (.int .i64 (b : Nat))
  fz : ∀ o, w.frozen? ⟨g, o, none⟩ = false
theorem RNode.cells {w : World} {g s b : Nat} {x : Kn} (h : RNode w g x s b) : RCells w g x.n x.f s x.v x.r b := ⟨h.lt, h.c0, h.c1, h.c2, h.c3, h.c4, h.c5, h.fz⟩
theorem RCells.node {w : World} {g s b : Nat} {x : Kn} (h : RCells w g x.n x.f s x.v x.r b) (ok : x.Ok) (rel : x.r % 3 = 2 → x.m = firmB x.n x.f x.v b) (hb : b ≤ 10) : RNode w g x s b := ⟨ok, h.lt, h.c0, h.c1, h.c2, h.c3, h.c4, h.c5, h.fz, rel, hb⟩
theorem RCells.drewN {w : World} {g n f s v r b k : Nat} (h : RCells w g n f s v r b) : RCells (w.drewN k) g n f s v r b := ⟨h.lt, h.c0, h.c1, h.c2, h.c3, h.c4, h.c5, h.fz⟩
theorem cell_off {w : World} {g o p : Nat} {v : Value} (h : o ≠ p) : (w.setCell ⟨g, p, none⟩ v).cell? ⟨g, o, none⟩ = w.cell? ⟨g, o, none⟩ := World.cell?_setCell_other _ _ _ _ (by intro k; injection k with _ k2 _; exact h k2.symm)
theorem RCells.setv {w : World} {g n f s v r b v' : Nat} (h : RCells w g n f s v r b) : RCells (w.setCell ⟨g, 3, none⟩ (.int .i64 (v' : Nat))) g n f s v' r b :=
  ⟨by rw [World.size_setCell]; exact h.lt, (cell_off (by decide)).trans h.c0, (cell_off (by decide)).trans h.c1, (cell_off (by decide)).trans h.c2, World.cell?_setCell_same _ _ _ h.c3, (cell_off (by decide)).trans h.c4, (cell_off (by decide)).trans h.c5, fun o => by rw [World.frozen?_setCell]; exact h.fz o⟩
theorem RCells.setr {w : World} {g n f s v r b r' : Nat} (h : RCells w g n f s v r b) : RCells (w.setCell ⟨g, 4, none⟩ (.int .i64 (r' : Nat))) g n f s v r' b :=
  ⟨by rw [World.size_setCell]; exact h.lt, (cell_off (by decide)).trans h.c0, (cell_off (by decide)).trans h.c1, (cell_off (by decide)).trans h.c2, (cell_off (by decide)).trans h.c3, World.cell?_setCell_same _ _ _ h.c4, (cell_off (by decide)).trans h.c5, fun o => by rw [World.frozen?_setCell]; exact h.fz o⟩
theorem RCells.setb {w : World} {g n f s v r b b' : Nat} (h : RCells w g n f s v r b) : RCells (w.setCell ⟨g, 5, none⟩ (.int .i64 (b' : Nat))) g n f s v r b' :=
  ⟨by rw [World.size_setCell]; exact h.lt, (cell_off (by decide)).trans h.c0, (cell_off (by decide)).trans h.c1, (cell_off (by decide)).trans h.c2, (cell_off (by decide)).trans h.c3, (cell_off (by decide)).trans h.c4, World.cell?_setCell_same _ _ _ h.c5, fun o => by rw [World.frozen?_setCell]; exact h.fz o⟩
/-- Numbers that do not lie in block g. -/
def IntsNot (w : World) (g : Nat) (a : Option Addr) (l : List Int) : Prop := IntsAt w a l ∧ ∀ b o, a = some ⟨b, o, none⟩ → b ≠ g
theorem IntsNot.drewN {w : World} {g k : Nat} {a : Option Addr} {l : List Int} (h : IntsNot w g a l) : IntsNot (w.drewN k) g a l := h
theorem IntsNot.set {w : World} {g o : Nat} {v : Value} {a : Option Addr} {l : List Int} (h : IntsNot w g a l) : IntsNot (w.setCell ⟨g, o, none⟩ v) g a l :=
  ⟨fun j x hj => by
    obtain ⟨p, q, h1, h2, h3⟩ := h.1 j x hj
    exact ⟨p, q, h1, by rw [World.cell?_setCell_other _ _ _ _ (by intro k; injection k with k1 _ _; exact h.2 p q h1 k1.symm)]; exact h2, by rw [World.size_setCell]; exact h3⟩, h.2⟩
/-- What a round of the reference keeps. -/
def RS (w0 w : World) (g n f s v r b : Nat) (a : Option Addr) (l : List Int) : Prop := RCells w g n f s v r b ∧ IntsNot w g a l ∧ But g (From w0.heap.size) w0 w
theorem RS.drewN {w0 w : World} {g n f s v r b k : Nat} {a : Option Addr} {l : List Int} (h : RS w0 w g n f s v r b a l) : RS w0 (w.drewN k) g n f s v r b a l := ⟨h.1.drewN, h.2.1.drewN, h.2.2.drewN⟩
theorem RS.setv {w0 w : World} {g n f s v r b v' : Nat} {a : Option Addr} {l : List Int} (h : RS w0 w g n f s v r b a l) : RS w0 (w.setCell ⟨g, 3, none⟩ (.int .i64 (v' : Nat))) g n f s v' r b a l := ⟨h.1.setv, h.2.1.set, h.2.2.set _⟩
theorem RS.setr {w0 w : World} {g n f s v r b r' : Nat} {a : Option Addr} {l : List Int} (h : RS w0 w g n f s v r b a l) : RS w0 (w.setCell ⟨g, 4, none⟩ (.int .i64 (r' : Nat))) g n f s v r' b a l := ⟨h.1.setr, h.2.1.set, h.2.2.set _⟩
theorem RS.setb {w0 w : World} {g n f s v r b b' : Nat} {a : Option Addr} {l : List Int} (h : RS w0 w g n f s v r b a l) : RS w0 (w.setCell ⟨g, 5, none⟩ (.int .i64 (b' : Nat))) g n f s v r b' a l := ⟨h.1.setb, h.2.1.set, h.2.2.set _⟩
theorem ysett {w0 w : World} {g n f s v r b v' : Nat} {a : Option Addr} {l : List Int} (h : RS w0 w g n f s v r b a l) (y : Int) : RS w0 ((w.setCell ⟨g, 3, none⟩ (.int .i64 y)).setCell ⟨g, 3, none⟩ (.int .i64 (v' : Nat))) g n f s v' r b a l :=
  ⟨⟨by rw [World.size_setCell, World.size_setCell]; exact h.1.lt, (cell_off (by decide)).trans ((cell_off (by decide)).trans h.1.c0), (cell_off (by decide)).trans ((cell_off (by decide)).trans h.1.c1), (cell_off (by decide)).trans ((cell_off (by decide)).trans h.1.c2), World.cell?_setCell_same _ _ _ (World.cell?_setCell_same _ _ _ h.1.c3), (cell_off (by decide)).trans ((cell_off (by decide)).trans h.1.c4), (cell_off (by decide)).trans ((cell_off (by decide)).trans h.1.c5), fun o => by rw [World.frozen?_setCell, World.frozen?_setCell]; exact h.1.fz o⟩, h.2.1.set.set, (h.2.2.set _).set _⟩
set_option maxRecDepth 100000 in
set_option maxHeartbeats 8000000 in
theorem rhear_first (g : Nat) (x : Kn) (s b : Nat) (a : Option Addr) (l : List Int) (n cap : Nat) (hn : n = l.length) (w : World) (h : RNode w g x s b) (hr : x.r < 3 * (x.f + 1)) (hl : l.length = x.n) (hI : IntsNot w g a l) (hM : x.r % 3 = 0) :
    Calls Try.prog 16 #[.pointer (some ⟨g, 0, none⟩), .slice a n cap] w fun e w' => e = .returned (.int .i64 0) ∧ (∃ b', RNode w' g (stepK x l) s b') ∧ But g (From w.heap.size) w w' := by
  have H : Hid (RNode w g x s b) := h
  have HR : Hid (x.r < 3 * (x.f + 1)) := hr
  have HO : Hid ((stepK x l).Ok) := h.ok.step l hr
  have H0 : Hid (RS w w g x.n x.f s x.v x.r b a l) := ⟨h.cells, hI, But.refl _ _ _⟩
  have c4 := h.c4
  have c0 := h.c0
  obtain ⟨R, hR⟩ : ∃ R, R = 3 * (x.f + 1) := ⟨_, rfl⟩
  have K1 : Hid (∀ w, RNode w g x s b → Calls Try.prog 14 #[.pointer (some ⟨g, 0, none⟩)] w fun e w' => e = .returned (.int .i64 (R : Nat)) ∧ w' = w) := by rw [hR]; exact rrounds_in g x s b
  have hne : ¬ ((x.r : Int) = (R : Int)) := by omega
  have hd : decide ((x.r : Int) = (R : Int)) = false := decide_eq_false hne
  have hd2 : ((x.r : Int) == (R : Int)) = false := by simpa using hne
  have hn' : (n : Int) = (x.n : Int) := by omega
  have l10 : l.length ≤ 10 := by have := h.ok.n10; omega
  have KC : Hid (∀ k, k ≤ 2 → ∀ w, IntsNot w g a l → Calls Try.prog 31 #[.slice a n cap, .int .i64 (k : Nat)] w fun e w' => e = .returned (.int .i64 (cnt l k : Nat)) ∧ w' = w) := fun k hk w hI => rcount_any a l n cap k hk hn l10 w hI.1
  have r12 : (x.r : Int) ≤ 100 := by have := h.ok.hf; have := h.ok.n10; omega
  have m3 : ((x.r : Nat) : Int).tmod 3 = 0 := by have : ((x.r : Nat) : Int).tmod 3 = ((x.r % 3 : Nat) : Int) := rfl; rw [this, hM]; rfl
  have e1 : (x.f : Int) ≤ 10 := by have := h.ok.hf; have := h.ok.n10; omega
  have e2 : (x.n : Int) ≤ 10 := by have := h.ok.n10; omega
  obtain ⟨D, hD⟩ : ∃ D, D = x.n - x.f := ⟨_, rfl⟩
  have e3 : ((x.n : Int) - (x.f : Int)) = (D : Int) := by have := h.ok.hf; omega
  have HD : Hid _ := hD
  have HM : Hid (x.r % 3 = 0) := hM
  have HL : Hid (l.length = x.n ∧ l.length ≤ 10 ∧ n = l.length) := ⟨hl, l10, hn⟩
  have b0 : ((cnt l 0 : Nat) : Int) ≤ 10 := by have := cnt_le l 0; omega
  have b1 : ((cnt l 1 : Nat) : Int) ≤ 10 := by have := cnt_le l 1; omega
  have b2 : ((cnt l 2 : Nat) : Int) ≤ 10 := by have := cnt_le l 2; omega
  obtain ⟨C0, hC0⟩ : ∃ C0, C0 = cnt l 0 := ⟨_, rfl⟩
  obtain ⟨C1, hC1⟩ : ∃ C1, C1 = cnt l 1 := ⟨_, rfl⟩
  obtain ⟨C2, hC2⟩ : ∃ C2, C2 = cnt l 2 := ⟨_, rfl⟩
  have KC0 := KC.out 0 (by decide)
  have KC1 := KC.out 1 (by decide)
  have KC2 := KC.out 2 (by decide)
  rw [← hC0] at b0 KC0
  rw [← hC1] at b1 KC1
  rw [← hC2] at b2 KC2
  have HKC : Hid (_ ∧ _ ∧ _) := ⟨KC0, KC1, KC2⟩
  have HC : Hid (C0 = cnt l 0 ∧ C1 = cnt l 1 ∧ C2 = cnt l 2) := ⟨hC0, hC1, hC2⟩
  clear h hr hR hne hl l10 hD hM hI hn KC KC0 KC1 KC2 hC0 hC1 hC2 c4 c0
  have c4 := H0.out.1.c4
  have c0 := H0.out.1.c0
  have c3 := H0.out.1.c3
  have f3 := H0.out.1.fz 3
  have HS : Hid (stepK x l = firstK x l) := if_pos HM.out
  by_cases q0 : D ≤ C0
  · have Q0 : Hid (D ≤ C0) := q0
    by_cases q1 : D ≤ C1
    · have Q1 : Hid (D ≤ C1) := q1
      have ui : ((D : Nat) : Int) ≤ ((C0 : Nat) : Int) := by omega
      have ud : decide (((D : Nat) : Int) ≤ ((C0 : Nat) : Int)) = true := decide_eq_true (by omega)
      have ue : decide (D ≤ C0) = true := decide_eq_true (by omega)
      have vi : ((D : Nat) : Int) ≤ ((C1 : Nat) : Int) := by omega
      have vd : decide (((D : Nat) : Int) ≤ ((C1 : Nat) : Int)) = true := decide_eq_true (by omega)
      have ve : decide (D ≤ C1) = true := decide_eq_true (by omega)
      clear q0 q1
      go_enter Try.func16, Try.ntmps16
      go_wp2_with fail
      go_quiet ((go_at_call 14; exact Calls.quiet_of_same (K1.out _ (RNode.drewN H.out))))
      go_wp2_with fail
      obtain ⟨w1, hw1⟩ : ∃ w1, w1 = (w.drewN nq).setCell ⟨g, 3, none⟩ (.int .i64 2) := ⟨_, rfl⟩
      have H1 : Hid (RS w w1 g x.n x.f s 2 x.r b a l) := by rw [hw1]; exact H0.out.drewN.setv
      change Code.wp _ _ _ _ ((w.drewN nq).setCell ⟨g, 3, none⟩ (.int .i64 2))
      rw [← hw1]
      clear hw1
      have p10 := H1.out.1.c0
      have p11 := H1.out.1.c1
      have p13 := H1.out.1.c3
      have p14 := H1.out.1.c4
      have p15 := H1.out.1.c5
      have f13 := H1.out.1.fz 3
      have f14 := H1.out.1.fz 4
      have f15 := H1.out.1.fz 5
      clear c4 c0 c3 f3
      go_quiet ((go_at_call 31; exact Calls.quiet_of_same (HKC.out.1 _ (IntsNot.drewN H1.out.2.1))))
      go_wp2_with fail
      obtain ⟨w2, hw2⟩ : ∃ w2, w2 = (w1.drewN nq).setCell ⟨g, 3, none⟩ (.int .i64 0) := ⟨_, rfl⟩
      have H2 : Hid (RS w w2 g x.n x.f s 0 x.r b a l) := by rw [hw2]; exact H1.out.drewN.setv
      change Code.wp _ _ _ _ ((w1.drewN nq).setCell ⟨g, 3, none⟩ (.int .i64 0))
      rw [← hw2]
      clear hw2
      have p20 := H2.out.1.c0
      have p21 := H2.out.1.c1
      have p23 := H2.out.1.c3
      have p24 := H2.out.1.c4
      have p25 := H2.out.1.c5
      have f23 := H2.out.1.fz 3
      have f24 := H2.out.1.fz 4
      have f25 := H2.out.1.fz 5
      clear p10 p11 p13 p14 p15 f13 f14 f15
      go_quiet ((go_at_call 31; exact Calls.quiet_of_same (HKC.out.2.1 _ (IntsNot.drewN H2.out.2.1))))
      go_wp2_with fail
      go_ret
      rw [HS.out]
      have ev : firstV x.n x.f (cnt l 0) (cnt l 1) = 1 := by
        unfold firstV
        rw [← HD.out, ← HC.out.1, ← HC.out.2.1]
        simp [Q1.out]
      have t := (RS.drewN (k := nq) H2.out).setv (v' := 1).setr (r' := x.r + 1)
      rw [HS.out] at HO
      refine ⟨rfl, ⟨b, RCells.node (x := firstK x l) ?_ HO.out (fun q => by have q' : (x.r + 1) % 3 = 2 := q; have := HM.out; omega) H.out.b10⟩, t.2.2⟩
      unfold firstK; rw [ev]; exact t.1
    · have Q1 : Hid (¬ D ≤ C1) := q1
      have ui : ((D : Nat) : Int) ≤ ((C0 : Nat) : Int) := by omega
      have ud : decide (((D : Nat) : Int) ≤ ((C0 : Nat) : Int)) = true := decide_eq_true (by omega)
      have ue : decide (D ≤ C0) = true := decide_eq_true (by omega)
      have vi : ¬ ((D : Nat) : Int) ≤ ((C1 : Nat) : Int) := by omega
      have vd : decide (((D : Nat) : Int) ≤ ((C1 : Nat) : Int)) = false := decide_eq_false (by omega)
      have ve : decide (D ≤ C1) = false := decide_eq_false (by omega)
      clear q0 q1
      go_enter Try.func16, Try.ntmps16
      go_wp2_with fail
      go_quiet ((go_at_call 14; exact Calls.quiet_of_same (K1.out _ (RNode.drewN H.out))))
      go_wp2_with fail
      obtain ⟨w1, hw1⟩ : ∃ w1, w1 = (w.drewN nq).setCell ⟨g, 3, none⟩ (.int .i64 2) := ⟨_, rfl⟩
      have H1 : Hid (RS w w1 g x.n x.f s 2 x.r b a l) := by rw [hw1]; exact H0.out.drewN.setv
      change Code.wp _ _ _ _ ((w.drewN nq).setCell ⟨g, 3, none⟩ (.int .i64 2))
      rw [← hw1]
      clear hw1
      have p10 := H1.out.1.c0
      have p11 := H1.out.1.c1
      have p13 := H1.out.1.c3
      have p14 := H1.out.1.c4
      have p15 := H1.out.1.c5
      have f13 := H1.out.1.fz 3
      have f14 := H1.out.1.fz 4
      have f15 := H1.out.1.fz 5
      clear c4 c0 c3 f3
      go_quiet ((go_at_call 31; exact Calls.quiet_of_same (HKC.out.1 _ (IntsNot.drewN H1.out.2.1))))
      go_wp2_with fail
      obtain ⟨w2, hw2⟩ : ∃ w2, w2 = (w1.drewN nq).setCell ⟨g, 3, none⟩ (.int .i64 0) := ⟨_, rfl⟩
      have H2 : Hid (RS w w2 g x.n x.f s 0 x.r b a l) := by rw [hw2]; exact H1.out.drewN.setv
      change Code.wp _ _ _ _ ((w1.drewN nq).setCell ⟨g, 3, none⟩ (.int .i64 0))
      rw [← hw2]
      clear hw2
      have p20 := H2.out.1.c0
      have p21 := H2.out.1.c1
      have p23 := H2.out.1.c3
      have p24 := H2.out.1.c4
      have p25 := H2.out.1.c5
      have f23 := H2.out.1.fz 3
      have f24 := H2.out.1.fz 4
      have f25 := H2.out.1.fz 5
      clear p10 p11 p13 p14 p15 f13 f14 f15
      go_quiet ((go_at_call 31; exact Calls.quiet_of_same (HKC.out.2.1 _ (IntsNot.drewN H2.out.2.1))))
      go_wp2_with fail
      go_ret
      rw [HS.out]
      have ev : firstV x.n x.f (cnt l 0) (cnt l 1) = 0 := by
        unfold firstV
        rw [← HD.out, ← HC.out.1, ← HC.out.2.1]
        simp [Q1.out, Q0.out]
      have t := (RS.drewN (k := nq) H2.out).setr (r' := x.r + 1)
      rw [HS.out] at HO
      refine ⟨rfl, ⟨b, RCells.node (x := firstK x l) ?_ HO.out (fun q => by have q' : (x.r + 1) % 3 = 2 := q; have := HM.out; omega) H.out.b10⟩, t.2.2⟩
      unfold firstK; rw [ev]; exact t.1
  · have Q0 : Hid (¬ D ≤ C0) := q0
    by_cases q1 : D ≤ C1
    · have Q1 : Hid (D ≤ C1) := q1
      have ui : ¬ ((D : Nat) : Int) ≤ ((C0 : Nat) : Int) := by omega
      have ud : decide (((D : Nat) : Int) ≤ ((C0 : Nat) : Int)) = false := decide_eq_false (by omega)
      have ue : decide (D ≤ C0) = false := decide_eq_false (by omega)
      have vi : ((D : Nat) : Int) ≤ ((C1 : Nat) : Int) := by omega
      have vd : decide (((D : Nat) : Int) ≤ ((C1 : Nat) : Int)) = true := decide_eq_true (by omega)
      have ve : decide (D ≤ C1) = true := decide_eq_true (by omega)
      clear q0 q1
      go_enter Try.func16, Try.ntmps16
      go_wp2_with fail
      go_quiet ((go_at_call 14; exact Calls.quiet_of_same (K1.out _ (RNode.drewN H.out))))
      go_wp2_with fail
      obtain ⟨w1, hw1⟩ : ∃ w1, w1 = (w.drewN nq).setCell ⟨g, 3, none⟩ (.int .i64 2) := ⟨_, rfl⟩
      have H1 : Hid (RS w w1 g x.n x.f s 2 x.r b a l) := by rw [hw1]; exact H0.out.drewN.setv
      change Code.wp _ _ _ _ ((w.drewN nq).setCell ⟨g, 3, none⟩ (.int .i64 2))
      rw [← hw1]
      clear hw1
      have p10 := H1.out.1.c0
      have p11 := H1.out.1.c1
      have p13 := H1.out.1.c3
      have p14 := H1.out.1.c4
      have p15 := H1.out.1.c5
      have f13 := H1.out.1.fz 3
      have f14 := H1.out.1.fz 4
      have f15 := H1.out.1.fz 5
      clear c4 c0 c3 f3
      go_quiet ((go_at_call 31; exact Calls.quiet_of_same (HKC.out.1 _ (IntsNot.drewN H1.out.2.1))))
      go_wp2_with fail
      obtain ⟨w2, hw2⟩ : ∃ w2, w2 = w1.drewN nq := ⟨_, rfl⟩
      have H2 : Hid (RS w w2 g x.n x.f s 2 x.r b a l) := by rw [hw2]; exact H1.out.drewN
      change Code.wp _ _ _ _ (w1.drewN nq)
      rw [← hw2]
      clear hw2
      have p20 := H2.out.1.c0
      have p21 := H2.out.1.c1
      have p23 := H2.out.1.c3
      have p24 := H2.out.1.c4
      have p25 := H2.out.1.c5
      have f23 := H2.out.1.fz 3
      have f24 := H2.out.1.fz 4
      have f25 := H2.out.1.fz 5
      clear p10 p11 p13 p14 p15 f13 f14 f15
      go_quiet ((go_at_call 31; exact Calls.quiet_of_same (HKC.out.2.1 _ (IntsNot.drewN H2.out.2.1))))
      go_wp2_with fail
      go_ret
      rw [HS.out]
      have ev : firstV x.n x.f (cnt l 0) (cnt l 1) = 1 := by
        unfold firstV
        rw [← HD.out, ← HC.out.1, ← HC.out.2.1]
        simp [Q1.out]
      have t := (RS.drewN (k := nq) H2.out).setv (v' := 1).setr (r' := x.r + 1)
      rw [HS.out] at HO
      refine ⟨rfl, ⟨b, RCells.node (x := firstK x l) ?_ HO.out (fun q => by have q' : (x.r + 1) % 3 = 2 := q; have := HM.out; omega) H.out.b10⟩, t.2.2⟩
      unfold firstK; rw [ev]; exact t.1
    · have Q1 : Hid (¬ D ≤ C1) := q1
      have ui : ¬ ((D : Nat) : Int) ≤ ((C0 : Nat) : Int) := by omega
      have ud : decide (((D : Nat) : Int) ≤ ((C0 : Nat) : Int)) = false := decide_eq_false (by omega)
      have ue : decide (D ≤ C0) = false := decide_eq_false (by omega)
      have vi : ¬ ((D : Nat) : Int) ≤ ((C1 : Nat) : Int) := by omega
      have vd : decide (((D : Nat) : Int) ≤ ((C1 : Nat) : Int)) = false := decide_eq_false (by omega)
      have ve : decide (D ≤ C1) = false := decide_eq_false (by omega)
      clear q0 q1
      go_enter Try.func16, Try.ntmps16
      go_wp2_with fail
      go_quiet ((go_at_call 14; exact Calls.quiet_of_same (K1.out _ (RNode.drewN H.out))))
      go_wp2_with fail
      obtain ⟨w1, hw1⟩ : ∃ w1, w1 = (w.drewN nq).setCell ⟨g, 3, none⟩ (.int .i64 2) := ⟨_, rfl⟩
      have H1 : Hid (RS w w1 g x.n x.f s 2 x.r b a l) := by rw [hw1]; exact H0.out.drewN.setv
      change Code.wp _ _ _ _ ((w.drewN nq).setCell ⟨g, 3, none⟩ (.int .i64 2))
      rw [← hw1]
      clear hw1
      have p10 := H1.out.1.c0
      have p11 := H1.out.1.c1
      have p13 := H1.out.1.c3
      have p14 := H1.out.1.c4
      have p15 := H1.out.1.c5
      have f13 := H1.out.1.fz 3
      have f14 := H1.out.1.fz 4
      have f15 := H1.out.1.fz 5
      clear c4 c0 c3 f3
      go_quiet ((go_at_call 31; exact Calls.quiet_of_same (HKC.out.1 _ (IntsNot.drewN H1.out.2.1))))
      go_wp2_with fail
      obtain ⟨w2, hw2⟩ : ∃ w2, w2 = w1.drewN nq := ⟨_, rfl⟩
      have H2 : Hid (RS w w2 g x.n x.f s 2 x.r b a l) := by rw [hw2]; exact H1.out.drewN
      change Code.wp _ _ _ _ (w1.drewN nq)
      rw [← hw2]
      clear hw2
      have p20 := H2.out.1.c0
      have p21 := H2.out.1.c1
      have p23 := H2.out.1.c3
      have p24 := H2.out.1.c4
      have p25 := H2.out.1.c5
      have f23 := H2.out.1.fz 3
      have f24 := H2.out.1.fz 4
      have f25 := H2.out.1.fz 5
      clear p10 p11 p13 p14 p15 f13 f14 f15
      go_quiet ((go_at_call 31; exact Calls.quiet_of_same (HKC.out.2.1 _ (IntsNot.drewN H2.out.2.1))))
      go_wp2_with fail
      go_ret
      rw [HS.out]
      have ev : firstV x.n x.f (cnt l 0) (cnt l 1) = 2 := by
        unfold firstV
        rw [← HD.out, ← HC.out.1, ← HC.out.2.1]
        simp [Q1.out, Q0.out]
      have t := (RS.drewN (k := nq) H2.out).setr (r' := x.r + 1)
      rw [HS.out] at HO
      refine ⟨rfl, ⟨b, RCells.node (x := firstK x l) ?_ HO.out (fun q => by have q' : (x.r + 1) % 3 = 2 := q; have := HM.out; omega) H.out.b10⟩, t.2.2⟩
      unfold firstK; rw [ev]; exact t.1
set_option maxRecDepth 100000 in
set_option maxHeartbeats 8000000 in
theorem rhear_second (g : Nat) (x : Kn) (s b : Nat) (a : Option Addr) (l : List Int) (n cap : Nat) (hn : n = l.length) (w : World) (h : RNode w g x s b) (hr : x.r < 3 * (x.f + 1)) (hl : l.length = x.n) (hI : IntsNot w g a l) (hM : x.r % 3 = 1) :
    Calls Try.prog 16 #[.pointer (some ⟨g, 0, none⟩), .slice a n cap] w fun e w' => e = .returned (.int .i64 0) ∧ (∃ b', RNode w' g (stepK x l) s b') ∧ But g (From w.heap.size) w w' := by
  have H : Hid (RNode w g x s b) := h
  have HR : Hid (x.r < 3 * (x.f + 1)) := hr
  have HO : Hid ((stepK x l).Ok) := h.ok.step l hr
  have H0 : Hid (RS w w g x.n x.f s x.v x.r b a l) := ⟨h.cells, hI, But.refl _ _ _⟩
  have c4 := h.c4
  have c0 := h.c0
  obtain ⟨R, hR⟩ : ∃ R, R = 3 * (x.f + 1) := ⟨_, rfl⟩
  have K1 : Hid (∀ w, RNode w g x s b → Calls Try.prog 14 #[.pointer (some ⟨g, 0, none⟩)] w fun e w' => e = .returned (.int .i64 (R : Nat)) ∧ w' = w) := by rw [hR]; exact rrounds_in g x s b
  have hne : ¬ ((x.r : Int) = (R : Int)) := by omega
  have hd : decide ((x.r : Int) = (R : Int)) = false := decide_eq_false hne
  have hd2 : ((x.r : Int) == (R : Int)) = false := by simpa using hne
  have hn' : (n : Int) = (x.n : Int) := by omega
  have l10 : l.length ≤ 10 := by have := h.ok.n10; omega
  have KC : Hid (∀ k, k ≤ 2 → ∀ w, IntsNot w g a l → Calls Try.prog 31 #[.slice a n cap, .int .i64 (k : Nat)] w fun e w' => e = .returned (.int .i64 (cnt l k : Nat)) ∧ w' = w) := fun k hk w hI => rcount_any a l n cap k hk hn l10 w hI.1
  have r12 : (x.r : Int) ≤ 100 := by have := h.ok.hf; have := h.ok.n10; omega
  have m3 : ((x.r : Nat) : Int).tmod 3 = 1 := by have : ((x.r : Nat) : Int).tmod 3 = ((x.r % 3 : Nat) : Int) := rfl; rw [this, hM]; rfl
  have e1 : (x.f : Int) ≤ 10 := by have := h.ok.hf; have := h.ok.n10; omega
  have e2 : (x.n : Int) ≤ 10 := by have := h.ok.n10; omega
  obtain ⟨D, hD⟩ : ∃ D, D = x.n - x.f := ⟨_, rfl⟩
  have e3 : ((x.n : Int) - (x.f : Int)) = (D : Int) := by have := h.ok.hf; omega
  have HD : Hid _ := hD
  have HM : Hid (x.r % 3 = 1) := hM
  have HL : Hid (l.length = x.n ∧ l.length ≤ 10 ∧ n = l.length) := ⟨hl, l10, hn⟩
  have b0 : ((cnt l 0 : Nat) : Int) ≤ 10 := by have := cnt_le l 0; omega
  have b1 : ((cnt l 1 : Nat) : Int) ≤ 10 := by have := cnt_le l 1; omega
  have b2 : ((cnt l 2 : Nat) : Int) ≤ 10 := by have := cnt_le l 2; omega
  obtain ⟨C0, hC0⟩ : ∃ C0, C0 = cnt l 0 := ⟨_, rfl⟩
  obtain ⟨C1, hC1⟩ : ∃ C1, C1 = cnt l 1 := ⟨_, rfl⟩
  obtain ⟨C2, hC2⟩ : ∃ C2, C2 = cnt l 2 := ⟨_, rfl⟩
  have KC0 := KC.out 0 (by decide)
  have KC1 := KC.out 1 (by decide)
  have KC2 := KC.out 2 (by decide)
  rw [← hC0] at b0 KC0
  rw [← hC1] at b1 KC1
  rw [← hC2] at b2 KC2
  have HKC : Hid (_ ∧ _ ∧ _) := ⟨KC0, KC1, KC2⟩
  have HC : Hid (C0 = cnt l 0 ∧ C1 = cnt l 1 ∧ C2 = cnt l 2) := ⟨hC0, hC1, hC2⟩
  clear h hr hR hne hl l10 hD hM hI hn KC KC0 KC1 KC2 hC0 hC1 hC2 c4 c0
  have c4 := H0.out.1.c4
  have c0 := H0.out.1.c0
  have c3 := H0.out.1.c3
  have f3 := H0.out.1.fz 3
  have HS : Hid (stepK x l = secondK x l) := (if_neg (by rw [HM.out]; decide)).trans (if_pos HM.out)
  obtain ⟨F, hF⟩ : ∃ F, F = x.f := ⟨_, rfl⟩
  have HF : Hid (F = x.f) := hF
  have HVK : Hid (∀ V, V ≤ 2 → ∀ w, IntsNot w g a l → Calls Try.prog 31 #[.slice a n cap, .int .i64 (V : Nat)] w fun e w' => e = .returned (.int .i64 (cnt l V : Nat)) ∧ w' = w) := fun V hV w hI => rcount_any a l n cap V hV HL.out.2.2 HL.out.2.1 w hI.1
  have HV2 : Hid (x.v ≤ 2) := (show RNode w g x s b from H.out).ok.hv
  by_cases q2 : x.f < C2
  · have Q2 : Hid (x.f < C2) := q2
    by_cases q1 : x.f < C1
    · have Q1 : Hid (x.f < C1) := q1
      by_cases q0 : x.f < C0
      · have Q0 : Hid (x.f < C0) := q0
        have ui : ((x.f : Nat) : Int) < ((C2 : Nat) : Int) := by omega
        have ud : decide (((x.f : Nat) : Int) < ((C2 : Nat) : Int)) = true := decide_eq_true (by omega)
        have ue : decide (x.f < C2) = true := decide_eq_true (by omega)
        have vi : ((x.f : Nat) : Int) < ((C1 : Nat) : Int) := by omega
        have vd : decide (((x.f : Nat) : Int) < ((C1 : Nat) : Int)) = true := decide_eq_true (by omega)
        have ve : decide (x.f < C1) = true := decide_eq_true (by omega)
        have ti : ((x.f : Nat) : Int) < ((C0 : Nat) : Int) := by omega
        have td : decide (((x.f : Nat) : Int) < ((C0 : Nat) : Int)) = true := decide_eq_true (by omega)
        have te : decide (x.f < C0) = true := decide_eq_true (by omega)
        clear q0 q1 q2
        go_enter Try.func16, Try.ntmps16
        go_wp2_with fail
        go_quiet ((go_at_call 14; exact Calls.quiet_of_same (K1.out _ (RNode.drewN H.out))))
        go_wp2_with fail
        obtain ⟨w1, hw1⟩ : ∃ w1, w1 = w.drewN nq := ⟨_, rfl⟩
        have H1 : Hid (RS w w1 g x.n x.f s x.v x.r b a l) := by rw [hw1]; exact H0.out.drewN
        change Code.wp _ _ _ _ (w.drewN nq)
        rw [← hw1]
        clear hw1
        have p10 := H1.out.1.c0
        have p11 := H1.out.1.c1
        have p13 := H1.out.1.c3
        have p14 := H1.out.1.c4
        have p15 := H1.out.1.c5
        have f13 := H1.out.1.fz 3
        have f14 := H1.out.1.fz 4
        have f15 := H1.out.1.fz 5
        clear c4 c0 c3 f3
        go_quiet ((go_at_call 31; exact Calls.quiet_of_same (HKC.out.2.2 _ (IntsNot.drewN H1.out.2.1))))
        go_wp2_with fail
        obtain ⟨w2, hw2⟩ : ∃ w2, w2 = (w1.drewN nq).setCell ⟨g, 3, none⟩ (.int .i64 2) := ⟨_, rfl⟩
        have H2 : Hid (RS w w2 g x.n x.f s 2 x.r b a l) := by rw [hw2]; exact H1.out.drewN.setv
        change Code.wp _ _ _ _ ((w1.drewN nq).setCell ⟨g, 3, none⟩ (.int .i64 2))
        rw [← hw2]
        clear hw2
        have p20 := H2.out.1.c0
        have p21 := H2.out.1.c1
        have p23 := H2.out.1.c3
        have p24 := H2.out.1.c4
        have p25 := H2.out.1.c5
        have f23 := H2.out.1.fz 3
        have f24 := H2.out.1.fz 4
        have f25 := H2.out.1.fz 5
        clear p10 p11 p13 p14 p15 f13 f14 f15
        go_quiet ((go_at_call 31; exact Calls.quiet_of_same (HKC.out.2.1 _ (IntsNot.drewN H2.out.2.1))))
        go_wp2_with fail
        obtain ⟨w3, hw3⟩ : ∃ w3, w3 = (w2.drewN nq).setCell ⟨g, 3, none⟩ (.int .i64 1) := ⟨_, rfl⟩
        have H3 : Hid (RS w w3 g x.n x.f s 1 x.r b a l) := by rw [hw3]; exact H2.out.drewN.setv
        change Code.wp _ _ _ _ ((w2.drewN nq).setCell ⟨g, 3, none⟩ (.int .i64 1))
        rw [← hw3]
        clear hw3
        have p30 := H3.out.1.c0
        have p31 := H3.out.1.c1
        have p33 := H3.out.1.c3
        have p34 := H3.out.1.c4
        have p35 := H3.out.1.c5
        have f33 := H3.out.1.fz 3
        have f34 := H3.out.1.fz 4
        have f35 := H3.out.1.fz 5
        clear p20 p21 p23 p24 p25 f23 f24 f25
        go_quiet ((go_at_call 31; exact Calls.quiet_of_same (HKC.out.1 _ (IntsNot.drewN H3.out.2.1))))
        go_wp2_with fail
        have HI4 : Hid (RS w ((w3.drewN nq).setCell ⟨g, 3, none⟩ (.int .i64 0)) g x.n x.f s 0 x.r b a l) := H3.out.drewN.setv
        refine (HVK.out 0 (by decide) _ HI4.out.2.1).mono ?_
        rintro e w4 ⟨rfl, rfl⟩
        go_wp2_with fail
        go_ret
        rw [HS.out]
        have ev : secondV x.f (cnt l 0) (cnt l 1) (cnt l 2) x.v = 0 := by
          unfold secondV
          rw [← HC.out.1, ← HC.out.2.1, ← HC.out.2.2]
          simp [Q0.out]
        have t := (HI4.out.setb (b' := cnt l (0))).setr (r' := x.r + 1)
        rw [HS.out] at HO
        have t1 := t.1
        have hc : cnt l (0) ≤ 10 := Nat.le_trans (cnt_le _ _) HL.out.2.1
        refine ⟨rfl, ⟨cnt l (0), RCells.node (x := secondK x l) ?_ HO.out (fun _ => ?_) hc⟩, t.2.2⟩
        · unfold secondK; rw [ev]; exact t1
        · unfold secondK; rw [ev]
      · have Q0 : Hid (¬ x.f < C0) := q0
        have ui : ((x.f : Nat) : Int) < ((C2 : Nat) : Int) := by omega
        have ud : decide (((x.f : Nat) : Int) < ((C2 : Nat) : Int)) = true := decide_eq_true (by omega)
        have ue : decide (x.f < C2) = true := decide_eq_true (by omega)
        have vi : ((x.f : Nat) : Int) < ((C1 : Nat) : Int) := by omega
        have vd : decide (((x.f : Nat) : Int) < ((C1 : Nat) : Int)) = true := decide_eq_true (by omega)
        have ve : decide (x.f < C1) = true := decide_eq_true (by omega)
        have ti : ¬ ((x.f : Nat) : Int) < ((C0 : Nat) : Int) := by omega
        have td : decide (((x.f : Nat) : Int) < ((C0 : Nat) : Int)) = false := decide_eq_false (by omega)
        have te : decide (x.f < C0) = false := decide_eq_false (by omega)
        clear q0 q1 q2
        go_enter Try.func16, Try.ntmps16
        go_wp2_with fail
        go_quiet ((go_at_call 14; exact Calls.quiet_of_same (K1.out _ (RNode.drewN H.out))))
        go_wp2_with fail
        obtain ⟨w1, hw1⟩ : ∃ w1, w1 = w.drewN nq := ⟨_, rfl⟩
        have H1 : Hid (RS w w1 g x.n x.f s x.v x.r b a l) := by rw [hw1]; exact H0.out.drewN
        change Code.wp _ _ _ _ (w.drewN nq)
        rw [← hw1]
        clear hw1
        have p10 := H1.out.1.c0
        have p11 := H1.out.1.c1
        have p13 := H1.out.1.c3
        have p14 := H1.out.1.c4
        have p15 := H1.out.1.c5
        have f13 := H1.out.1.fz 3
        have f14 := H1.out.1.fz 4
        have f15 := H1.out.1.fz 5
        clear c4 c0 c3 f3
        go_quiet ((go_at_call 31; exact Calls.quiet_of_same (HKC.out.2.2 _ (IntsNot.drewN H1.out.2.1))))
        go_wp2_with fail
        obtain ⟨w2, hw2⟩ : ∃ w2, w2 = (w1.drewN nq).setCell ⟨g, 3, none⟩ (.int .i64 2) := ⟨_, rfl⟩
        have H2 : Hid (RS w w2 g x.n x.f s 2 x.r b a l) := by rw [hw2]; exact H1.out.drewN.setv
        change Code.wp _ _ _ _ ((w1.drewN nq).setCell ⟨g, 3, none⟩ (.int .i64 2))
        rw [← hw2]
        clear hw2
        have p20 := H2.out.1.c0
        have p21 := H2.out.1.c1
        have p23 := H2.out.1.c3
        have p24 := H2.out.1.c4
        have p25 := H2.out.1.c5
        have f23 := H2.out.1.fz 3
        have f24 := H2.out.1.fz 4
        have f25 := H2.out.1.fz 5
        clear p10 p11 p13 p14 p15 f13 f14 f15
        go_quiet ((go_at_call 31; exact Calls.quiet_of_same (HKC.out.2.1 _ (IntsNot.drewN H2.out.2.1))))
        go_wp2_with fail
        obtain ⟨w3, hw3⟩ : ∃ w3, w3 = (w2.drewN nq).setCell ⟨g, 3, none⟩ (.int .i64 1) := ⟨_, rfl⟩
        have H3 : Hid (RS w w3 g x.n x.f s 1 x.r b a l) := by rw [hw3]; exact H2.out.drewN.setv
        change Code.wp _ _ _ _ ((w2.drewN nq).setCell ⟨g, 3, none⟩ (.int .i64 1))
        rw [← hw3]
        clear hw3
        have p30 := H3.out.1.c0
        have p31 := H3.out.1.c1
        have p33 := H3.out.1.c3
        have p34 := H3.out.1.c4
        have p35 := H3.out.1.c5
        have f33 := H3.out.1.fz 3
        have f34 := H3.out.1.fz 4
        have f35 := H3.out.1.fz 5
        clear p20 p21 p23 p24 p25 f23 f24 f25
        go_quiet ((go_at_call 31; exact Calls.quiet_of_same (HKC.out.1 _ (IntsNot.drewN H3.out.2.1))))
        go_wp2_with fail
        have HI4 : Hid (RS w (w3.drewN nq) g x.n x.f s 1 x.r b a l) := H3.out.drewN
        refine (HVK.out 1 (by decide) _ HI4.out.2.1).mono ?_
        rintro e w4 ⟨rfl, rfl⟩
        go_wp2_with fail
        go_ret
        rw [HS.out]
        have ev : secondV x.f (cnt l 0) (cnt l 1) (cnt l 2) x.v = 1 := by
          unfold secondV
          rw [← HC.out.1, ← HC.out.2.1, ← HC.out.2.2]
          simp [Q0.out, Q1.out]
        have t := (HI4.out.setb (b' := cnt l (1))).setr (r' := x.r + 1)
        rw [HS.out] at HO
        have t1 := t.1
        have hc : cnt l (1) ≤ 10 := Nat.le_trans (cnt_le _ _) HL.out.2.1
        refine ⟨rfl, ⟨cnt l (1), RCells.node (x := secondK x l) ?_ HO.out (fun _ => ?_) hc⟩, t.2.2⟩
        · unfold secondK; rw [ev]; exact t1
        · unfold secondK; rw [ev]
    · have Q1 : Hid (¬ x.f < C1) := q1
      by_cases q0 : x.f < C0
      · have Q0 : Hid (x.f < C0) := q0
        have ui : ((x.f : Nat) : Int) < ((C2 : Nat) : Int) := by omega
        have ud : decide (((x.f : Nat) : Int) < ((C2 : Nat) : Int)) = true := decide_eq_true (by omega)
        have ue : decide (x.f < C2) = true := decide_eq_true (by omega)
        have vi : ¬ ((x.f : Nat) : Int) < ((C1 : Nat) : Int) := by omega
        have vd : decide (((x.f : Nat) : Int) < ((C1 : Nat) : Int)) = false := decide_eq_false (by omega)
        have ve : decide (x.f < C1) = false := decide_eq_false (by omega)
        have ti : ((x.f : Nat) : Int) < ((C0 : Nat) : Int) := by omega
        have td : decide (((x.f : Nat) : Int) < ((C0 : Nat) : Int)) = true := decide_eq_true (by omega)
        have te : decide (x.f < C0) = true := decide_eq_true (by omega)
        clear q0 q1 q2
        go_enter Try.func16, Try.ntmps16
        go_wp2_with fail
        go_quiet ((go_at_call 14; exact Calls.quiet_of_same (K1.out _ (RNode.drewN H.out))))
        go_wp2_with fail
        obtain ⟨w1, hw1⟩ : ∃ w1, w1 = w.drewN nq := ⟨_, rfl⟩
        have H1 : Hid (RS w w1 g x.n x.f s x.v x.r b a l) := by rw [hw1]; exact H0.out.drewN
        change Code.wp _ _ _ _ (w.drewN nq)
        rw [← hw1]
        clear hw1
        have p10 := H1.out.1.c0
        have p11 := H1.out.1.c1
        have p13 := H1.out.1.c3
        have p14 := H1.out.1.c4
        have p15 := H1.out.1.c5
        have f13 := H1.out.1.fz 3
        have f14 := H1.out.1.fz 4
        have f15 := H1.out.1.fz 5
        clear c4 c0 c3 f3
        go_quiet ((go_at_call 31; exact Calls.quiet_of_same (HKC.out.2.2 _ (IntsNot.drewN H1.out.2.1))))
        go_wp2_with fail
        obtain ⟨w2, hw2⟩ : ∃ w2, w2 = (w1.drewN nq).setCell ⟨g, 3, none⟩ (.int .i64 2) := ⟨_, rfl⟩
        have H2 : Hid (RS w w2 g x.n x.f s 2 x.r b a l) := by rw [hw2]; exact H1.out.drewN.setv
        change Code.wp _ _ _ _ ((w1.drewN nq).setCell ⟨g, 3, none⟩ (.int .i64 2))
        rw [← hw2]
        clear hw2
        have p20 := H2.out.1.c0
        have p21 := H2.out.1.c1
        have p23 := H2.out.1.c3
        have p24 := H2.out.1.c4
        have p25 := H2.out.1.c5
        have f23 := H2.out.1.fz 3
        have f24 := H2.out.1.fz 4
        have f25 := H2.out.1.fz 5
        clear p10 p11 p13 p14 p15 f13 f14 f15
        go_quiet ((go_at_call 31; exact Calls.quiet_of_same (HKC.out.2.1 _ (IntsNot.drewN H2.out.2.1))))
        go_wp2_with fail
        obtain ⟨w3, hw3⟩ : ∃ w3, w3 = w2.drewN nq := ⟨_, rfl⟩
        have H3 : Hid (RS w w3 g x.n x.f s 2 x.r b a l) := by rw [hw3]; exact H2.out.drewN
        change Code.wp _ _ _ _ (w2.drewN nq)
        rw [← hw3]
        clear hw3
        have p30 := H3.out.1.c0
        have p31 := H3.out.1.c1
        have p33 := H3.out.1.c3
        have p34 := H3.out.1.c4
        have p35 := H3.out.1.c5
        have f33 := H3.out.1.fz 3
        have f34 := H3.out.1.fz 4
        have f35 := H3.out.1.fz 5
        clear p20 p21 p23 p24 p25 f23 f24 f25
        go_quiet ((go_at_call 31; exact Calls.quiet_of_same (HKC.out.1 _ (IntsNot.drewN H3.out.2.1))))
        go_wp2_with fail
        have HI4 : Hid (RS w ((w3.drewN nq).setCell ⟨g, 3, none⟩ (.int .i64 0)) g x.n x.f s 0 x.r b a l) := H3.out.drewN.setv
        refine (HVK.out 0 (by decide) _ HI4.out.2.1).mono ?_
        rintro e w4 ⟨rfl, rfl⟩
        go_wp2_with fail
        go_ret
        rw [HS.out]
        have ev : secondV x.f (cnt l 0) (cnt l 1) (cnt l 2) x.v = 0 := by
          unfold secondV
          rw [← HC.out.1, ← HC.out.2.1, ← HC.out.2.2]
          simp [Q0.out]
        have t := (HI4.out.setb (b' := cnt l (0))).setr (r' := x.r + 1)
        rw [HS.out] at HO
        have t1 := t.1
        have hc : cnt l (0) ≤ 10 := Nat.le_trans (cnt_le _ _) HL.out.2.1
        refine ⟨rfl, ⟨cnt l (0), RCells.node (x := secondK x l) ?_ HO.out (fun _ => ?_) hc⟩, t.2.2⟩
        · unfold secondK; rw [ev]; exact t1
        · unfold secondK; rw [ev]
      · have Q0 : Hid (¬ x.f < C0) := q0
        have ui : ((x.f : Nat) : Int) < ((C2 : Nat) : Int) := by omega
        have ud : decide (((x.f : Nat) : Int) < ((C2 : Nat) : Int)) = true := decide_eq_true (by omega)
        have ue : decide (x.f < C2) = true := decide_eq_true (by omega)
        have vi : ¬ ((x.f : Nat) : Int) < ((C1 : Nat) : Int) := by omega
        have vd : decide (((x.f : Nat) : Int) < ((C1 : Nat) : Int)) = false := decide_eq_false (by omega)
        have ve : decide (x.f < C1) = false := decide_eq_false (by omega)
        have ti : ¬ ((x.f : Nat) : Int) < ((C0 : Nat) : Int) := by omega
        have td : decide (((x.f : Nat) : Int) < ((C0 : Nat) : Int)) = false := decide_eq_false (by omega)
        have te : decide (x.f < C0) = false := decide_eq_false (by omega)
        clear q0 q1 q2
        go_enter Try.func16, Try.ntmps16
        go_wp2_with fail
        go_quiet ((go_at_call 14; exact Calls.quiet_of_same (K1.out _ (RNode.drewN H.out))))
        go_wp2_with fail
        obtain ⟨w1, hw1⟩ : ∃ w1, w1 = w.drewN nq := ⟨_, rfl⟩
        have H1 : Hid (RS w w1 g x.n x.f s x.v x.r b a l) := by rw [hw1]; exact H0.out.drewN
        change Code.wp _ _ _ _ (w.drewN nq)
        rw [← hw1]
        clear hw1
        have p10 := H1.out.1.c0
        have p11 := H1.out.1.c1
        have p13 := H1.out.1.c3
        have p14 := H1.out.1.c4
        have p15 := H1.out.1.c5
        have f13 := H1.out.1.fz 3
        have f14 := H1.out.1.fz 4
        have f15 := H1.out.1.fz 5
        clear c4 c0 c3 f3
        go_quiet ((go_at_call 31; exact Calls.quiet_of_same (HKC.out.2.2 _ (IntsNot.drewN H1.out.2.1))))
        go_wp2_with fail
        obtain ⟨w2, hw2⟩ : ∃ w2, w2 = (w1.drewN nq).setCell ⟨g, 3, none⟩ (.int .i64 2) := ⟨_, rfl⟩
        have H2 : Hid (RS w w2 g x.n x.f s 2 x.r b a l) := by rw [hw2]; exact H1.out.drewN.setv
        change Code.wp _ _ _ _ ((w1.drewN nq).setCell ⟨g, 3, none⟩ (.int .i64 2))
        rw [← hw2]
        clear hw2
        have p20 := H2.out.1.c0
        have p21 := H2.out.1.c1
        have p23 := H2.out.1.c3
        have p24 := H2.out.1.c4
        have p25 := H2.out.1.c5
        have f23 := H2.out.1.fz 3
        have f24 := H2.out.1.fz 4
        have f25 := H2.out.1.fz 5
        clear p10 p11 p13 p14 p15 f13 f14 f15
        go_quiet ((go_at_call 31; exact Calls.quiet_of_same (HKC.out.2.1 _ (IntsNot.drewN H2.out.2.1))))
        go_wp2_with fail
        obtain ⟨w3, hw3⟩ : ∃ w3, w3 = w2.drewN nq := ⟨_, rfl⟩
        have H3 : Hid (RS w w3 g x.n x.f s 2 x.r b a l) := by rw [hw3]; exact H2.out.drewN
        change Code.wp _ _ _ _ (w2.drewN nq)
        rw [← hw3]
        clear hw3
        have p30 := H3.out.1.c0
        have p31 := H3.out.1.c1
        have p33 := H3.out.1.c3
        have p34 := H3.out.1.c4
        have p35 := H3.out.1.c5
        have f33 := H3.out.1.fz 3
        have f34 := H3.out.1.fz 4
        have f35 := H3.out.1.fz 5
        clear p20 p21 p23 p24 p25 f23 f24 f25
        go_quiet ((go_at_call 31; exact Calls.quiet_of_same (HKC.out.1 _ (IntsNot.drewN H3.out.2.1))))
        go_wp2_with fail
        have HI4 : Hid (RS w (w3.drewN nq) g x.n x.f s 2 x.r b a l) := H3.out.drewN
        refine (HVK.out 2 (by decide) _ HI4.out.2.1).mono ?_
        rintro e w4 ⟨rfl, rfl⟩
        go_wp2_with fail
        go_ret
        rw [HS.out]
        have ev : secondV x.f (cnt l 0) (cnt l 1) (cnt l 2) x.v = 2 := by
          unfold secondV
          rw [← HC.out.1, ← HC.out.2.1, ← HC.out.2.2]
          simp [Q0.out, Q1.out, Q2.out]
        have t := (HI4.out.setb (b' := cnt l (2))).setr (r' := x.r + 1)
        rw [HS.out] at HO
        have t1 := t.1
        have hc : cnt l (2) ≤ 10 := Nat.le_trans (cnt_le _ _) HL.out.2.1
        refine ⟨rfl, ⟨cnt l (2), RCells.node (x := secondK x l) ?_ HO.out (fun _ => ?_) hc⟩, t.2.2⟩
        · unfold secondK; rw [ev]; exact t1
        · unfold secondK; rw [ev]
  · have Q2 : Hid (¬ x.f < C2) := q2
    by_cases q1 : x.f < C1
    · have Q1 : Hid (x.f < C1) := q1
      by_cases q0 : x.f < C0
      · have Q0 : Hid (x.f < C0) := q0
        have ui : ¬ ((x.f : Nat) : Int) < ((C2 : Nat) : Int) := by omega
        have ud : decide (((x.f : Nat) : Int) < ((C2 : Nat) : Int)) = false := decide_eq_false (by omega)
        have ue : decide (x.f < C2) = false := decide_eq_false (by omega)
        have vi : ((x.f : Nat) : Int) < ((C1 : Nat) : Int) := by omega
        have vd : decide (((x.f : Nat) : Int) < ((C1 : Nat) : Int)) = true := decide_eq_true (by omega)
        have ve : decide (x.f < C1) = true := decide_eq_true (by omega)
        have ti : ((x.f : Nat) : Int) < ((C0 : Nat) : Int) := by omega
        have td : decide (((x.f : Nat) : Int) < ((C0 : Nat) : Int)) = true := decide_eq_true (by omega)
        have te : decide (x.f < C0) = true := decide_eq_true (by omega)
        clear q0 q1 q2
        go_enter Try.func16, Try.ntmps16
        go_wp2_with fail
        go_quiet ((go_at_call 14; exact Calls.quiet_of_same (K1.out _ (RNode.drewN H.out))))
        go_wp2_with fail
        obtain ⟨w1, hw1⟩ : ∃ w1, w1 = w.drewN nq := ⟨_, rfl⟩
        have H1 : Hid (RS w w1 g x.n x.f s x.v x.r b a l) := by rw [hw1]; exact H0.out.drewN
        change Code.wp _ _ _ _ (w.drewN nq)
        rw [← hw1]
        clear hw1
        have p10 := H1.out.1.c0
        have p11 := H1.out.1.c1
        have p13 := H1.out.1.c3
        have p14 := H1.out.1.c4
        have p15 := H1.out.1.c5
        have f13 := H1.out.1.fz 3
        have f14 := H1.out.1.fz 4
        have f15 := H1.out.1.fz 5
        clear c4 c0 c3 f3
        go_quiet ((go_at_call 31; exact Calls.quiet_of_same (HKC.out.2.2 _ (IntsNot.drewN H1.out.2.1))))
        go_wp2_with fail
        obtain ⟨w2, hw2⟩ : ∃ w2, w2 = w1.drewN nq := ⟨_, rfl⟩
        have H2 : Hid (RS w w2 g x.n x.f s x.v x.r b a l) := by rw [hw2]; exact H1.out.drewN
        change Code.wp _ _ _ _ (w1.drewN nq)
        rw [← hw2]
        clear hw2
        have p20 := H2.out.1.c0
        have p21 := H2.out.1.c1
        have p23 := H2.out.1.c3
        have p24 := H2.out.1.c4
        have p25 := H2.out.1.c5
        have f23 := H2.out.1.fz 3
        have f24 := H2.out.1.fz 4
        have f25 := H2.out.1.fz 5
        clear p10 p11 p13 p14 p15 f13 f14 f15
        go_quiet ((go_at_call 31; exact Calls.quiet_of_same (HKC.out.2.1 _ (IntsNot.drewN H2.out.2.1))))
        go_wp2_with fail
        obtain ⟨w3, hw3⟩ : ∃ w3, w3 = (w2.drewN nq).setCell ⟨g, 3, none⟩ (.int .i64 1) := ⟨_, rfl⟩
        have H3 : Hid (RS w w3 g x.n x.f s 1 x.r b a l) := by rw [hw3]; exact H2.out.drewN.setv
        change Code.wp _ _ _ _ ((w2.drewN nq).setCell ⟨g, 3, none⟩ (.int .i64 1))
        rw [← hw3]
        clear hw3
        have p30 := H3.out.1.c0
        have p31 := H3.out.1.c1
        have p33 := H3.out.1.c3
        have p34 := H3.out.1.c4
        have p35 := H3.out.1.c5
        have f33 := H3.out.1.fz 3
        have f34 := H3.out.1.fz 4
        have f35 := H3.out.1.fz 5
        clear p20 p21 p23 p24 p25 f23 f24 f25
        go_quiet ((go_at_call 31; exact Calls.quiet_of_same (HKC.out.1 _ (IntsNot.drewN H3.out.2.1))))
        go_wp2_with fail
        have HI4 : Hid (RS w ((w3.drewN nq).setCell ⟨g, 3, none⟩ (.int .i64 0)) g x.n x.f s 0 x.r b a l) := H3.out.drewN.setv
        refine (HVK.out 0 (by decide) _ HI4.out.2.1).mono ?_
        rintro e w4 ⟨rfl, rfl⟩
        go_wp2_with fail
        go_ret
        rw [HS.out]
        have ev : secondV x.f (cnt l 0) (cnt l 1) (cnt l 2) x.v = 0 := by
          unfold secondV
          rw [← HC.out.1, ← HC.out.2.1, ← HC.out.2.2]
          simp [Q0.out]
        have t := (HI4.out.setb (b' := cnt l (0))).setr (r' := x.r + 1)
        rw [HS.out] at HO
        have t1 := t.1
        have hc : cnt l (0) ≤ 10 := Nat.le_trans (cnt_le _ _) HL.out.2.1
        refine ⟨rfl, ⟨cnt l (0), RCells.node (x := secondK x l) ?_ HO.out (fun _ => ?_) hc⟩, t.2.2⟩
        · unfold secondK; rw [ev]; exact t1
        · unfold secondK; rw [ev]
      · have Q0 : Hid (¬ x.f < C0) := q0
        have ui : ¬ ((x.f : Nat) : Int) < ((C2 : Nat) : Int) := by omega
        have ud : decide (((x.f : Nat) : Int) < ((C2 : Nat) : Int)) = false := decide_eq_false (by omega)
        have ue : decide (x.f < C2) = false := decide_eq_false (by omega)
        have vi : ((x.f : Nat) : Int) < ((C1 : Nat) : Int) := by omega
        have vd : decide (((x.f : Nat) : Int) < ((C1 : Nat) : Int)) = true := decide_eq_true (by omega)
        have ve : decide (x.f < C1) = true := decide_eq_true (by omega)
        have ti : ¬ ((x.f : Nat) : Int) < ((C0 : Nat) : Int) := by omega
        have td : decide (((x.f : Nat) : Int) < ((C0 : Nat) : Int)) = false := decide_eq_false (by omega)
        have te : decide (x.f < C0) = false := decide_eq_false (by omega)
        clear q0 q1 q2
        go_enter Try.func16, Try.ntmps16
        go_wp2_with fail
        go_quiet ((go_at_call 14; exact Calls.quiet_of_same (K1.out _ (RNode.drewN H.out))))
        go_wp2_with fail
        obtain ⟨w1, hw1⟩ : ∃ w1, w1 = w.drewN nq := ⟨_, rfl⟩
        have H1 : Hid (RS w w1 g x.n x.f s x.v x.r b a l) := by rw [hw1]; exact H0.out.drewN
        change Code.wp _ _ _ _ (w.drewN nq)
        rw [← hw1]
        clear hw1
        have p10 := H1.out.1.c0
        have p11 := H1.out.1.c1
        have p13 := H1.out.1.c3
        have p14 := H1.out.1.c4
        have p15 := H1.out.1.c5
        have f13 := H1.out.1.fz 3
        have f14 := H1.out.1.fz 4
        have f15 := H1.out.1.fz 5
        clear c4 c0 c3 f3
        go_quiet ((go_at_call 31; exact Calls.quiet_of_same (HKC.out.2.2 _ (IntsNot.drewN H1.out.2.1))))
        go_wp2_with fail
        obtain ⟨w2, hw2⟩ : ∃ w2, w2 = w1.drewN nq := ⟨_, rfl⟩
        have H2 : Hid (RS w w2 g x.n x.f s x.v x.r b a l) := by rw [hw2]; exact H1.out.drewN
        change Code.wp _ _ _ _ (w1.drewN nq)
        rw [← hw2]
        clear hw2
        have p20 := H2.out.1.c0
        have p21 := H2.out.1.c1
        have p23 := H2.out.1.c3
        have p24 := H2.out.1.c4
        have p25 := H2.out.1.c5
        have f23 := H2.out.1.fz 3
        have f24 := H2.out.1.fz 4
        have f25 := H2.out.1.fz 5
        clear p10 p11 p13 p14 p15 f13 f14 f15
        go_quiet ((go_at_call 31; exact Calls.quiet_of_same (HKC.out.2.1 _ (IntsNot.drewN H2.out.2.1))))
        go_wp2_with fail
        obtain ⟨w3, hw3⟩ : ∃ w3, w3 = (w2.drewN nq).setCell ⟨g, 3, none⟩ (.int .i64 1) := ⟨_, rfl⟩
        have H3 : Hid (RS w w3 g x.n x.f s 1 x.r b a l) := by rw [hw3]; exact H2.out.drewN.setv
        change Code.wp _ _ _ _ ((w2.drewN nq).setCell ⟨g, 3, none⟩ (.int .i64 1))
        rw [← hw3]
        clear hw3
        have p30 := H3.out.1.c0
        have p31 := H3.out.1.c1
        have p33 := H3.out.1.c3
        have p34 := H3.out.1.c4
        have p35 := H3.out.1.c5
        have f33 := H3.out.1.fz 3
        have f34 := H3.out.1.fz 4
        have f35 := H3.out.1.fz 5
        clear p20 p21 p23 p24 p25 f23 f24 f25
        go_quiet ((go_at_call 31; exact Calls.quiet_of_same (HKC.out.1 _ (IntsNot.drewN H3.out.2.1))))
        go_wp2_with fail
        have HI4 : Hid (RS w (w3.drewN nq) g x.n x.f s 1 x.r b a l) := H3.out.drewN
        refine (HVK.out 1 (by decide) _ HI4.out.2.1).mono ?_
        rintro e w4 ⟨rfl, rfl⟩
        go_wp2_with fail
        go_ret
        rw [HS.out]
        have ev : secondV x.f (cnt l 0) (cnt l 1) (cnt l 2) x.v = 1 := by
          unfold secondV
          rw [← HC.out.1, ← HC.out.2.1, ← HC.out.2.2]
          simp [Q0.out, Q1.out]
        have t := (HI4.out.setb (b' := cnt l (1))).setr (r' := x.r + 1)
        rw [HS.out] at HO
        have t1 := t.1
        have hc : cnt l (1) ≤ 10 := Nat.le_trans (cnt_le _ _) HL.out.2.1
        refine ⟨rfl, ⟨cnt l (1), RCells.node (x := secondK x l) ?_ HO.out (fun _ => ?_) hc⟩, t.2.2⟩
        · unfold secondK; rw [ev]; exact t1
        · unfold secondK; rw [ev]
    · have Q1 : Hid (¬ x.f < C1) := q1
      by_cases q0 : x.f < C0
      · have Q0 : Hid (x.f < C0) := q0
        have ui : ¬ ((x.f : Nat) : Int) < ((C2 : Nat) : Int) := by omega
        have ud : decide (((x.f : Nat) : Int) < ((C2 : Nat) : Int)) = false := decide_eq_false (by omega)
        have ue : decide (x.f < C2) = false := decide_eq_false (by omega)
        have vi : ¬ ((x.f : Nat) : Int) < ((C1 : Nat) : Int) := by omega
        have vd : decide (((x.f : Nat) : Int) < ((C1 : Nat) : Int)) = false := decide_eq_false (by omega)
        have ve : decide (x.f < C1) = false := decide_eq_false (by omega)
        have ti : ((x.f : Nat) : Int) < ((C0 : Nat) : Int) := by omega
        have td : decide (((x.f : Nat) : Int) < ((C0 : Nat) : Int)) = true := decide_eq_true (by omega)
        have te : decide (x.f < C0) = true := decide_eq_true (by omega)
        clear q0 q1 q2
        go_enter Try.func16, Try.ntmps16
        go_wp2_with fail
        go_quiet ((go_at_call 14; exact Calls.quiet_of_same (K1.out _ (RNode.drewN H.out))))
        go_wp2_with fail
        obtain ⟨w1, hw1⟩ : ∃ w1, w1 = w.drewN nq := ⟨_, rfl⟩
        have H1 : Hid (RS w w1 g x.n x.f s x.v x.r b a l) := by rw [hw1]; exact H0.out.drewN
        change Code.wp _ _ _ _ (w.drewN nq)
        rw [← hw1]
        clear hw1
        have p10 := H1.out.1.c0
        have p11 := H1.out.1.c1
        have p13 := H1.out.1.c3
        have p14 := H1.out.1.c4
        have p15 := H1.out.1.c5
        have f13 := H1.out.1.fz 3
        have f14 := H1.out.1.fz 4
        have f15 := H1.out.1.fz 5
        clear c4 c0 c3 f3
        go_quiet ((go_at_call 31; exact Calls.quiet_of_same (HKC.out.2.2 _ (IntsNot.drewN H1.out.2.1))))
        go_wp2_with fail
        obtain ⟨w2, hw2⟩ : ∃ w2, w2 = w1.drewN nq := ⟨_, rfl⟩
        have H2 : Hid (RS w w2 g x.n x.f s x.v x.r b a l) := by rw [hw2]; exact H1.out.drewN
        change Code.wp _ _ _ _ (w1.drewN nq)
        rw [← hw2]
        clear hw2
        have p20 := H2.out.1.c0
        have p21 := H2.out.1.c1
        have p23 := H2.out.1.c3
        have p24 := H2.out.1.c4
        have p25 := H2.out.1.c5
        have f23 := H2.out.1.fz 3
        have f24 := H2.out.1.fz 4
        have f25 := H2.out.1.fz 5
        clear p10 p11 p13 p14 p15 f13 f14 f15
        go_quiet ((go_at_call 31; exact Calls.quiet_of_same (HKC.out.2.1 _ (IntsNot.drewN H2.out.2.1))))
        go_wp2_with fail
        obtain ⟨w3, hw3⟩ : ∃ w3, w3 = w2.drewN nq := ⟨_, rfl⟩
        have H3 : Hid (RS w w3 g x.n x.f s x.v x.r b a l) := by rw [hw3]; exact H2.out.drewN
        change Code.wp _ _ _ _ (w2.drewN nq)
        rw [← hw3]
        clear hw3
        have p30 := H3.out.1.c0
        have p31 := H3.out.1.c1
        have p33 := H3.out.1.c3
        have p34 := H3.out.1.c4
        have p35 := H3.out.1.c5
        have f33 := H3.out.1.fz 3
        have f34 := H3.out.1.fz 4
        have f35 := H3.out.1.fz 5
        clear p20 p21 p23 p24 p25 f23 f24 f25
        go_quiet ((go_at_call 31; exact Calls.quiet_of_same (HKC.out.1 _ (IntsNot.drewN H3.out.2.1))))
        go_wp2_with fail
        have HI4 : Hid (RS w ((w3.drewN nq).setCell ⟨g, 3, none⟩ (.int .i64 0)) g x.n x.f s 0 x.r b a l) := H3.out.drewN.setv
        refine (HVK.out 0 (by decide) _ HI4.out.2.1).mono ?_
        rintro e w4 ⟨rfl, rfl⟩
        go_wp2_with fail
        go_ret
        rw [HS.out]
        have ev : secondV x.f (cnt l 0) (cnt l 1) (cnt l 2) x.v = 0 := by
          unfold secondV
          rw [← HC.out.1, ← HC.out.2.1, ← HC.out.2.2]
          simp [Q0.out]
        have t := (HI4.out.setb (b' := cnt l (0))).setr (r' := x.r + 1)
        rw [HS.out] at HO
        have t1 := t.1
        have hc : cnt l (0) ≤ 10 := Nat.le_trans (cnt_le _ _) HL.out.2.1
        refine ⟨rfl, ⟨cnt l (0), RCells.node (x := secondK x l) ?_ HO.out (fun _ => ?_) hc⟩, t.2.2⟩
        · unfold secondK; rw [ev]; exact t1
        · unfold secondK; rw [ev]
      · have Q0 : Hid (¬ x.f < C0) := q0
        have ui : ¬ ((x.f : Nat) : Int) < ((C2 : Nat) : Int) := by omega
        have ud : decide (((x.f : Nat) : Int) < ((C2 : Nat) : Int)) = false := decide_eq_false (by omega)
        have ue : decide (x.f < C2) = false := decide_eq_false (by omega)
        have vi : ¬ ((x.f : Nat) : Int) < ((C1 : Nat) : Int) := by omega
        have vd : decide (((x.f : Nat) : Int) < ((C1 : Nat) : Int)) = false := decide_eq_false (by omega)
        have ve : decide (x.f < C1) = false := decide_eq_false (by omega)
        have ti : ¬ ((x.f : Nat) : Int) < ((C0 : Nat) : Int) := by omega
        have td : decide (((x.f : Nat) : Int) < ((C0 : Nat) : Int)) = false := decide_eq_false (by omega)
        have te : decide (x.f < C0) = false := decide_eq_false (by omega)
        clear q0 q1 q2
        go_enter Try.func16, Try.ntmps16
        go_wp2_with fail
        go_quiet ((go_at_call 14; exact Calls.quiet_of_same (K1.out _ (RNode.drewN H.out))))
        go_wp2_with fail
        obtain ⟨w1, hw1⟩ : ∃ w1, w1 = w.drewN nq := ⟨_, rfl⟩
        have H1 : Hid (RS w w1 g x.n x.f s x.v x.r b a l) := by rw [hw1]; exact H0.out.drewN
        change Code.wp _ _ _ _ (w.drewN nq)
        rw [← hw1]
        clear hw1
        have p10 := H1.out.1.c0
        have p11 := H1.out.1.c1
        have p13 := H1.out.1.c3
        have p14 := H1.out.1.c4
        have p15 := H1.out.1.c5
        have f13 := H1.out.1.fz 3
        have f14 := H1.out.1.fz 4
        have f15 := H1.out.1.fz 5
        clear c4 c0 c3 f3
        go_quiet ((go_at_call 31; exact Calls.quiet_of_same (HKC.out.2.2 _ (IntsNot.drewN H1.out.2.1))))
        go_wp2_with fail
        obtain ⟨w2, hw2⟩ : ∃ w2, w2 = w1.drewN nq := ⟨_, rfl⟩
        have H2 : Hid (RS w w2 g x.n x.f s x.v x.r b a l) := by rw [hw2]; exact H1.out.drewN
        change Code.wp _ _ _ _ (w1.drewN nq)
        rw [← hw2]
        clear hw2
        have p20 := H2.out.1.c0
        have p21 := H2.out.1.c1
        have p23 := H2.out.1.c3
        have p24 := H2.out.1.c4
        have p25 := H2.out.1.c5
        have f23 := H2.out.1.fz 3
        have f24 := H2.out.1.fz 4
        have f25 := H2.out.1.fz 5
        clear p10 p11 p13 p14 p15 f13 f14 f15
        go_quiet ((go_at_call 31; exact Calls.quiet_of_same (HKC.out.2.1 _ (IntsNot.drewN H2.out.2.1))))
        go_wp2_with fail
        obtain ⟨w3, hw3⟩ : ∃ w3, w3 = w2.drewN nq := ⟨_, rfl⟩
        have H3 : Hid (RS w w3 g x.n x.f s x.v x.r b a l) := by rw [hw3]; exact H2.out.drewN
        change Code.wp _ _ _ _ (w2.drewN nq)
        rw [← hw3]
        clear hw3
        have p30 := H3.out.1.c0
        have p31 := H3.out.1.c1
        have p33 := H3.out.1.c3
        have p34 := H3.out.1.c4
        have p35 := H3.out.1.c5
        have f33 := H3.out.1.fz 3
        have f34 := H3.out.1.fz 4
        have f35 := H3.out.1.fz 5
        clear p20 p21 p23 p24 p25 f23 f24 f25
        go_quiet ((go_at_call 31; exact Calls.quiet_of_same (HKC.out.1 _ (IntsNot.drewN H3.out.2.1))))
        go_wp2_with fail
        have HI4 : Hid (RS w (w3.drewN nq) g x.n x.f s x.v x.r b a l) := H3.out.drewN
        refine (HVK.out x.v HV2.out _ HI4.out.2.1).mono ?_
        rintro e w4 ⟨rfl, rfl⟩
        go_wp2_with fail
        go_ret
        rw [HS.out]
        have ev : secondV x.f (cnt l 0) (cnt l 1) (cnt l 2) x.v = x.v := by
          unfold secondV
          rw [← HC.out.1, ← HC.out.2.1, ← HC.out.2.2]
          simp [Q0.out, Q1.out, Q2.out]
        have t := (HI4.out.setb (b' := cnt l (x.v))).setr (r' := x.r + 1)
        rw [HS.out] at HO
        have t1 := t.1
        have hc : cnt l (x.v) ≤ 10 := Nat.le_trans (cnt_le _ _) HL.out.2.1
        refine ⟨rfl, ⟨cnt l (x.v), RCells.node (x := secondK x l) ?_ HO.out (fun _ => ?_) hc⟩, t.2.2⟩
        · unfold secondK; rw [ev]; exact t1
        · unfold secondK; rw [ev]
set_option maxRecDepth 100000 in
set_option maxHeartbeats 8000000 in
theorem rhear_third (g : Nat) (x : Kn) (s b : Nat) (a : Option Addr) (l : List Int) (n cap : Nat) (hn : n = l.length) (w : World) (h : RNode w g x s b) (hr : x.r < 3 * (x.f + 1)) (hl : l.length = x.n) (hI : IntsNot w g a l) (hM : x.r % 3 = 2) :
    Calls Try.prog 16 #[.pointer (some ⟨g, 0, none⟩), .slice a n cap] w fun e w' => e = .returned (.int .i64 0) ∧ (∃ b', RNode w' g (stepK x l) s b') ∧ But g (From w.heap.size) w w' := by
  have H : Hid (RNode w g x s b) := h
  have HR : Hid (x.r < 3 * (x.f + 1)) := hr
  have HO : Hid ((stepK x l).Ok) := h.ok.step l hr
  have H0 : Hid (RS w w g x.n x.f s x.v x.r b a l) := ⟨h.cells, hI, But.refl _ _ _⟩
  have c4 := h.c4
  have c0 := h.c0
  obtain ⟨R, hR⟩ : ∃ R, R = 3 * (x.f + 1) := ⟨_, rfl⟩
  have K1 : Hid (∀ w, RNode w g x s b → Calls Try.prog 14 #[.pointer (some ⟨g, 0, none⟩)] w fun e w' => e = .returned (.int .i64 (R : Nat)) ∧ w' = w) := by rw [hR]; exact rrounds_in g x s b
  have hne : ¬ ((x.r : Int) = (R : Int)) := by omega
  have hd : decide ((x.r : Int) = (R : Int)) = false := decide_eq_false hne
  have hd2 : ((x.r : Int) == (R : Int)) = false := by simpa using hne
  have hn' : (n : Int) = (x.n : Int) := by omega
  have l10 : l.length ≤ 10 := by have := h.ok.n10; omega
  have KC : Hid (∀ k, k ≤ 2 → ∀ w, IntsNot w g a l → Calls Try.prog 31 #[.slice a n cap, .int .i64 (k : Nat)] w fun e w' => e = .returned (.int .i64 (cnt l k : Nat)) ∧ w' = w) := fun k hk w hI => rcount_any a l n cap k hk hn l10 w hI.1
  have r12 : (x.r : Int) ≤ 100 := by have := h.ok.hf; have := h.ok.n10; omega
  have m3 : ((x.r : Nat) : Int).tmod 3 = 2 := by have : ((x.r : Nat) : Int).tmod 3 = ((x.r % 3 : Nat) : Int) := rfl; rw [this, hM]; rfl
  have e1 : (x.f : Int) ≤ 10 := by have := h.ok.hf; have := h.ok.n10; omega
  have e2 : (x.n : Int) ≤ 10 := by have := h.ok.n10; omega
  obtain ⟨D, hD⟩ : ∃ D, D = x.n - x.f := ⟨_, rfl⟩
  have e3 : ((x.n : Int) - (x.f : Int)) = (D : Int) := by have := h.ok.hf; omega
  have HD : Hid _ := hD
  have HM : Hid (x.r % 3 = 2) := hM
  have HL : Hid (l.length = x.n ∧ l.length ≤ 10 ∧ n = l.length) := ⟨hl, l10, hn⟩
  have b0 : ((cnt l 0 : Nat) : Int) ≤ 10 := by have := cnt_le l 0; omega
  have b1 : ((cnt l 1 : Nat) : Int) ≤ 10 := by have := cnt_le l 1; omega
  have b2 : ((cnt l 2 : Nat) : Int) ≤ 10 := by have := cnt_le l 2; omega
  obtain ⟨C0, hC0⟩ : ∃ C0, C0 = cnt l 0 := ⟨_, rfl⟩
  obtain ⟨C1, hC1⟩ : ∃ C1, C1 = cnt l 1 := ⟨_, rfl⟩
  obtain ⟨C2, hC2⟩ : ∃ C2, C2 = cnt l 2 := ⟨_, rfl⟩
  have KC0 := KC.out 0 (by decide)
  have KC1 := KC.out 1 (by decide)
  have KC2 := KC.out 2 (by decide)
  rw [← hC0] at b0 KC0
  rw [← hC1] at b1 KC1
  rw [← hC2] at b2 KC2
  have HKC : Hid (_ ∧ _ ∧ _) := ⟨KC0, KC1, KC2⟩
  have HC : Hid (C0 = cnt l 0 ∧ C1 = cnt l 1 ∧ C2 = cnt l 2) := ⟨hC0, hC1, hC2⟩
  have hk : x.r / 3 < l.length := by have := h.ok.hf; omega
  have d3 : ((x.r : Nat) : Int).tdiv 3 = ((x.r / 3 : Nat) : Int) := rfl
  obtain ⟨k, hkk⟩ : ∃ k, k = x.r / 3 := ⟨_, rfl⟩
  rw [← hkk] at d3 hk
  obtain ⟨pp, oo, ha, ck, pl⟩ := hI.1.get (k := k) hk
  obtain ⟨y, hy⟩ : ∃ y, y = (l[k]'hk) := ⟨_, rfl⟩
  rw [← hy] at ck
  have HG : Hid (l[k]? = some y) := by rw [hy]; exact List.getElem?_eq_getElem hk
  have HY : Hid (l.getD (x.r / 3) 2 = y) := by rw [← hkk, hy, List.getD_eq_getElem?_getD, List.getElem?_eq_getElem hk]; rfl
  have pg : pp ≠ g := hI.2 pp oo ha
  have pg' : g ≠ pp := fun c => pg c.symm
  subst ha
  have hk0 : (0 : Int) ≤ (k : Int) := by omega
  have hk1 : (k : Int) < (n : Int) := by omega
  have k100 : (k : Int) ≤ 100 := by omega
  have hbk : (b : Int) ≤ 10 := by have := h.b10; omega
  clear hkk hy hk pl
  clear h hr hR hne hl l10 hD hM hI hn KC KC0 KC1 KC2 hC0 hC1 hC2 c4 c0
  have c4 := H0.out.1.c4
  have c0 := H0.out.1.c0
  have c3 := H0.out.1.c3
  have f3 := H0.out.1.fz 3
  have c1 := H0.out.1.c1
  have c5 := H0.out.1.c5
  have f4 := H0.out.1.fz 4
  have HS : Hid (stepK x l = thirdK x l) := (if_neg (by rw [HM.out]; decide)).trans (if_neg (by rw [HM.out]; decide))
  have HE : Hid (x.m = firmB x.n x.f x.v b) := (show RNode w g x s b from H.out).rel HM.out
  by_cases q2 : x.v = 2
  · have Q2 : Hid (x.v = 2) := q2
    have g0 : ((x.v : Nat) : Int) = 2 := by omega
    have g1 : (((x.v : Nat) : Int) == 2) = true := by simpa using g0
    clear q2
    have hyc : y = 0 ∨ y = 1 ∨ (¬ y = 0 ∧ ¬ y = 1) := by omega
    rcases hyc with rfl | rfl | ⟨y0, y1⟩
    · go_enter Try.func16, Try.ntmps16
      go_wp2_with fail
      go_quiet ((go_at_call 14; exact Calls.quiet_of_same (K1.out _ (RNode.drewN H.out))))
      go_wp2_with fail
      obtain ⟨w1, hw1⟩ : ∃ w1, w1 = w.drewN nq := ⟨_, rfl⟩
      have H1 : Hid (RS w w1 g x.n x.f s x.v x.r b (some ⟨pp, oo, none⟩) l) := by rw [hw1]; exact H0.out.drewN
      change Code.wp _ _ _ _ (w.drewN nq)
      rw [← hw1]
      clear hw1
      have p10 := H1.out.1.c0
      have p11 := H1.out.1.c1
      have p13 := H1.out.1.c3
      have p14 := H1.out.1.c4
      have p15 := H1.out.1.c5
      have f13 := H1.out.1.fz 3
      have f14 := H1.out.1.fz 4
      have f15 := H1.out.1.fz 5
      clear c3
      have W0 : Hid (RS w w1 g x.n x.f s x.v x.r b (some ⟨pp, oo, none⟩) l) := H1.out
      obtain ⟨_, _, ha1, ck1, _⟩ := W0.out.2.1.1 k _ HG.out
      cases ha1
      clear ck
      go_quiet (fail)
      go_wp2_with fail
      go_ret
      rw [HS.out]
      rw [HS.out] at HO
      have ev : thirdV x.m x.v (hw (l.getD (x.r / 3) 2)) = 0 := by
        rw [HY.out, HE.out]
        unfold thirdV firmB hw
        rw [← HD.out]
        have a2 := Q2.out; rw [a2]; simp
      have t := RS.setr (r' := x.r + 1) ((RS.drewN (k := nq) W0.out).setv (v' := 0))
      refine ⟨rfl, ⟨b, RCells.node (x := thirdK x l) ?_ HO.out (fun q => by have q' : (x.r + 1) % 3 = 2 := q; have := HM.out; omega) H.out.b10⟩, t.2.2⟩
      unfold thirdK; rw [ev]; exact t.1
    · go_enter Try.func16, Try.ntmps16
      go_wp2_with fail
      go_quiet ((go_at_call 14; exact Calls.quiet_of_same (K1.out _ (RNode.drewN H.out))))
      go_wp2_with fail
      obtain ⟨w1, hw1⟩ : ∃ w1, w1 = w.drewN nq := ⟨_, rfl⟩
      have H1 : Hid (RS w w1 g x.n x.f s x.v x.r b (some ⟨pp, oo, none⟩) l) := by rw [hw1]; exact H0.out.drewN
      change Code.wp _ _ _ _ (w.drewN nq)
      rw [← hw1]
      clear hw1
      have p10 := H1.out.1.c0
      have p11 := H1.out.1.c1
      have p13 := H1.out.1.c3
      have p14 := H1.out.1.c4
      have p15 := H1.out.1.c5
      have f13 := H1.out.1.fz 3
      have f14 := H1.out.1.fz 4
      have f15 := H1.out.1.fz 5
      clear c3
      have W0 : Hid (RS w w1 g x.n x.f s x.v x.r b (some ⟨pp, oo, none⟩) l) := H1.out
      obtain ⟨_, _, ha1, ck1, _⟩ := W0.out.2.1.1 k _ HG.out
      cases ha1
      clear ck
      go_quiet (fail)
      go_wp2_with fail
      go_ret
      rw [HS.out]
      rw [HS.out] at HO
      have ev : thirdV x.m x.v (hw (l.getD (x.r / 3) 2)) = 1 := by
        rw [HY.out, HE.out]
        unfold thirdV firmB hw
        rw [← HD.out]
        have a2 := Q2.out; rw [a2]; simp
      have t := RS.setr (r' := x.r + 1) ((RS.drewN (k := nq) W0.out).setv (v' := 1))
      refine ⟨rfl, ⟨b, RCells.node (x := thirdK x l) ?_ HO.out (fun q => by have q' : (x.r + 1) % 3 = 2 := q; have := HM.out; omega) H.out.b10⟩, t.2.2⟩
      unfold thirdK; rw [ev]; exact t.1
    · have z0 : (y != 0) = true := by simpa using y0
      have z1 : (y != 1) = true := by simpa using y1
      go_enter Try.func16, Try.ntmps16
      go_wp2_with fail
      go_quiet ((go_at_call 14; exact Calls.quiet_of_same (K1.out _ (RNode.drewN H.out))))
      go_wp2_with fail
      obtain ⟨w1, hw1⟩ : ∃ w1, w1 = w.drewN nq := ⟨_, rfl⟩
      have H1 : Hid (RS w w1 g x.n x.f s x.v x.r b (some ⟨pp, oo, none⟩) l) := by rw [hw1]; exact H0.out.drewN
      change Code.wp _ _ _ _ (w.drewN nq)
      rw [← hw1]
      clear hw1
      have p10 := H1.out.1.c0
      have p11 := H1.out.1.c1
      have p13 := H1.out.1.c3
      have p14 := H1.out.1.c4
      have p15 := H1.out.1.c5
      have f13 := H1.out.1.fz 3
      have f14 := H1.out.1.fz 4
      have f15 := H1.out.1.fz 5
      clear c3
      have W0 : Hid (RS w w1 g x.n x.f s x.v x.r b (some ⟨pp, oo, none⟩) l) := H1.out
      obtain ⟨_, _, ha1, ck1, _⟩ := W0.out.2.1.1 k _ HG.out
      cases ha1
      clear ck
      go_quiet (fail)
      go_wp2_with fail
      go_ret
      rw [HS.out]
      rw [HS.out] at HO
      have ev : thirdV x.m x.v (hw (l.getD (x.r / 3) 2)) = 1 := by
        rw [HY.out, HE.out]
        unfold thirdV firmB hw
        rw [← HD.out]
        have a2 := Q2.out; rw [a2]; simp [y0, y1]
      have t := RS.setr (r' := x.r + 1) (ysett (v' := 1) (RS.drewN (k := nq) W0.out) y)
      refine ⟨rfl, ⟨b, RCells.node (x := thirdK x l) ?_ HO.out (fun q => by have q' : (x.r + 1) % 3 = 2 := q; have := HM.out; omega) H.out.b10⟩, t.2.2⟩
      unfold thirdK; rw [ev]; exact t.1
  · have Q2 : Hid (¬ x.v = 2) := q2
    have g0 : ¬ ((x.v : Nat) : Int) = 2 := by omega
    have g1 : (((x.v : Nat) : Int) == 2) = false := by simpa using g0
    clear q2
    by_cases q3 : b < D
    · have q4 : ¬ D ≤ b := by omega
      have Q3 : Hid (¬ D ≤ b) := q4
      clear q4
      have ui : ((b : Nat) : Int) < ((D : Nat) : Int) := by omega
      have ud : decide (((b : Nat) : Int) < ((D : Nat) : Int)) = true := decide_eq_true (by omega)
      have ue : decide (b < D) = true := decide_eq_true (by omega)
      clear q3
      have hyc : y = 0 ∨ y = 1 ∨ (¬ y = 0 ∧ ¬ y = 1) := by omega
      rcases hyc with rfl | rfl | ⟨y0, y1⟩
      · go_enter Try.func16, Try.ntmps16
        go_wp2_with fail
        go_quiet ((go_at_call 14; exact Calls.quiet_of_same (K1.out _ (RNode.drewN H.out))))
        go_wp2_with fail
        obtain ⟨w1, hw1⟩ : ∃ w1, w1 = w.drewN nq := ⟨_, rfl⟩
        have H1 : Hid (RS w w1 g x.n x.f s x.v x.r b (some ⟨pp, oo, none⟩) l) := by rw [hw1]; exact H0.out.drewN
        change Code.wp _ _ _ _ (w.drewN nq)
        rw [← hw1]
        clear hw1
        have p10 := H1.out.1.c0
        have p11 := H1.out.1.c1
        have p13 := H1.out.1.c3
        have p14 := H1.out.1.c4
        have p15 := H1.out.1.c5
        have f13 := H1.out.1.fz 3
        have f14 := H1.out.1.fz 4
        have f15 := H1.out.1.fz 5
        clear c3
        have W0 : Hid (RS w w1 g x.n x.f s x.v x.r b (some ⟨pp, oo, none⟩) l) := H1.out
        obtain ⟨_, _, ha1, ck1, _⟩ := W0.out.2.1.1 k _ HG.out
        cases ha1
        clear ck
        go_quiet (fail)
        go_wp2_with fail
        go_ret
        rw [HS.out]
        rw [HS.out] at HO
        have ev : thirdV x.m x.v (hw (l.getD (x.r / 3) 2)) = 0 := by
          rw [HY.out, HE.out]
          unfold thirdV firmB hw
          rw [← HD.out]
          have a2 := Q2.out; have a3 := Q3.out; simp [a3]
        have t := RS.setr (r' := x.r + 1) ((RS.drewN (k := nq) W0.out).setv (v' := 0))
        refine ⟨rfl, ⟨b, RCells.node (x := thirdK x l) ?_ HO.out (fun q => by have q' : (x.r + 1) % 3 = 2 := q; have := HM.out; omega) H.out.b10⟩, t.2.2⟩
        unfold thirdK; rw [ev]; exact t.1
      · go_enter Try.func16, Try.ntmps16
        go_wp2_with fail
        go_quiet ((go_at_call 14; exact Calls.quiet_of_same (K1.out _ (RNode.drewN H.out))))
        go_wp2_with fail
        obtain ⟨w1, hw1⟩ : ∃ w1, w1 = w.drewN nq := ⟨_, rfl⟩
        have H1 : Hid (RS w w1 g x.n x.f s x.v x.r b (some ⟨pp, oo, none⟩) l) := by rw [hw1]; exact H0.out.drewN
        change Code.wp _ _ _ _ (w.drewN nq)
        rw [← hw1]
        clear hw1
        have p10 := H1.out.1.c0
        have p11 := H1.out.1.c1
        have p13 := H1.out.1.c3
        have p14 := H1.out.1.c4
        have p15 := H1.out.1.c5
        have f13 := H1.out.1.fz 3
        have f14 := H1.out.1.fz 4
        have f15 := H1.out.1.fz 5
        clear c3
        have W0 : Hid (RS w w1 g x.n x.f s x.v x.r b (some ⟨pp, oo, none⟩) l) := H1.out
        obtain ⟨_, _, ha1, ck1, _⟩ := W0.out.2.1.1 k _ HG.out
        cases ha1
        clear ck
        go_quiet (fail)
        go_wp2_with fail
        go_ret
        rw [HS.out]
        rw [HS.out] at HO
        have ev : thirdV x.m x.v (hw (l.getD (x.r / 3) 2)) = 1 := by
          rw [HY.out, HE.out]
          unfold thirdV firmB hw
          rw [← HD.out]
          have a2 := Q2.out; have a3 := Q3.out; simp [a3]
        have t := RS.setr (r' := x.r + 1) ((RS.drewN (k := nq) W0.out).setv (v' := 1))
        refine ⟨rfl, ⟨b, RCells.node (x := thirdK x l) ?_ HO.out (fun q => by have q' : (x.r + 1) % 3 = 2 := q; have := HM.out; omega) H.out.b10⟩, t.2.2⟩
        unfold thirdK; rw [ev]; exact t.1
      · have z0 : (y != 0) = true := by simpa using y0
        have z1 : (y != 1) = true := by simpa using y1
        go_enter Try.func16, Try.ntmps16
        go_wp2_with fail
        go_quiet ((go_at_call 14; exact Calls.quiet_of_same (K1.out _ (RNode.drewN H.out))))
        go_wp2_with fail
        obtain ⟨w1, hw1⟩ : ∃ w1, w1 = w.drewN nq := ⟨_, rfl⟩
        have H1 : Hid (RS w w1 g x.n x.f s x.v x.r b (some ⟨pp, oo, none⟩) l) := by rw [hw1]; exact H0.out.drewN
        change Code.wp _ _ _ _ (w.drewN nq)
        rw [← hw1]
        clear hw1
        have p10 := H1.out.1.c0
        have p11 := H1.out.1.c1
        have p13 := H1.out.1.c3
        have p14 := H1.out.1.c4
        have p15 := H1.out.1.c5
        have f13 := H1.out.1.fz 3
        have f14 := H1.out.1.fz 4
        have f15 := H1.out.1.fz 5
        clear c3
        have W0 : Hid (RS w w1 g x.n x.f s x.v x.r b (some ⟨pp, oo, none⟩) l) := H1.out
        obtain ⟨_, _, ha1, ck1, _⟩ := W0.out.2.1.1 k _ HG.out
        cases ha1
        clear ck
        go_quiet (fail)
        go_wp2_with fail
        go_ret
        rw [HS.out]
        rw [HS.out] at HO
        have ev : thirdV x.m x.v (hw (l.getD (x.r / 3) 2)) = 1 := by
          rw [HY.out, HE.out]
          unfold thirdV firmB hw
          rw [← HD.out]
          have a2 := Q2.out; have a3 := Q3.out; simp [a3, y0, y1]
        have t := RS.setr (r' := x.r + 1) (ysett (v' := 1) (RS.drewN (k := nq) W0.out) y)
        refine ⟨rfl, ⟨b, RCells.node (x := thirdK x l) ?_ HO.out (fun q => by have q' : (x.r + 1) % 3 = 2 := q; have := HM.out; omega) H.out.b10⟩, t.2.2⟩
        unfold thirdK; rw [ev]; exact t.1
    · have q4 : D ≤ b := by omega
      have Q3 : Hid (D ≤ b) := q4
      clear q4
      have ui : ¬ ((b : Nat) : Int) < ((D : Nat) : Int) := by omega
      have ud : decide (((b : Nat) : Int) < ((D : Nat) : Int)) = false := decide_eq_false (by omega)
      have ue : decide (b < D) = false := decide_eq_false (by omega)
      clear q3
      go_enter Try.func16, Try.ntmps16
      go_wp2_with fail
      go_quiet ((go_at_call 14; exact Calls.quiet_of_same (K1.out _ (RNode.drewN H.out))))
      go_wp2_with fail
      obtain ⟨w1, hw1⟩ : ∃ w1, w1 = w.drewN nq := ⟨_, rfl⟩
      have H1 : Hid (RS w w1 g x.n x.f s x.v x.r b (some ⟨pp, oo, none⟩) l) := by rw [hw1]; exact H0.out.drewN
      change Code.wp _ _ _ _ (w.drewN nq)
      rw [← hw1]
      clear hw1
      have p10 := H1.out.1.c0
      have p11 := H1.out.1.c1
      have p13 := H1.out.1.c3
      have p14 := H1.out.1.c4
      have p15 := H1.out.1.c5
      have f13 := H1.out.1.fz 3
      have f14 := H1.out.1.fz 4
      have f15 := H1.out.1.fz 5
      have W0 : Hid (RS w w1 g x.n x.f s x.v x.r b (some ⟨pp, oo, none⟩) l) := H1.out
      go_quiet (fail)
      go_wp2_with fail
      go_ret
      rw [HS.out]
      rw [HS.out] at HO
      have ev : thirdV x.m x.v (hw (l.getD (x.r / 3) 2)) = x.v := by
        rw [HY.out, HE.out]
        unfold thirdV firmB hw
        rw [← HD.out]
        have a2 := Q2.out; have a3 := Q3.out; simp [a2, a3]
      have t := RS.setr (r' := x.r + 1) (RS.drewN (k := nq) W0.out)
      refine ⟨rfl, ⟨b, RCells.node (x := thirdK x l) ?_ HO.out (fun q => by have q' : (x.r + 1) % 3 = 2 := q; have := HM.out; omega) H.out.b10⟩, t.2.2⟩
      unfold thirdK; rw [ev]; exact t.1
theorem rhear_ok (g : Nat) (x : Kn) (s b : Nat) (a : Option Addr) (l : List Int) (n cap : Nat) (hn : n = l.length) (w : World) (h : RNode w g x s b) (hr : x.r < 3 * (x.f + 1)) (hl : l.length = x.n) (hI : IntsNot w g a l) :
    Calls Try.prog 16 #[.pointer (some ⟨g, 0, none⟩), .slice a n cap] w fun e w' => e = .returned (.int .i64 0) ∧ (∃ b', RNode w' g (stepK x l) s b') ∧ But g (From w.heap.size) w w' := by
  have hc : x.r % 3 = 0 ∨ x.r % 3 = 1 ∨ x.r % 3 = 2 := by omega
  rcases hc with hc | hc | hc
  · exact rhear_first g x s b a l n cap hn w h hr hl hI hc
  · exact rhear_second g x s b a l n cap hn w h hr hl hI hc
  · exact rhear_third g x s b a l n cap hn w h hr hl hI hc
end Go.Proofs.Ytcahfkfafdoilaa
