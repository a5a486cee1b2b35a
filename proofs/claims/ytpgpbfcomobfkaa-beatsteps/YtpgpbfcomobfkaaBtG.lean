/- Package beat: the law's small case, and what a nil watch answers. -/
import Derived.Test.YtpgpbfcomobfkaaBtF
namespace Go.Proofs.Ytpgpbfcomobfkaa
open Go Go.RowKit Go.Lib

theorem below_but {B g : Nat} {a w w' : World} (h : Below B a w) (hg : B ≤ g) (hB : B ≤ w.heap.size) (hb : But g (From w.heap.size) w w') : Below B a w' :=
  ⟨hb.os.trans h.os, hb.tape.trans h.tape, hb.output.trans h.output, Nat.le_trans h.size hb.size, fun k hk => (hb.block k (not_from (Nat.lt_of_lt_of_le hk hB)) (by omega)).trans (h.block k hk)⟩
theorem IntsFrom.but {w w' : World} {B g : Nat} {a : Option Addr} {l : List Int} (h : IntsFrom w B a l) (hg : g < B) (hb : But g (From w.heap.size) w w') : IntsFrom w' B a l := fun j s hj => by
  obtain ⟨p, o, h1, h2, h3, h4⟩ := h j s hj
  exact ⟨p, o, h1, (hb.cell (p := ⟨p, o + j, none⟩) (not_from h4) (fun (c : p = g) => by omega)).trans h2, h3, Nat.lt_of_lt_of_le h4 hb.size⟩
theorem ints_new2 (W : World) (x y : Int) (t : TypeId) : IntsAt (W.alloc (.cells #[.int .i64 x, .int .i64 y] t)) (some ⟨W.heap.size, 0, none⟩) [x, y] := by
  intro j n hj
  match j, hj with
  | 0, hj => simp at hj; subst hj; exact ⟨_, 0, rfl, by simp [go_sem], by simp⟩
  | 1, hj => simp at hj; subst hj; exact ⟨_, 0, rfl, by simp [go_sem], by simp⟩
  | j + 2, hj => simp at hj
theorem ints_new1 (W : World) (x : Int) (t : TypeId) : IntsAt (W.alloc (.cells #[.int .i64 x] t)) (some ⟨W.heap.size, 0, none⟩) [x] := by
  intro j n hj
  match j, hj with
  | 0, hj => simp at hj; subst hj; exact ⟨_, 0, rfl, by simp [go_sem], by simp⟩
  | j + 1, hj => simp at hj
set_option maxHeartbeats 1000000 in
theorem five_any (w : World) : Calls Try.prog 11 #[] w fun e w' => e = .returned (.bool true) ∧ Below w.heap.size w w' := by
  have x0 : ∃ x0, x0 = newW 3 1 0 := ⟨_, rfl⟩
  obtain ⟨x0, hx0⟩ := x0
  obtain ⟨x1, hx1⟩ : ∃ x1, x1 = checkW x0 4 := ⟨_, rfl⟩
  obtain ⟨x2, hx2⟩ : ∃ x2, x2 = checkW x1 5 := ⟨_, rfl⟩
  obtain ⟨x3, hx3⟩ : ∃ x3, x3 = heardW x2 2 6 := ⟨_, rfl⟩
  have l1 : lateL (atW x0 4) = [] := by rw [hx0]; rfl
  have l2 : lateL (atW x1 5) = [2, 3] := by rw [hx1, hx0]; rfl
  have s2 : x2.s 2 = true := by rw [hx2, hx1, hx0]; rfl
  have t3 : x3.t 2 = 8 := by rw [hx3, hx2, hx1, hx0]; rfl
  have l3 : silL x3 = [3] := by rw [hx3, hx2, hx1, hx0]; rfl
  have K1 : Hid (∀ w', Calls Try.prog 9 #[.int .i64 3, .int .i64 1, .int .i64 0] w' fun e w'' => e = .returned (.tuple #[.pointer (some ⟨w'.heap.size, 0, none⟩), .int .i64 0]) ∧ WatchAt w'' w'.heap.size x0 ∧ Below w'.heap.size w' w'') :=
    fun w' => by rw [hx0]; exact new_ok 3 1 0 (by decide) (by decide) (by decide) (by decide) (by decide) w'
  have K2 : Hid (∀ g w', WatchAt w' g x0 → Calls Try.prog 14 #[.pointer (some ⟨g, 0, none⟩), .int .i64 4] w' fun e w'' => ∃ a cap, e = .returned (.tuple #[.slice a 0 cap, .int .i64 0]) ∧ WatchAt w'' g x1 ∧ But g (From w'.heap.size) w' w'') :=
    fun g w' h => (check_ok g x0 4 (by rw [hx0]; decide) (by decide) w' h).mono fun e w'' ⟨a, cap, h1, _, h3, h4⟩ => ⟨a, cap, by rw [h1, l1]; rfl, by rw [hx1]; exact h3, h4⟩
  have K3 : Hid (∀ g w', WatchAt w' g x1 → Calls Try.prog 14 #[.pointer (some ⟨g, 0, none⟩), .int .i64 5] w' fun e w'' => ∃ a cap, e = .returned (.tuple #[.slice a 2 cap, .int .i64 0]) ∧ IntsFrom w'' w'.heap.size a [2, 3] ∧ WatchAt w'' g x2 ∧ But g (From w'.heap.size) w' w'') :=
    fun g w' h => (check_ok g x1 5 (by rw [hx1, hx0]; decide) (by decide) w' h).mono fun e w'' ⟨a, cap, h1, h2, h3, h4⟩ => ⟨a, cap, by rw [h1, l2]; rfl, by rw [← l2]; exact h2, by rw [hx2]; exact h3, h4⟩
  have K4 : Hid (∀ g w', WatchAt w' g x2 → Calls Try.prog 12 #[.pointer (some ⟨g, 0, none⟩), .int .i64 2, .int .i64 6] w' fun e w'' => e = .returned (.tuple #[.bool true, .int .i64 0]) ∧ WatchAt w'' g x3 ∧ But g (From w'.heap.size) w' w'') :=
    fun g w' h => (heard_ok g x2 2 6 (by decide) (by rw [hx2, hx1, hx0]; decide) (by rw [hx2, hx1, hx0]; decide) (by decide) w' h).mono fun e w'' ⟨h1, h3, h4⟩ => ⟨by rw [h1, s2], by rw [hx3]; exact h3, h4⟩
  have K5 : Hid (∀ g w', WatchAt w' g x3 → Calls Try.prog 17 #[.pointer (some ⟨g, 0, none⟩), .int .i64 2] w' fun e w'' => e = .returned (.tuple #[.int .i64 8, .int .i64 0]) ∧ w'' = w') :=
    fun g w' h => (timeout_ok g x3 2 (by decide) (by rw [hx3, hx2, hx1, hx0]; decide) (by rw [hx3, hx2, hx1, hx0]; decide) w' h).mono fun e w'' ⟨h1, h3⟩ => ⟨by rw [h1, t3]; rfl, h3⟩
  have K6 : Hid (∀ g w', WatchAt w' g x3 → Calls Try.prog 18 #[.pointer (some ⟨g, 0, none⟩)] w' fun e w'' => ∃ a cap, e = .returned (.slice a 1 cap) ∧ IntsAt w'' a [3] ∧ Below w'.heap.size w' w'') :=
    fun g w' h => (silent_any g x3 w' h).mono fun e w'' ⟨a, cap, h1, h2, h3⟩ => ⟨a, cap, by rw [h1, l3]; rfl, by rw [← l3]; exact h2.ints, h3⟩
  have KI2 : Hid (∀ (w' : World) (a b : Option Addr) (ca cb : Nat), IntsAt w' a [2, 3] → IntsAt w' b [2, 3] → Calls Try.prog 16 #[.slice a 2 ca, .slice b 2 cb] w' fun e w'' => e = .returned (.bool true) ∧ Below w'.heap.size w' w'') :=
    fun w' a b ca cb h1 h2 => pints_any a b [2, 3] [2, 3] ca cb (by decide) w' h1 h2
  have KI1 : Hid (∀ (w' : World) (a b : Option Addr) (ca cb : Nat), IntsAt w' a [3] → IntsAt w' b [3] → Calls Try.prog 16 #[.slice a 1 ca, .slice b 1 cb] w' fun e w'' => e = .returned (.bool true) ∧ Below w'.heap.size w' w'') :=
    fun w' a b ca cb h1 h2 => pints_any a b [3] [3] ca cb (by decide) w' h1 h2
  clear l1 l2 s2 t3 l3 hx1 hx2 hx3 hx0
  go_enter Try.func11, Try.ntmps11
  go_wp2_with fail
  refine (K1.out _).mono ?_
  rintro e w1 ⟨rfl, hW1, hb1⟩
  obtain ⟨g, hg⟩ : ∃ g, g = w.heap.size := ⟨_, rfl⟩
  have HG : Hid (g = w.heap.size) := hg
  have H1 : Hid (WatchAt w1 g x0 ∧ Below w.heap.size w w1) := ⟨by rw [hg]; exact hW1, hb1⟩
  rw [← hg]
  clear hW1 hb1 hg
  go_wp2_with fail
  refine (K2.out g _ H1.out.1).mono ?_
  rintro e w2 ⟨a2, cap2, rfl, hW2, hb2⟩
  have H2 : Hid (WatchAt w2 g x1 ∧ Below w.heap.size w w2) := ⟨hW2, below_but H1.out.2 (Nat.le_of_eq HG.out.symm) H1.out.2.size hb2⟩
  clear hW2 hb2 H1
  go_wp2_with fail
  refine (K3.out g _ H2.out.1).mono ?_
  rintro e w3 ⟨a3, cap3, rfl, hI3, hW3, hb3⟩
  have H3 : Hid (WatchAt w3 g x2 ∧ Below w.heap.size w w3 ∧ IntsFrom w3 (g + 1) a3 [2, 3]) := ⟨hW3, below_but H2.out.2 (Nat.le_of_eq HG.out.symm) H2.out.2.size hb3, fun j n hj => by
    obtain ⟨p, o, h1, h2, h3, h4⟩ := hI3 j n hj
    exact ⟨p, o, h1, h2, Nat.le_trans H2.out.1.lt h3, h4⟩⟩
  clear hW3 hb3 hI3 H2
  go_wp2_with fail
  refine (K4.out g _ H3.out.1).mono ?_
  rintro e w4 ⟨rfl, hW4, hb4⟩
  have H4 : Hid (WatchAt w4 g x3 ∧ Below w.heap.size w w4 ∧ IntsFrom w4 (g + 1) a3 [2, 3]) := ⟨hW4, below_but H3.out.2.1 (Nat.le_of_eq HG.out.symm) H3.out.2.1.size hb4, H3.out.2.2.but (Nat.lt_succ_self _) hb4⟩
  clear hW4 hb4 H3
  go_wp2_with fail
  refine (K5.out g _ H4.out.1).mono ?_
  rintro e w5 ⟨rfl, rfl⟩
  go_wp2_with fail
  refine (KI2.out _ _ _ _ _ (H4.out.2.2.ints.call ((Below.refl _ _).alloc (Nat.le_refl _) _)) (ints_new2 _ _ _ _)).mono ?_
  rintro e w6 ⟨rfl, hb6⟩
  have H6 : Hid (WatchAt w6 g x3 ∧ Below w.heap.size w w6) := ⟨(H4.out.1.call ((Below.refl _ _).alloc (Nat.le_refl _) _)).call hb6, below_call0 (below_alloc0 H4.out.2.1 _) hb6⟩
  clear hb6 H4
  go_wp2_with fail
  refine (K6.out g _ H6.out.1).mono ?_
  rintro e w7 ⟨a7, cap7, rfl, hI7, hb7⟩
  have H7 : Hid (IntsAt w7 a7 [3] ∧ Below w.heap.size w w7) := ⟨hI7, below_call0 H6.out.2 hb7⟩
  clear hI7 hb7 H6
  go_wp2_with fail
  refine (KI1.out _ _ _ _ _ (H7.out.1.call ((Below.refl _ _).alloc (Nat.le_refl _) _)) (ints_new1 _ _ _)).mono ?_
  rintro e w8 ⟨rfl, hb8⟩
  have H8 : Hid (Below w.heap.size w w8) := below_call0 (below_alloc0 H7.out.2 _) hb8
  clear hb8 H7
  go_wp2_with fail
  go_ret
  exact ⟨rfl, H8.out⟩

theorem has_nil (k : Int) (w : World) : Calls Try.prog 27 #[.pointer none, .int .i64 k] w fun e w' => e = .returned (.bool false) ∧ w' = w := by
  go_enter Try.func27, Try.ntmps27
  go_wp2
  go_ret
  exact ⟨rfl, rfl⟩
theorem mayBe_nil (k : Int) (w : World) : Calls Try.prog 28 #[.pointer none, .int .i64 k] w fun e w' => e = .returned (.bool false) ∧ w' = w := by
  go_enter Try.func28, Try.ntmps28
  go_wp2
  go_ret
  exact ⟨rfl, rfl⟩
theorem heard_nil (k m : Int) (w : World) : Calls Try.prog 12 #[.pointer none, .int .i64 k, .int .i64 m] w fun e w' => e = .returned (.tuple #[.bool false, .int .i64 1]) ∧ w' = w := by
  go_enter Try.func12, Try.ntmps12
  go_wp2_with fail
  refine (has_nil _ _).mono ?_
  rintro e w1 ⟨rfl, rfl⟩
  go_wp2_with fail
  go_ret2
  exact ⟨rfl, rfl⟩
theorem check_nil (m : Int) (w : World) : Calls Try.prog 14 #[.pointer none, .int .i64 m] w fun e w' => e = .returned (.tuple #[.slice none 0 0, .int .i64 1]) ∧ w' = w := by
  go_enter Try.func14, Try.ntmps14
  go_wp2_with fail
  refine (mayBe_nil _ _).mono ?_
  rintro e w1 ⟨rfl, rfl⟩
  go_wp2_with fail
  go_ret2
  exact ⟨rfl, rfl⟩
theorem timeout_nil (k : Int) (w : World) : Calls Try.prog 17 #[.pointer none, .int .i64 k] w fun e w' => e = .returned (.tuple #[.int .i64 0, .int .i64 1]) ∧ w' = w := by
  go_enter Try.func17, Try.ntmps17
  go_wp2_with fail
  refine (has_nil _ _).mono ?_
  rintro e w1 ⟨rfl, rfl⟩
  go_wp2_with fail
  go_ret2
  exact ⟨rfl, rfl⟩
theorem silent_nil (w : World) : Calls Try.prog 18 #[.pointer none] w fun e w' => e = .returned (.slice none 0 0) ∧ w' = w := by
  go_enter Try.func18, Try.ntmps18
  go_wp2
  go_ret
  exact ⟨rfl, rfl⟩
theorem wnow_nil (w : World) : Calls Try.prog 20 #[.pointer none] w fun e w' => e = .returned (.int .i64 0) ∧ w' = w := by
  go_enter Try.func20, Try.ntmps20
  go_wp2
  go_ret
  exact ⟨rfl, rfl⟩
theorem beatNil_any (n : Int) (w : World) : Calls Try.prog 7 #[.int .i64 n] w fun e w' => e = .returned (.bool true) ∧ Below w.heap.size w w' := by
  go_enter Try.func7, Try.ntmps7
  go_wp2_with fail
  refine (heard_nil _ _ _).mono ?_
  rintro e w1 ⟨rfl, rfl⟩
  go_wp2_with fail
  refine (check_nil _ _).mono ?_
  rintro e w1 ⟨rfl, rfl⟩
  go_wp2_with fail
  refine (timeout_nil _ _).mono ?_
  rintro e w1 ⟨rfl, rfl⟩
  go_wp2_with fail
  refine (silent_nil _).mono ?_
  rintro e w1 ⟨rfl, rfl⟩
  go_wp2_with fail
  refine (wnow_nil _).mono ?_
  rintro e w1 ⟨rfl, rfl⟩
  go_wp2_with fail
  refine (five_any _).mono ?_
  rintro e w2 ⟨rfl, hb⟩
  have HB : Hid _ := hb
  clear hb
  go_wp2_with fail
  go_ret
  exact ⟨rfl, HB.out⟩
end Go.Proofs.Ytpgpbfcomobfkaa
