/- Package beat: New, Turn, Next. -/
import Derived.Test.YtpgpbfcomobfkaaBtE
namespace Go.Proofs.Ytpgpbfcomobfkaa
open Go Go.RowKit Go.Lib

theorem bturn_any (n v : Nat) (hn : 1 ≤ n) (hv : v < 9223372036854775807) (h10 : n ≤ 10) (w : World) : Calls Try.prog 32 #[.int .i64 (n : Nat), .int .i64 (v : Nat)] w fun e w' => e = .returned (.int .i64 ((v % n + 1 : Nat) : Int)) ∧ w' = w := by
  have h1 : ¬ ((n : Int) = 0) := by omega
  have h2 : (v : Int) < 9223372036854775807 := by omega
  have h3 : ((v : Int)).tmod (n : Int) = ((v % n : Nat) : Int) := rfl
  have h4 : v % n < 10 := Nat.lt_of_lt_of_le (Nat.mod_lt _ hn) h10
  have h5 : ((v % n : Nat) : Int) < 10 := by omega
  obtain ⟨r, hr⟩ : ∃ r, r = v % n := ⟨_, rfl⟩
  rw [← hr] at h3 h5 ⊢
  clear h4 hr hn hv h10
  go_enter Try.func32, Try.ntmps32
  go_wp2
  go_ret
  exact ⟨by go_num, rfl⟩
theorem tturn_ok (n v : Nat) (hn : 1 ≤ n) (h10 : n ≤ 10) (hv : v ≤ 1099511627776) (w : World) : Calls Try.prog 21 #[.int .i64 (n : Nat), .int .i64 (v : Nat)] w fun e w' => e = .returned (.tuple #[.int .i64 ((v % n + 1 : Nat) : Int), .int .i64 0]) ∧ w' = w := by
  have HD : Hid (decide (1 ≤ ((n : Nat) : Int) ∧ ((n : Nat) : Int) ≤ 10) = true ∧ decide (0 ≤ ((v : Nat) : Int) ∧ ((v : Nat) : Int) ≤ 1099511627776) = true ∧ 1 ≤ n ∧ n ≤ 10 ∧ v < 9223372036854775807) := ⟨decide_eq_true (by omega), decide_eq_true (by omega), hn, h10, by omega⟩
  clear hn h10 hv
  go_enter Try.func21, Try.ntmps21
  go_wp2_with fail
  refine (isTable_any _ _).mono ?_
  rintro e w1 ⟨rfl, rfl⟩
  rw [HD.out.1]
  go_wp2_with fail
  refine (isBig_any _ _).mono ?_
  rintro e w1 ⟨rfl, rfl⟩
  rw [HD.out.2.1]
  go_wp2_with fail
  refine (bturn_any n v HD.out.2.2.1 HD.out.2.2.2.2 HD.out.2.2.2.1 _).mono ?_
  rintro e w1 ⟨rfl, rfl⟩
  go_wp2_with fail
  go_ret2
  exact ⟨rfl, rfl⟩
theorem tturn_no (n v : Int) (h : ¬ ((1 ≤ n ∧ n ≤ 10) ∧ 0 ≤ v ∧ v ≤ 1099511627776)) (w : World) : Calls Try.prog 21 #[.int .i64 n, .int .i64 v] w fun e w' => e = .returned (.tuple #[.int .i64 0, .int .i64 1]) ∧ w' = w := by
  by_cases h2 : 1 ≤ n ∧ n ≤ 10
  · have HD : Hid (decide (1 ≤ n ∧ n ≤ 10) = true ∧ decide (0 ≤ v ∧ v ≤ 1099511627776) = false) := ⟨decide_eq_true h2, decide_eq_false fun c => h ⟨h2, c⟩⟩
    clear h h2
    go_enter Try.func21, Try.ntmps21
    go_wp2_with fail
    refine (isTable_any _ _).mono ?_
    rintro e w1 ⟨rfl, rfl⟩
    rw [HD.out.1]
    go_wp2_with fail
    refine (isBig_any _ _).mono ?_
    rintro e w1 ⟨rfl, rfl⟩
    rw [HD.out.2]
    go_wp2_with fail
    go_ret2
    exact ⟨rfl, rfl⟩
  · have HD : Hid (decide (1 ≤ n ∧ n ≤ 10) = false) := decide_eq_false h2
    clear h h2
    go_enter Try.func21, Try.ntmps21
    go_wp2_with fail
    refine (isTable_any _ _).mono ?_
    rintro e w1 ⟨rfl, rfl⟩
    rw [HD.out]
    go_wp2_with fail
    go_ret2
    exact ⟨rfl, rfl⟩
/-- A watch of which the first k peers are laid. -/
def PartAt (w : World) (g n self m k : Nat) : Prop :=
  g < w.heap.size ∧ w.cell? ⟨g, 0, none⟩ = some (.int .i64 (n : Nat)) ∧ w.cell? ⟨g, 1, none⟩ = some (.int .i64 (self : Nat)) ∧ w.cell? ⟨g, 2, none⟩ = some (.int .i64 (m : Nat)) ∧ (∀ o, w.frozen? ⟨g, o, none⟩ = false) ∧
  (∀ j, j < k → w.cell? ⟨g, 3 + j * 3, none⟩ = some (.int .i64 (m : Nat)) ∧ w.cell? ⟨g, 3 + j * 3 + 1, none⟩ = some (.int .i64 4) ∧ w.cell? ⟨g, 3 + j * 3 + 2, none⟩ = some (.bool false)) ∧
  (∀ j, j < 11 → (w.cell? ⟨g, 3 + j * 3, none⟩).isSome ∧ (w.cell? ⟨g, 3 + j * 3 + 1, none⟩).isSome ∧ (w.cell? ⟨g, 3 + j * 3 + 2, none⟩).isSome)
theorem new_no (n s m : Int) (h : ¬ ((1 ≤ n ∧ n ≤ 10) ∧ (1 ≤ s ∧ s ≤ n) ∧ 0 ≤ m ∧ m ≤ 1099511627776)) (w : World) : Calls Try.prog 9 #[.int .i64 n, .int .i64 s, .int .i64 m] w fun e w' => e = .returned (.tuple #[.pointer none, .int .i64 1]) ∧ w' = w := by
  by_cases h2 : 1 ≤ n ∧ n ≤ 10
  · by_cases h3 : 1 ≤ s ∧ s ≤ n
    · have HD : Hid (decide (1 ≤ n ∧ n ≤ 10) = true ∧ decide (1 ≤ s ∧ s ≤ n) = true ∧ decide (0 ≤ m ∧ m ≤ 1099511627776) = false) := ⟨decide_eq_true h2, decide_eq_true h3, decide_eq_false fun c => h ⟨h2, h3, c⟩⟩
      clear h h2 h3
      go_enter Try.func9, Try.ntmps9
      go_wp2_with fail
      refine (isTable_any _ _).mono ?_
      rintro e w1 ⟨rfl, rfl⟩
      rw [HD.out.1]
      go_wp2_with fail
      refine (isNode_any _ _ _).mono ?_
      rintro e w1 ⟨rfl, rfl⟩
      rw [HD.out.2.1]
      go_wp2_with fail
      refine (isBig_any _ _).mono ?_
      rintro e w1 ⟨rfl, rfl⟩
      rw [HD.out.2.2]
      go_wp2_with fail
      go_ret2
      exact ⟨rfl, rfl⟩
    · have HD : Hid (decide (1 ≤ n ∧ n ≤ 10) = true ∧ decide (1 ≤ s ∧ s ≤ n) = false) := ⟨decide_eq_true h2, decide_eq_false h3⟩
      clear h h2 h3
      go_enter Try.func9, Try.ntmps9
      go_wp2_with fail
      refine (isTable_any _ _).mono ?_
      rintro e w1 ⟨rfl, rfl⟩
      rw [HD.out.1]
      go_wp2_with fail
      refine (isNode_any _ _ _).mono ?_
      rintro e w1 ⟨rfl, rfl⟩
      rw [HD.out.2]
      go_wp2_with fail
      go_ret2
      exact ⟨rfl, rfl⟩
  · have HD : Hid (decide (1 ≤ n ∧ n ≤ 10) = false) := decide_eq_false h2
    clear h h2
    go_enter Try.func9, Try.ntmps9
    go_wp2_with fail
    refine (isTable_any _ _).mono ?_
    rintro e w1 ⟨rfl, rfl⟩
    rw [HD.out]
    go_wp2_with fail
    go_ret2
    exact ⟨rfl, rfl⟩
def watch0 (n s m : Nat) : Array Value := #[.int .i64 (n : Nat), .int .i64 (s : Nat), .int .i64 (m : Nat), .int .i64 0, .int .i64 0, .bool false, .int .i64 0, .int .i64 0, .bool false, .int .i64 0, .int .i64 0, .bool false, .int .i64 0, .int .i64 0, .bool false, .int .i64 0, .int .i64 0, .bool false, .int .i64 0, .int .i64 0, .bool false, .int .i64 0, .int .i64 0, .bool false, .int .i64 0, .int .i64 0, .bool false, .int .i64 0, .int .i64 0, .bool false, .int .i64 0, .int .i64 0, .bool false, .int .i64 0, .int .i64 0, .bool false]
theorem watch0_some (n s m : Nat) (o : Nat) (h : o < 36) : ((watch0 n s m)[o]?).isSome = true := by
  rw [Array.getElem?_eq_getElem (show o < (watch0 n s m).size from h)]; rfl
theorem cell_newA (w : World) (c : Array Value) (t : TypeId) (o : Nat) : (w.alloc (Obj.cells c t)).cell? ⟨w.heap.size, o, none⟩ = c[o]? := by
  exact World.cell?_alloc_new _ _ _ _
theorem part_new (n s m : Nat) (w : World) : PartAt (w.alloc (Obj.cells (watch0 n s m) 66)) w.heap.size n s m 0 :=
  ⟨by simp, by rw [cell_newA]; rfl, by rw [cell_newA]; rfl, by rw [cell_newA]; rfl, fun o => World.frozen?_alloc_new _ _ _ _, fun j hj => absurd hj (by omega), fun j hj => by rw [cell_newA, cell_newA, cell_newA]; exact ⟨watch0_some n s m _ (by omega), watch0_some n s m _ (by omega), watch0_some n s m _ (by omega)⟩⟩
theorem PartAt.step {w : World} {g n s m i : Nat} {v0 v1 v2 : Value} (h : PartAt w g n s m i) (e0 : w.cell? ⟨g, 3 + i * 3, none⟩ = some v0) (e1 : w.cell? ⟨g, 3 + i * 3 + 1, none⟩ = some v1) (e2 : w.cell? ⟨g, 3 + i * 3 + 2, none⟩ = some v2) :
    PartAt (((w.setCell ⟨g, 3 + i * 3, none⟩ (.int .i64 (m : Nat))).setCell ⟨g, 3 + i * 3 + 1, none⟩ (.int .i64 4)).setCell ⟨g, 3 + i * 3 + 2, none⟩ (.bool false)) g n s m (i + 1) := by
  obtain ⟨h0, h1, h2, h3, h4, h5, h6⟩ := h
  have q0 : (((w.setCell ⟨g, 3 + i * 3, none⟩ (.int .i64 (m : Nat))).setCell ⟨g, 3 + i * 3 + 1, none⟩ (.int .i64 4)).setCell ⟨g, 3 + i * 3 + 2, none⟩ (.bool false)).cell? ⟨g, 3 + i * 3, none⟩ = some (.int .i64 (m : Nat)) := by
    rw [cell_ne (by omega), cell_ne (by omega)]; exact cell_eq e0
  have q1 : (((w.setCell ⟨g, 3 + i * 3, none⟩ (.int .i64 (m : Nat))).setCell ⟨g, 3 + i * 3 + 1, none⟩ (.int .i64 4)).setCell ⟨g, 3 + i * 3 + 2, none⟩ (.bool false)).cell? ⟨g, 3 + i * 3 + 1, none⟩ = some (.int .i64 4) := by
    rw [cell_ne (by omega)]; exact cell_eq (by rw [cell_ne (by omega)]; exact e1)
  have q2 : (((w.setCell ⟨g, 3 + i * 3, none⟩ (.int .i64 (m : Nat))).setCell ⟨g, 3 + i * 3 + 1, none⟩ (.int .i64 4)).setCell ⟨g, 3 + i * 3 + 2, none⟩ (.bool false)).cell? ⟨g, 3 + i * 3 + 2, none⟩ = some (.bool false) := by
    exact cell_eq (by rw [cell_ne (by omega), cell_ne (by omega)]; exact e2)
  have qo : ∀ o, o ≠ 3 + i * 3 → o ≠ 3 + i * 3 + 1 → o ≠ 3 + i * 3 + 2 → (((w.setCell ⟨g, 3 + i * 3, none⟩ (.int .i64 (m : Nat))).setCell ⟨g, 3 + i * 3 + 1, none⟩ (.int .i64 4)).setCell ⟨g, 3 + i * 3 + 2, none⟩ (.bool false)).cell? ⟨g, o, none⟩ = w.cell? ⟨g, o, none⟩ := fun o a b c => by
    rw [cell_ne c, cell_ne b, cell_ne a]
  refine ⟨by simpa using h0, (qo _ (by omega) (by omega) (by omega)).trans h1, (qo _ (by omega) (by omega) (by omega)).trans h2, (qo _ (by omega) (by omega) (by omega)).trans h3, fun o => by simp only [World.frozen?_setCell]; exact h4 o, fun j hj => ?_, fun j hj => ?_⟩
  · by_cases c : j = i
    · subst c; exact ⟨q0, q1, q2⟩
    · obtain ⟨a, b, d⟩ := h5 j (by omega)
      exact ⟨(qo _ (by omega) (by omega) (by omega)).trans a, (qo _ (by omega) (by omega) (by omega)).trans b, (qo _ (by omega) (by omega) (by omega)).trans d⟩
  · by_cases c : j = i
    · subst c; rw [q0, q1, q2]; exact ⟨rfl, rfl, rfl⟩
    · rw [qo _ (by omega) (by omega) (by omega), qo _ (by omega) (by omega) (by omega), qo _ (by omega) (by omega) (by omega)]; exact h6 j hj
theorem PartAt.watch {w : World} {g n s m : Nat} (h : PartAt w g n s m 11) (ho : (newW n s m).Ok) : WatchAt w g (newW n s m) :=
  ⟨ho, h.1, h.2.1, h.2.2.1, h.2.2.2.1, fun k hk => (h.2.2.2.2.2.1 k (by omega)).1, fun k hk => (h.2.2.2.2.2.1 k (by omega)).2.1, fun k hk => (h.2.2.2.2.2.1 k (by omega)).2.2, h.2.2.2.2.1⟩
theorem new_ok (n s m : Nat) (n1 : 1 ≤ n) (n10 : n ≤ 10) (s1 : 1 ≤ s) (sn : s ≤ n) (hm : m ≤ 1099511627776) (w : World) : Calls Try.prog 9 #[.int .i64 (n : Nat), .int .i64 (s : Nat), .int .i64 (m : Nat)] w fun e w' => e = .returned (.tuple #[.pointer (some ⟨w.heap.size, 0, none⟩), .int .i64 0]) ∧ WatchAt w' w.heap.size (newW n s m) ∧ Below w.heap.size w w' := by
  have HO : Hid ((newW n s m).Ok) := newW_ok n1 n10 s1 sn hm
  have HD : Hid (decide (1 ≤ ((n : Nat) : Int) ∧ ((n : Nat) : Int) ≤ 10) = true ∧ decide (1 ≤ ((s : Nat) : Int) ∧ ((s : Nat) : Int) ≤ ((n : Nat) : Int)) = true ∧ decide (0 ≤ ((m : Nat) : Int) ∧ ((m : Nat) : Int) ≤ 1099511627776) = true) := ⟨decide_eq_true (by omega), decide_eq_true (by omega), decide_eq_true (by omega)⟩
  clear n1 n10 s1 sn hm
  go_enter Try.func9, Try.ntmps9
  go_wp2_with fail
  refine (isTable_any _ _).mono ?_
  rintro e w1 ⟨rfl, rfl⟩
  rw [HD.out.1]
  go_wp2_with fail
  refine (isNode_any _ _ _).mono ?_
  rintro e w1 ⟨rfl, rfl⟩
  rw [HD.out.2.1]
  go_wp2_with fail
  refine (isBig_any _ _).mono ?_
  rintro e w1 ⟨rfl, rfl⟩
  rw [HD.out.2.2]
  go_wp2_with fail
  rename_i Kr hKr
  have HKr : Hid _ := hKr
  clear hKr
  obtain ⟨W, hWW⟩ : ∃ W : World, W = (w1.alloc (Obj.cells (watch0 n s m) 66)) := ⟨_, rfl⟩
  have hP : PartAt W w1.heap.size n s m 0 ∧ Below w1.heap.size w1 W := by rw [hWW]; exact ⟨part_new n s m w1, below_alloc0 (Below.refl _ _) _⟩
  have HP : Hid _ := hP
  clear hP
  change Code.wp _ _ _ _ (w1.alloc (Obj.cells (watch0 n s m) 66))
  rw [← hWW]
  clear hWW
  obtain ⟨g, hg⟩ : ∃ g, g = w1.heap.size := ⟨_, rfl⟩
  have HG : Hid (g = w1.heap.size) := hg
  rw [← hg] at HP ⊢
  clear hg
  go_loopw [29] (fun iv wr => ∃ i : Nat, i ≤ 11 ∧ iv = .int .i64 (i : Nat) ∧ PartAt wr g n s m i ∧ Below g w1 wr) (fun iv _ => 11 - (Go.RowKit.intOf iv).toNat)
  case atStart => exact ⟨0, Nat.zero_le _, rfl, HP.out⟩
  case round =>
    obtain ⟨i, hi, rfl, hA, hB⟩ := hrel
    rename World => wr
    have HA : Hid (_ ∧ _) := ⟨hA, hB⟩
    by_cases hlt : i < 11
    · clear HKr
      have hlt' : (i : Int) < 11 := by omega
      have q0 : (0 : Int) ≤ (i : Int) := by omega
      obtain ⟨v0, e0⟩ := Option.isSome_iff_exists.1 (hA.2.2.2.2.2.2 i hlt).1
      obtain ⟨v1, e1⟩ := Option.isSome_iff_exists.1 (hA.2.2.2.2.2.2 i hlt).2.1
      obtain ⟨v2, e2⟩ := Option.isSome_iff_exists.1 (hA.2.2.2.2.2.2 i hlt).2.2
      have f0 := hA.2.2.2.2.1 (3 + i * 3)
      have f1 := hA.2.2.2.2.1 (3 + i * 3 + 1)
      have f2 := hA.2.2.2.2.1 (3 + i * 3 + 2)
      have HI : Hid (i < 11) := hlt
      clear hA hB hlt hi
      go_wp2_with fail
      go_roundw
      case rel =>
        have t : PartAt (((wr.setCell ⟨g, 3 + i * 3, none⟩ (.int .i64 (m : Nat))).setCell ⟨g, 3 + i * 3 + 1, none⟩ (.int .i64 4)).setCell ⟨g, 3 + i * 3 + 2, none⟩ (.bool false)) g n s m (i + 1) ∧ Below g w1 (((wr.setCell ⟨g, 3 + i * 3, none⟩ (.int .i64 (m : Nat))).setCell ⟨g, 3 + i * 3 + 1, none⟩ (.int .i64 4)).setCell ⟨g, 3 + i * 3 + 2, none⟩ (.bool false)) :=
          ⟨HA.out.1.step e0 e1 e2, ((HA.out.2.setCell (p := ⟨g, _, none⟩) (Nat.le_refl _) _).setCell (p := ⟨g, _, none⟩) (Nat.le_refl _) _).setCell (p := ⟨g, _, none⟩) (Nat.le_refl _) _⟩
        first | exact ⟨i + 1, HI.out, by go_num, t⟩ | ((repeat apply Exists.intro); exact ⟨⟨i + 1, HI.out, by go_num, t⟩, rfl⟩)
      case measure => have h1 := HI.out; simp [Go.RowKit.intOf]; omega
    · obtain rfl : i = 11 := by omega
      clear hlt hi hA hB
      go_wp2_with fail
      refine HKr.out _ _ ?_
      clear HKr
      go_wp2_with fail
      go_ret2
      rw [← HG.out]
      exact ⟨rfl, HA.out.1.watch HO.out, HA.out.2⟩
end Go.Proofs.Ytpgpbfcomobfkaa
