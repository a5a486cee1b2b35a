/- The reference's file, and what each of its methods does. -/
import Derived.Test.YtlcinkhgjjpmmaaDkW
import Derived.Test.YtlcinkhgjjpmmaaDkL
namespace Go.Proofs.Ytlcinkhgjjpmmaa
open Go Go.RowKit Go.Lib

/-- The reference's file at block r: its synced bytes, and the others. -/
def RefAt (w : World) (r : Nat) (S R : ByteArray) : Prop :=
  w.cell? ⟨r, 0, none⟩ = some (.string S) ∧ w.cell? ⟨r, 1, none⟩ = some (.string R) ∧ (∀ o, w.frozen? ⟨r, o, none⟩ = false) ∧ r < w.heap.size
theorem RefAt.drewN {w : World} {r n : Nat} {S R : ByteArray} (h : RefAt w r S R) : RefAt (w.drewN n) r S R := h
theorem RefAt.but {w w' : World} {g r : Nat} {P : Nat → Prop} {S R : ByteArray} (h : RefAt w r S R) (hb : But g P w w') (hr : ¬ P r) (hne : r ≠ g) : RefAt w' r S R :=
  ⟨(hb.cell (p := ⟨r, 0, none⟩) hr hne).trans h.1, (hb.cell (p := ⟨r, 1, none⟩) hr hne).trans h.2.1, fun o => (hb.frozen (p := ⟨r, o, none⟩) hr hne).trans (h.2.2.1 o), Nat.lt_of_lt_of_le h.2.2.2 hb.size⟩
theorem RefAt.call {w w' : World} {r : Nat} {S R : ByteArray} (h : RefAt w r S R) (hb : Below w.heap.size w w') : RefAt w' r S R :=
  ⟨(hb.cell (p := ⟨r, 0, none⟩) h.2.2.2).trans h.1, (hb.cell (p := ⟨r, 1, none⟩) h.2.2.2).trans h.2.1, fun o => (hb.frozen (p := ⟨r, o, none⟩) h.2.2.2).trans (h.2.2.1 o), Nat.lt_of_lt_of_le h.2.2.2 hb.size⟩
theorem RefAt.set1 {w : World} {r : Nat} {S R X : ByteArray} (h : RefAt w r S R) : RefAt (w.setCell ⟨r, 1, none⟩ (.string X)) r S X :=
  ⟨by rw [World.cell?_setCell_other _ _ _ _ (by intro c; injection c with _ c2 _; omega)]; exact h.1, World.cell?_setCell_same _ _ _ h.2.1, fun o => by rw [World.frozen?_setCell]; exact h.2.2.1 o, by rw [World.size_setCell]; exact h.2.2.2⟩
theorem RefAt.set0 {w : World} {r : Nat} {S R X : ByteArray} (h : RefAt w r S R) : RefAt (w.setCell ⟨r, 0, none⟩ (.string X)) r X R :=
  ⟨World.cell?_setCell_same _ _ _ h.1, by rw [World.cell?_setCell_other _ _ _ _ (by intro c; injection c with _ c2 _; omega)]; exact h.2.1, fun o => by rw [World.frozen?_setCell]; exact h.2.2.1 o, by rw [World.size_setCell]; exact h.2.2.2⟩
def emp : ByteArray := ⟨#[]⟩

set_option maxHeartbeats 1000000 in
theorem rappend_ok (r : Nat) (S R s : ByteArray) (hz : S.size + R.size + s.size ≤ 1048576) (w : World) (hF : RefAt w r S R) :
    Calls Try.prog 15 #[.pointer (some ⟨r, 0, none⟩), .string s] w fun e w' => e = .returned (.int .i64 0) ∧ RefAt w' r S (R ++ s) ∧ But r (From w.heap.size) w w' := by
  have HF : Hid (RefAt w r S R) := hF
  obtain ⟨c0, c1, fz, hr⟩ := hF
  have f1 := fz 1
  have z1 : (S.size : Int) ≤ 1048576 := by omega
  have z2 : (R.size : Int) ≤ 1048576 := by omega
  have z3 : (s.size : Int) ≤ 1048576 := by omega
  have z4 : ¬ ((1048576 : Int) < (S.size : Int) + (R.size : Int) + (s.size : Int)) := by omega
  have z5 : R.size + s.size ≤ 9223372036854775807 := by omega
  clear fz hr hz
  go_enter Try.func15, Try.ntmps15
  go_wp2
  go_quiet (fail)
  go_wp2
  go_ret
  exact ⟨rfl, HF.out.drewN.set1, ((But.refl _ _ _).drewN).set _⟩
set_option maxHeartbeats 1000000 in
theorem rappend_no (r : Nat) (S R s : ByteArray) (hz : S.size + R.size ≤ 1048576) (hs : s.size < 140737488351233) (hn : 1048576 < S.size + R.size + s.size) (w : World) (hF : RefAt w r S R) :
    Calls Try.prog 15 #[.pointer (some ⟨r, 0, none⟩), .string s] w fun e w' => e = .returned (.int .i64 5) ∧ RefAt w' r S R ∧ But r (From w.heap.size) w w' := by
  have HF : Hid (RefAt w r S R) := hF
  obtain ⟨c0, c1, fz, hr⟩ := hF
  have z1 : (S.size : Int) ≤ 1048576 := by omega
  have z2 : (R.size : Int) ≤ 1048576 := by omega
  have z3 : (s.size : Int) ≤ 140737488351233 := by omega
  have z4 : ((1048576 : Int) < (S.size : Int) + (R.size : Int) + (s.size : Int)) := by omega
  clear fz hr hz hs hn
  go_enter Try.func15, Try.ntmps15
  go_wp2
  go_quiet (fail)
  go_wp2
  go_ret
  exact ⟨rfl, HF.out.drewN, (But.refl _ _ _).drewN⟩
set_option maxHeartbeats 1000000 in
theorem rcut_ok (r n : Nat) (S R : ByteArray) (hz : S.size + R.size ≤ 1048576) (hn : n ≤ S.size + R.size) (w : World) (hF : RefAt w r S R) :
    Calls Try.prog 17 #[.pointer (some ⟨r, 0, none⟩), .int .i64 (n : Nat)] w fun e w' => e = .returned (.int .i64 0) ∧ RefAt w' r ((S ++ R).extract 0 n) emp ∧ But r (From w.heap.size) w w' := by
  have HF : Hid (RefAt w r S R) := hF
  obtain ⟨c0, c1, fz, hr⟩ := hF
  have f0 := fz 0
  have f1 := fz 1
  have z5 : S.size + R.size ≤ 9223372036854775807 := by omega
  have es : (S ++ R).size = S.size + R.size := ByteArray.size_append
  have d0 : decide ((n : Int) < 0) = false := decide_eq_false (by omega)
  have n1 : ¬ (((S.size : Int) + (R.size : Int)) < (n : Int)) := by omega
  have n2 : n ≤ S.size + R.size := hn
  have n3 : (n : Int) ≤ (S.size : Int) + (R.size : Int) := by omega
  clear fz hr hz hn
  go_enter Try.func17, Try.ntmps17
  go_wp2
  go_quiet (fail)
  go_wp2
  go_ret
  exact ⟨rfl, HF.out.drewN.set0.set1, (((But.refl _ _ _).drewN).set _).set _⟩
set_option maxHeartbeats 1000000 in
theorem rcut_no (r : Nat) (n : Int) (S R : ByteArray) (hz : S.size + R.size ≤ 1048576) (hn : n < 0 ∨ (S.size : Int) + (R.size : Int) < n) (w : World) (hF : RefAt w r S R) :
    Calls Try.prog 17 #[.pointer (some ⟨r, 0, none⟩), .int .i64 n] w fun e w' => e = .returned (.int .i64 1) ∧ RefAt w' r S R ∧ But r (From w.heap.size) w w' := by
  have HF : Hid (RefAt w r S R) := hF
  obtain ⟨c0, c1, fz, hr⟩ := hF
  have z5 : S.size + R.size ≤ 9223372036854775807 := by omega
  have es : (S ++ R).size = S.size + R.size := ByteArray.size_append
  clear fz hr hz
  by_cases h0 : n < 0
  · clear hn
    go_enter Try.func17, Try.ntmps17
    go_wp2
    go_quiet (fail)
    go_wp2
    go_ret
    exact ⟨rfl, HF.out.drewN, (But.refl _ _ _).drewN⟩
  · have h1 : (S.size : Int) + (R.size : Int) < n := by omega
    clear hn
    go_enter Try.func17, Try.ntmps17
    go_wp2
    go_quiet (fail)
    go_wp2
    go_ret
    exact ⟨rfl, HF.out.drewN, (But.refl _ _ _).drewN⟩
end Go.Proofs.Ytlcinkhgjjpmmaa
