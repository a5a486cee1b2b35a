/- Package link: an end that takes. -/
import Derived.Test.YtadcjdffjhiniaaLkB
import Derived.Test.YtadcjdffjhiniaaHeldN
namespace Go.Proofs.Ytadcjdffjhiniaa
open Go Go.RowKit Go.Lib

set_option maxHeartbeats 1000000 in
theorem lunpack_in {k rest : Nat} {s : ByteArray} {l n : Nat} {r : List ByteArray} (hs : s.size < 140737488351233) (hr : rest ≤ 40) (h : lkU k rest s = some (l, n, r)) (w : World) : Calls Try.prog 27 #[.string s, .int .i64 (k : Nat), .int .i64 (rest : Nat)] w fun e w' =>
    ∃ a cap, e = .returned (.tuple #[.int .i64 (l : Nat), .int .i64 (n : Nat), .slice a rest cap, .int .i64 0]) ∧ Strs w' a r ∧ Below w.heap.size w w' := by
  obtain ⟨a, b, h1, h2, h3, h4, h5, h6, h7, h8, h9⟩ := lkU_inv h
  have KU : Hid (∀ w' : World, Calls Try.prog 37 #[.string s] w' fun e w'' => ∃ p cap, e = .returned (.tuple #[.int .i64 (k : Nat), .slice p (2 + rest) cap, .int .i64 0]) ∧ Strs w'' p (a :: b :: r) ∧ Below w'.heap.size w' w'' ∧ 2 + rest ≤ cap) := fun w' => by
    have := unpack_cap s hs w'
    unfold upCap at this
    rw [h1, h2, h3] at this
    have e : (a :: b :: r).length = 2 + rest := by simp; omega
    rw [e] at this
    exact this
  have KA : Hid _ := fun w' : World => toInt_some h5 w'
  have KL : Hid _ := fun w' : World => isLife_any (l : Nat) w'
  rw [decide_eq_true (by omega)] at KL
  have KB : Hid _ := fun w' : World => toInt_some h6 w'
  have h9' : ¬ ((1099511627776 : Int) < (n : Int)) := by omega
  have HR : Hid (r.length = rest) := h4
  clear h h1 h2 h3 h4 h5 h6 h7 h8 h9 hs
  go_enter Try.func27, Try.ntmps27
  go_wp2_with fail
  refine (KU.out _).mono ?_
  rintro e w1 ⟨p, cap, rfl, hS1, hb1, hcap⟩
  obtain ⟨pb, po, rfl, hc0, hp0⟩ := hS1 0 a rfl
  rw [Nat.add_zero] at hc0
  obtain ⟨pb', po', he, hc1, -⟩ := hS1 1 b rfl
  cases he
  have H1 : Hid (Strs w1 (some ⟨pb, po, none⟩) (a :: b :: r) ∧ _) := ⟨hS1, hb1⟩
  clear hb1 KU hS1
  go_wp2_with fail
  refine (KA.out _).mono ?_
  rintro e w2 ⟨rfl, hb2⟩
  have hc1' : w2.cell? ⟨pb, po + 1, none⟩ = some (.string b) := (hb2.cell (p := ⟨pb, po + 1, none⟩) hp0).trans hc1
  have H2 : Hid (Strs w2 (some ⟨pb, po, none⟩) (a :: b :: r) ∧ Below w.heap.size w w2) := ⟨H1.out.1.call hb2, below_call0 H1.out.2 hb2⟩
  clear hb2 KA H1
  go_wp2_with fail
  refine (KL.out _).mono ?_
  rintro e w3 ⟨rfl, rfl⟩
  go_wp2_with fail
  refine (KB.out _).mono ?_
  rintro e w4 ⟨rfl, hb4⟩
  have H4 : Hid (Strs w4 (some ⟨pb, po, none⟩) (a :: b :: r) ∧ Below w.heap.size w w4) := ⟨H2.out.1.call hb4, below_call0 H2.out.2 hb4⟩
  clear hb4 KB H2 KL hc0 hc1 hc1'
  have HD : Hid (∀ j s, r[j]? = some s → ∃ q u, some (⟨pb, po + 2, none⟩ : Addr) = some ⟨q, u, none⟩ ∧ w4.cell? ⟨q, u + j, none⟩ = some (.string s) ∧ q < w4.heap.size) := fun j s hj => by
    obtain ⟨q, u, e1, e2, e3⟩ := H4.out.1 (j + 2) s (by simpa using hj)
    cases e1
    exact ⟨pb, po + 2, rfl, by rw [show po + 2 + j = po + (j + 2) from by omega]; exact e2, e3⟩
  by_cases hc2 : cap = 2
  · obtain rfl : rest = 0 := by omega
    subst hc2
    go_wp2_with fail
    go_quiet (fail)
    go_wp2_with fail
    have r0 : r = [] := List.eq_nil_of_length_eq_zero HR.out
    exact bodyPost_ret (v := .tuple #[.int .i64 (l : Nat), .int .i64 (n : Nat), .slice (some ⟨pb, po, none⟩) 0 0, .int .i64 0]) (by simp [results, Try.results27, go_sem]) rfl ⟨_, _, rfl, by rw [r0]; intro j s hj; simp at hj, below_drewN H4.out.2 _⟩
  · have hc2' : ¬ (cap = 2) := hc2
    have hc3 : 2 < cap := by omega
    have hc4 : (2 : Int) < (cap : Int) := by omega
    go_wp2_with fail
    go_quiet (fail)
    go_wp2_with fail
    exact bodyPost_ret (v := .tuple #[.int .i64 (l : Nat), .int .i64 (n : Nat), .slice (some ⟨pb, po + 2, none⟩) rest (cap - 2), .int .i64 0]) (by simp [results, Try.results27, go_sem]; try omega) rfl ⟨_, _, rfl, HD.out, below_drewN H4.out.2 _⟩
end Go.Proofs.Ytadcjdffjhiniaa
