/- Package agenda: the law's small case. -/
import Derived.Test.YtkgfeiigdhbddaaAgG2
import Derived.Test.YtkgfeiigdhbddaaAgG3
import Derived.Test.YtkgfeiigdhbddaaAgG4
namespace Go.Proofs.Ytkgfeiigdhbddaa
open Go Go.RowKit Go.Lib
def enBy (c : UInt8) : ByteArray := ⟨#[c]⟩
theorem from_off {w w1 w2 : World} {B : Nat} (h : Below B w w1) (hO : Off (From B) w1 w2) : Below B w w2 := ⟨hO.os.trans h.os, hO.tape.trans h.tape, hO.output.trans h.output, Nat.le_trans h.size hO.size, fun k hk => (hO.block k (not_from hk)).trans (h.block k hk)⟩
theorem from_new {w w1 : World} {B : Nat} (h : Below B w w1) (hB : B ≤ w.heap.size) : ∀ k, w1.heap.size ≤ k → From B k := fun k hk => by have := h.size; show B ≤ k; omega
set_option maxRecDepth 100000 in
set_option maxHeartbeats 2000000 in
theorem three_any (w : World) : Calls Try.prog 8 #[] w fun e w' => e = .returned (.bool true) ∧ Below w.heap.size w w' := by
  obtain ⟨L1, hL1⟩ : ∃ L1 : List En, L1 = [⟨1, 9, ⟨#[97]⟩⟩] := ⟨_, rfl⟩
  obtain ⟨L2, hL2⟩ : ∃ L2 : List En, L2 = [⟨2, 3, ⟨#[98]⟩⟩, ⟨1, 9, ⟨#[97]⟩⟩] := ⟨_, rfl⟩
  obtain ⟨L3, hL3⟩ : ∃ L3 : List En, L3 = [⟨2, 3, ⟨#[98]⟩⟩, ⟨1, 9, ⟨#[97]⟩⟩, ⟨3, 9, ⟨#[99]⟩⟩] := ⟨_, rfl⟩
  obtain ⟨g, hg⟩ : ∃ g, g = w.heap.size := ⟨_, rfl⟩
  have HG : Hid (g = w.heap.size) := hg
  have K1 : Hid (∀ w', (∀ k, w'.heap.size ≤ k → From g k) → AgZ w' (From g) g 0 [] → Calls Try.prog 12 #[.pointer (some ⟨g, 0, none⟩), .int .i64 9, .string ⟨#[97]⟩] w' fun e w'' => e = .returned (.tuple #[.int .i64 1, .int .i64 0]) ∧ AgZ w'' (From g) g 1 L1 ∧ Off (From g) w' w'') := fun w' hz h => by
    rw [hL1]; exact aput_ok g 0 1 9 rfl (From g) [] ⟨#[97]⟩ (by decide) w' hz h (by decide) (by decide) (by decide)
  have K2 : Hid (∀ w', (∀ k, w'.heap.size ≤ k → From g k) → AgZ w' (From g) g 1 L1 → Calls Try.prog 12 #[.pointer (some ⟨g, 0, none⟩), .int .i64 3, .string ⟨#[98]⟩] w' fun e w'' => e = .returned (.tuple #[.int .i64 2, .int .i64 0]) ∧ AgZ w'' (From g) g 2 L2 ∧ Off (From g) w' w'') := fun w' hz h => by
    have e : L2 = insE ⟨2, 3, ⟨#[98]⟩⟩ L1 := by rw [hL1, hL2]; rfl
    rw [e]; exact aput_ok g 1 2 3 rfl (From g) L1 ⟨#[98]⟩ (by decide) w' hz h (by rw [hL1]; decide) (by decide) (by decide)
  have K3 : Hid (∀ w', (∀ k, w'.heap.size ≤ k → From g k) → AgZ w' (From g) g 2 L2 → Calls Try.prog 12 #[.pointer (some ⟨g, 0, none⟩), .int .i64 9, .string ⟨#[99]⟩] w' fun e w'' => e = .returned (.tuple #[.int .i64 3, .int .i64 0]) ∧ AgZ w'' (From g) g 3 L3 ∧ Off (From g) w' w'') := fun w' hz h => by
    have e : L3 = insE ⟨3, 9, ⟨#[99]⟩⟩ L2 := by rw [hL2, hL3]; rfl
    rw [e]; exact aput_ok g 2 3 9 rfl (From g) L2 ⟨#[99]⟩ (by decide) w' hz h (by rw [hL2]; decide) (by decide) (by decide)
  have K4 : Hid (∀ w', (∀ k, w'.heap.size ≤ k → From g k) → AgZ w' (From g) g 3 L3 → Calls Try.prog 15 #[.pointer (some ⟨g, 0, none⟩), .int .i64 9] w' fun e w'' => ∃ q cap, e = .returned (.tuple #[.slice (some ⟨q, 0, none⟩) 3 cap, .int .i64 0]) ∧ w''.cell? ⟨q, 2, none⟩ = some (.string ⟨#[98]⟩) ∧ w''.cell? ⟨q, 5, none⟩ = some (.string ⟨#[97]⟩) ∧ w''.cell? ⟨q, 8, none⟩ = some (.string ⟨#[99]⟩) ∧ Off (From g) w' w'') := fun w' hz h => by
    refine (atake_ok g 3 9 (From g) L3 (by decide) w' hz h).mono ?_
    rintro e w'' ⟨a, m, cap, he, hm, hR, _, _, hO⟩
    have ed : due 9 L3 = L3 := by rw [hL3]; rfl
    rw [ed] at hm hR
    have e3 : m = 3 := by rw [hm, hL3]; rfl
    subst e3
    rcases hR with ⟨_, h0, _⟩ | ⟨q, rfl, hR⟩
    · omega
    · have q0 := hR.c2 0 (by decide)
      have q1 := hR.c2 1 (by decide)
      have q2 := hR.c2 2 (by decide)
      rw [hL3] at q0 q1 q2
      exact ⟨q, cap, he, q0, q1, q2, hO⟩
  clear hL1 hL2 hL3
  go_enter Try.func8, Try.ntmps8
  go_wp2_with fail
  refine (anew_in (From g) w (fun k hk => by show g ≤ k; rw [HG.out]; exact hk)).mono ?_
  rintro e w1 ⟨rfl, hA1, hb1⟩
  rw [← hg] at hA1 hb1 ⊢
  have H1 : Hid (AgZ w1 (From g) g 0 [] ∧ Below g w w1) := ⟨hA1, hb1⟩
  have hgz : g ≤ w.heap.size := Nat.le_of_eq hg
  have HZ : Hid (g ≤ w.heap.size) := hgz
  clear hA1 hb1 hg hgz
  go_wp2_with fail
  refine (K1.out w1 (from_new H1.out.2 HZ.out) H1.out.1).mono ?_
  rintro e w2 ⟨rfl, hA2, hO2⟩
  have H2 : Hid (AgZ w2 (From g) g 1 L1 ∧ Below g w w2) := ⟨hA2, from_off H1.out.2 hO2⟩
  clear hA2 hO2
  go_wp2_with fail
  refine (K2.out w2 (from_new H2.out.2 HZ.out) H2.out.1).mono ?_
  rintro e w3 ⟨rfl, hA3, hO3⟩
  have H3 : Hid (AgZ w3 (From g) g 2 L2 ∧ Below g w w3) := ⟨hA3, from_off H2.out.2 hO3⟩
  clear hA3 hO3
  go_wp2_with fail
  refine (K3.out w3 (from_new H3.out.2 HZ.out) H3.out.1).mono ?_
  rintro e w4 ⟨rfl, hA4, hO4⟩
  have H4 : Hid (AgZ w4 (From g) g 3 L3 ∧ Below g w w4) := ⟨hA4, from_off H3.out.2 hO4⟩
  clear hA4 hO4
  go_wp2_with fail
  refine (K4.out w4 (from_new H4.out.2 HZ.out) H4.out.1).mono ?_
  rintro e w5 ⟨q, cap, rfl, q0, q1, q2, hO5⟩
  have H5 : Hid (Below g w w5) := from_off H4.out.2 hO5
  clear hO5
  go_wp2_with fail
  go_ret
  exact ⟨rfl, by rw [← HG.out]; exact H5.out⟩
end Go.Proofs.Ytkgfeiigdhbddaa
