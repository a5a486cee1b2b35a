/- parcel.Int, parcel.ToInt. -/
import Derived.Test.YtadcjdffjhiniaaPiC
import Derived.Test.YtadcjdffjhiniaaPiF
import Derived.Test.YtadcjdffjhiniaaPcW
namespace Go.Proofs.Ytadcjdffjhiniaa
open Go Go.RowKit Go.Lib

theorem IntsAt.one (n : Int) (w : World) (y : TypeId) : IntsAt (w.alloc (.cells #[.int .i64 n] y)) (some ⟨w.heap.size, 0, none⟩) [n] := by
  intro j u hj
  match j, hj with
  | 0, hj => simp at hj; subst hj; exact ⟨_, _, rfl, by simp [go_sem], by simp⟩
  | j + 1, hj => simp at hj
theorem int_any (n : Int) (hn : n < 9223372036854775808) (w : World) : Calls Try.prog 39 #[.int .i64 n] w fun e w' => e = .returned (.tuple #[.string (inS [n]), .int .i64 (inE [n])]) ∧ Below w.heap.size w w' := by
  have K : Hid (∀ (w' : World) (a : Option Addr), IntsAt w' a [n] → Calls Try.prog 46 #[.slice a 1 1] w' fun e w'' => e = .returned (.tuple #[.string (inS [n]), .int .i64 (inE [n])]) ∧ Below w'.heap.size w' w'') := fun w' a h => ints_any a [n] 1 w' h (fun m hm => by simp at hm; subst hm; exact hn)
  have hsz : ∀ w, (Go.sizeOf 3).run Try.prog w = .ok 1 w := fun _ => by kernel_rfl
  obtain ⟨S, hS⟩ : ∃ S, S = inS [n] := ⟨_, rfl⟩
  obtain ⟨E, hE⟩ : ∃ E, E = inE [n] := ⟨_, rfl⟩
  rw [← hS, ← hE] at K ⊢
  clear hS hE hn
  go_enter Try.func39, Try.ntmps39
  go_wp2_with fail
  refine (K.out _ _ (IntsAt.one _ _ _)).mono ?_
  rintro e w1 ⟨rfl, hb1⟩
  have H1 : Hid (Below w.heap.size w w1) := below_call0 (below_alloc0 (Below.refl _ _) _) hb1
  clear hb1 K
  go_wp2_with fail
  go_ret2
  exact ⟨rfl, H1.out⟩
theorem rint_any (n : Int) (hn : n < 9223372036854775808) (a : Option Addr) (w : World) (h : IntsAt w a [n]) : Calls Try.prog 32 #[.slice a 1 1] w fun e w' => e = .returned (.tuple #[.string (inS [n]), .int .i64 (inE [n])]) ∧ Below w.heap.size w w' :=
  rints_any a [n] 1 w h (fun m hm => by simp at hm; subst hm; exact hn)
theorem ti_len {t : List UInt8} (h : tiE t = 0) : (tiL t).length = t.length / 8 ∧ t.length % 8 = 0 ∧ t.length ≤ 8000 := by
  unfold tiE at h
  split at h
  · rename_i hB
    refine ⟨by unfold tiL; rw [hB, if_pos rfl, List.length_map, List.length_range], ?_⟩
    unfold tiB at hB
    simp only [Bool.and_eq_true, decide_eq_true_eq] at hB
    exact ⟨hB.1.1, hB.1.2⟩
  · exact absurd h (by decide)
theorem tiE_or (t : List UInt8) : tiE t = 0 ∨ (tiE t = 4 ∧ tiL t = []) := by
  rcases Bool.eq_false_or_eq_true (tiB t) with h | h
  · exact .inl (ti_yes h).1
  · exact .inr (ti_no h)
/-- ToInt, where the bytes are one number. -/
theorem toInt_in (s : ByteArray) (v : Int) (hs : s.size = 8) (h : tiE s.data.toList = 0) (hv : tiL s.data.toList = [v]) (w : World) : Calls Try.prog 38 #[.string s] w fun e w' => e = .returned (.tuple #[.int .i64 v, .int .i64 0]) ∧ Below w.heap.size w w' := by
  have K : Hid (∀ w' : World, Calls Try.prog 45 #[.string s] w' fun e w'' => ∃ a cap, e = .returned (.tuple #[.slice a 1 cap, .int .i64 0]) ∧ IntsAt w'' a [v] ∧ Below w'.heap.size w' w'') := fun w' => by
    have := toInts_any s (by omega) w'
    unfold tiPost at this
    rw [h, hv] at this
    exact this
  have hs' : (s.size : Int) = 8 := by omega
  clear h hv hs
  go_enter Try.func38, Try.ntmps38
  go_wp2_with fail
  refine (K.out _).mono ?_
  rintro e w1 ⟨a, cap, rfl, hI1, hb1⟩
  obtain ⟨p, o, rfl, hc, hp⟩ := hI1 0 v rfl
  rw [Nat.add_zero] at hc
  have H1 : Hid (Below w.heap.size w w1) := hb1
  clear hb1 K hI1
  go_wp2_with fail
  go_ret2
  exact ⟨rfl, H1.out⟩
theorem toInt_size (s : ByteArray) (hs : s.size ≠ 8) (w : World) : Calls Try.prog 38 #[.string s] w fun e w' => e = .returned (.tuple #[.int .i64 0, .int .i64 4]) ∧ Below w.heap.size w w' := by
  have hs' : ¬ ((s.size : Int) = 8) := by omega
  clear hs
  go_enter Try.func38, Try.ntmps38
  go_wp2_with fail
  go_ret2
  exact ⟨rfl, Below.refl _ _⟩
theorem toInt_bad (s : ByteArray) (hz : s.size < 140737488351233) (h : tiE s.data.toList = 4) (hv : tiL s.data.toList = []) (w : World) : Calls Try.prog 38 #[.string s] w fun e w' => e = .returned (.tuple #[.int .i64 0, .int .i64 4]) ∧ Below w.heap.size w w' := by
  by_cases hs : s.size = 8
  · have K : Hid (∀ w' : World, Calls Try.prog 45 #[.string s] w' fun e w'' => ∃ a cap, e = .returned (.tuple #[.slice a 0 cap, .int .i64 4]) ∧ IntsAt w'' a [] ∧ Below w'.heap.size w' w'') := fun w' => by
      have := toInts_any s hz w'
      unfold tiPost at this
      rw [h, hv] at this
      exact this
    have hs' : (s.size : Int) = 8 := by omega
    clear h hv hs hz
    go_enter Try.func38, Try.ntmps38
    go_wp2_with fail
    refine (K.out _).mono ?_
    rintro e w1 ⟨a, cap, rfl, hI1, hb1⟩
    have H1 : Hid (Below w.heap.size w w1) := hb1
    clear hb1 K hI1
    go_wp2_with fail
    go_ret2
    exact ⟨rfl, H1.out⟩
  · exact toInt_size s hs w
end Go.Proofs.Ytadcjdffjhiniaa
