/- The law ParcelInts: the walk, case by case. -/
import Derived.Test.YtdeeilhibgholaaPiG
namespace Go.Proofs.Ytdeeilhibgholaa
open Go Go.RowKit Go.Lib

set_option maxRecDepth 100000 in
set_option maxHeartbeats 4000000 in
theorem pin_zie (a : Option Addr) (cap : Nat) (s : ByteArray) (hs : s.size < 140737488351233) (v : Int) (h8 : s.size = 8) (hT : tiE s.data.toList = 0) (hL : tiL s.data.toList = [v]) (w : World) : Calls Try.prog 5 #[.slice a 0 cap, .string s] w fun e w' => e = .returned (.bool true) ∧ Below w.heap.size w w' := by
  have hI : IntsAt w a [] := fun j n hj => by simp at hj
  have hr : ∀ n ∈ ([] : List Int), n < 9223372036854775808 := fun n hn => by simp at hn
  have hE : inE [] = 0 := rfl
  have hlen : ([] : List Int).length ≤ 8796093022208 := by decide
  have K1 : Hid (∀ w' : World, IntsAt w' a ([] : List Int) → Calls Try.prog 14 #[.slice a ([] : List Int).length cap] w' fun e w'' => e = .returned (.tuple #[.string (inS ([] : List Int)), .int .i64 (inE ([] : List Int))]) ∧ Below w'.heap.size w' w'') := fun w' h => ints_any a ([] : List Int) cap w' h hr
  have K2 : Hid (∀ w' : World, IntsAt w' a ([] : List Int) → Calls Try.prog 15 #[.slice a ([] : List Int).length cap] w' fun e w'' => e = .returned (.tuple #[.string (inS ([] : List Int)), .int .i64 (inE ([] : List Int))]) ∧ Below w'.heap.size w' w'') := fun w' h => rints_any a ([] : List Int) cap w' h hr
  have K3 : Hid (∀ w' : World, Calls Try.prog 16 #[.string s] w' fun e w'' => ∃ b c, e = .returned (.tuple #[.slice b (tiL s.data.toList).length c, .int .i64 (tiE s.data.toList)]) ∧ IntsAt w'' b (tiL s.data.toList) ∧ Below w'.heap.size w' w'') := fun w' => toInts_any s hs w'
  have K4 : Hid (∀ w' : World, Calls Try.prog 17 #[.string s] w' fun e w'' => ∃ b c, e = .returned (.tuple #[.slice b (tiL s.data.toList).length c, .int .i64 (tiE s.data.toList)]) ∧ IntsAt w'' b (tiL s.data.toList) ∧ Below w'.heap.size w' w'') := fun w' => rtoInts_any s hs w'
  have hq43 : (tiL s.data.toList).length ≤ 8796093022208 := by
    rcases tiE_or s.data.toList with h | h
    · rw [(ti_len h).1]; have := (ti_len h).2.2; omega
    · rw [h.2]; decide
  have K5 : Hid (∀ (w' : World) (b1 b2 : Option Addr) (c1 c2 : Nat), IntsAt w' b1 (tiL s.data.toList) → IntsAt w' b2 (tiL s.data.toList) → Calls Try.prog 18 #[.slice b1 (tiL s.data.toList).length c1, .slice b2 (tiL s.data.toList).length c2] w' fun e w'' => e = .returned (.bool true) ∧ Below w'.heap.size w' w'') := fun w' b1 b2 c1 c2 h1 h2 => by
    have := pints_any b1 b2 (tiL s.data.toList) (tiL s.data.toList) c1 c2 hq43 w' h1 h2
    rwa [decide_eq_true rfl] at this
  have eS : inS ([] : List Int) = ofL (inL ([] : List Int)) := by unfold inS; rw [if_pos hE]
  have h1000 : ([] : List Int).length ≤ 1000 := by
    rcases Nat.lt_or_ge 1000 ([] : List Int).length with h | h
    · rw [(in_long h).1] at hE; exact absurd hE (by decide)
    · exact h
  have K6 : Hid (∀ w' : World, Calls Try.prog 16 #[.string (inS ([] : List Int))] w' fun e w'' => ∃ b c, e = .returned (.tuple #[.slice b ([] : List Int).length c, .int .i64 0]) ∧ IntsAt w'' b ([] : List Int) ∧ Below w'.heap.size w' w'') := fun w' => by
    have := toInts_any (inS ([] : List Int)) (by rw [eS, ofL_size, inL_length]; omega) w'
    unfold tiPost at this
    rw [eS, ofL_data, (ti_in ([] : List Int) hr hE).1, (ti_in ([] : List Int) hr hE).2] at this
    rw [eS]
    exact this
  have K7 : Hid (∀ (w' : World) (b1 : Option Addr) (c1 : Nat), IntsAt w' b1 ([] : List Int) → IntsAt w' a ([] : List Int) → Calls Try.prog 18 #[.slice b1 ([] : List Int).length c1, .slice a ([] : List Int).length cap] w' fun e w'' => e = .returned (.bool true) ∧ Below w'.heap.size w' w'') := fun w' b1 c1 h1 h2 => by
    have := pints_any b1 a ([] : List Int) ([] : List Int) c1 cap (by omega) w' h1 h2
    rwa [decide_eq_true rfl] at this
  have K8 : Hid (∀ w' : World, Calls Try.prog 19 #[.string s] w' fun e w'' => e = .returned (.tuple #[.int .i64 v, .int .i64 0]) ∧ Below w'.heap.size w' w'') := fun w' => toInt_in s v h8 hT hL w'
  rw [hT] at K3 K4
  rw [hL] at K3 K4 K5
  obtain ⟨S, hS⟩ : ∃ S, S = inS ([] : List Int) := ⟨_, rfl⟩
  rw [← hS] at K1 K2
  rw [hE] at K1 K2
  rw [← hS] at K6
  have tb : (S.toList == S.toList) = true := by simp only [BEq.rfl]
  have hsz : ∀ w, (Go.sizeOf 3).run Try.prog w = .ok 1 w := fun _ => by kernel_rfl
  have HI : Hid (IntsAt w a []) := hI
  clear hS hs hT hI hr hlen hq43 eS h1000 hE h8 hL
  go_enter Try.func5, Try.ntmps5
  go_wp2_with fail
  refine (K1.out _ HI.out).mono ?_
  rintro e w1 ⟨rfl, hb1⟩
  have H1 : Hid (IntsAt w1 a [] ∧ Below w.heap.size w w1) := ⟨HI.out.call hb1, hb1⟩
  clear hb1 K1 HI
  go_wp2_with fail
  refine (K2.out _ H1.out.1).mono ?_
  rintro e w2 ⟨rfl, hb2⟩
  have H2 : Hid (IntsAt w2 a [] ∧ Below w.heap.size w w2) := ⟨H1.out.1.call hb2, below_call0 H1.out.2 hb2⟩
  clear hb2 K2 H1
  go_wp2_with fail
  refine (K3.out _).mono ?_
  rintro e w3 ⟨b1, c1, rfl, hI3, hb3⟩
  have H3 : Hid (IntsAt w3 a [] ∧ Below w.heap.size w w3 ∧ IntsAt w3 b1 [v]) := ⟨H2.out.1.call hb3, below_call0 H2.out.2 hb3, hI3⟩
  clear hb3 hI3 K3 H2
  go_wp2_with fail
  refine (K4.out _).mono ?_
  rintro e w4 ⟨b2, c2, rfl, hI4, hb4⟩
  have H4 : Hid (IntsAt w4 a [] ∧ Below w.heap.size w w4 ∧ IntsAt w4 b1 [v] ∧ IntsAt w4 b2 [v]) := ⟨H3.out.1.call hb4, below_call0 H3.out.2.1 hb4, H3.out.2.2.call hb4, hI4⟩
  clear hb4 hI4 K4 H3
  go_wp2_with fail
  refine (K5.out _ _ _ _ _ H4.out.2.2.1 H4.out.2.2.2).mono ?_
  rintro e w5 ⟨rfl, hb5⟩
  have H5 : Hid (IntsAt w5 a [] ∧ Below w.heap.size w w5 ∧ IntsAt w5 b2 [v]) := ⟨H4.out.1.call hb5, below_call0 H4.out.2.1 hb5, H4.out.2.2.2.call hb5⟩
  clear hb5 K5 H4
  go_wp2_with fail
  refine (K6.out _).mono ?_
  rintro e w6 ⟨b6, c6, rfl, hI6, hb6⟩
  have H6 : Hid (IntsAt w6 a [] ∧ Below w.heap.size w w6 ∧ IntsAt w6 b2 [v] ∧ IntsAt w6 b6 []) := ⟨H5.out.1.call hb6, below_call0 H5.out.2.1 hb6, H5.out.2.2.call hb6, hI6⟩
  clear hb6 hI6 K6 H5
  go_wp2_with fail
  refine (K7.out _ _ _ H6.out.2.2.2 H6.out.1).mono ?_
  rintro e w7 ⟨rfl, hb7⟩
  have H7 : Hid (IntsAt w7 a [] ∧ Below w.heap.size w w7 ∧ IntsAt w7 b2 [v]) := ⟨H6.out.1.call hb7, below_call0 H6.out.2.1 hb7, H6.out.2.2.1.call hb7⟩
  clear hb7 K7 H6
  go_wp2_with fail
  refine (K8.out _).mono ?_
  rintro e w8 ⟨rfl, hb8⟩
  have H8 : Hid (IntsAt w8 a [] ∧ Below w.heap.size w w8 ∧ IntsAt w8 b2 [v]) := ⟨H7.out.1.call hb8, below_call0 H7.out.2.1 hb8, H7.out.2.2.call hb8⟩
  clear hb8 K8 H7
  obtain ⟨p2, o2, rfl, hc2, hp2⟩ := H8.out.2.2 0 v rfl
  rw [Nat.add_zero] at hc2
  go_wp2_with fail
  rename_i Kr hKr
  have HKr : Hid _ := hKr
  clear hKr
  go_loopw [113] (fun iv wr => iv = .int .i64 0 ∧ w8 = wr) (fun _ _ => 0)
  case atStart => exact ⟨rfl, rfl⟩
  case round =>
    obtain ⟨rfl, rfl⟩ := hrel
    go_wp2_with fail
    refine HKr.out _ _ ?_
    clear HKr
    go_wp2_with fail
    refine (two_any _).mono ?_
    rintro e w9 ⟨rfl, hb9⟩
    have H9 : Hid (Below w.heap.size w w9) := below_call0 H8.out.2.1 hb9
    clear hb9
    go_wp2_with fail
    go_ret
    exact ⟨rfl, H9.out⟩
set_option maxRecDepth 100000 in
set_option maxHeartbeats 4000000 in
theorem pin_zne (a : Option Addr) (cap : Nat) (s : ByteArray) (hs : s.size < 140737488351233) (hT : tiE s.data.toList = 0) (hq : (tiL s.data.toList).length ≠ 1) (h8 : s.size ≠ 8) (w : World) : Calls Try.prog 5 #[.slice a 0 cap, .string s] w fun e w' => e = .returned (.bool true) ∧ Below w.heap.size w w' := by
  have hI : IntsAt w a [] := fun j n hj => by simp at hj
  have hr : ∀ n ∈ ([] : List Int), n < 9223372036854775808 := fun n hn => by simp at hn
  have hE : inE [] = 0 := rfl
  have hlen : ([] : List Int).length ≤ 8796093022208 := by decide
  have K1 : Hid (∀ w' : World, IntsAt w' a ([] : List Int) → Calls Try.prog 14 #[.slice a ([] : List Int).length cap] w' fun e w'' => e = .returned (.tuple #[.string (inS ([] : List Int)), .int .i64 (inE ([] : List Int))]) ∧ Below w'.heap.size w' w'') := fun w' h => ints_any a ([] : List Int) cap w' h hr
  have K2 : Hid (∀ w' : World, IntsAt w' a ([] : List Int) → Calls Try.prog 15 #[.slice a ([] : List Int).length cap] w' fun e w'' => e = .returned (.tuple #[.string (inS ([] : List Int)), .int .i64 (inE ([] : List Int))]) ∧ Below w'.heap.size w' w'') := fun w' h => rints_any a ([] : List Int) cap w' h hr
  have K3 : Hid (∀ w' : World, Calls Try.prog 16 #[.string s] w' fun e w'' => ∃ b c, e = .returned (.tuple #[.slice b (tiL s.data.toList).length c, .int .i64 (tiE s.data.toList)]) ∧ IntsAt w'' b (tiL s.data.toList) ∧ Below w'.heap.size w' w'') := fun w' => toInts_any s hs w'
  have K4 : Hid (∀ w' : World, Calls Try.prog 17 #[.string s] w' fun e w'' => ∃ b c, e = .returned (.tuple #[.slice b (tiL s.data.toList).length c, .int .i64 (tiE s.data.toList)]) ∧ IntsAt w'' b (tiL s.data.toList) ∧ Below w'.heap.size w' w'') := fun w' => rtoInts_any s hs w'
  have hq43 : (tiL s.data.toList).length ≤ 8796093022208 := by
    rcases tiE_or s.data.toList with h | h
    · rw [(ti_len h).1]; have := (ti_len h).2.2; omega
    · rw [h.2]; decide
  have K5 : Hid (∀ (w' : World) (b1 b2 : Option Addr) (c1 c2 : Nat), IntsAt w' b1 (tiL s.data.toList) → IntsAt w' b2 (tiL s.data.toList) → Calls Try.prog 18 #[.slice b1 (tiL s.data.toList).length c1, .slice b2 (tiL s.data.toList).length c2] w' fun e w'' => e = .returned (.bool true) ∧ Below w'.heap.size w' w'') := fun w' b1 b2 c1 c2 h1 h2 => by
    have := pints_any b1 b2 (tiL s.data.toList) (tiL s.data.toList) c1 c2 hq43 w' h1 h2
    rwa [decide_eq_true rfl] at this
  have eS : inS ([] : List Int) = ofL (inL ([] : List Int)) := by unfold inS; rw [if_pos hE]
  have h1000 : ([] : List Int).length ≤ 1000 := by
    rcases Nat.lt_or_ge 1000 ([] : List Int).length with h | h
    · rw [(in_long h).1] at hE; exact absurd hE (by decide)
    · exact h
  have K6 : Hid (∀ w' : World, Calls Try.prog 16 #[.string (inS ([] : List Int))] w' fun e w'' => ∃ b c, e = .returned (.tuple #[.slice b ([] : List Int).length c, .int .i64 0]) ∧ IntsAt w'' b ([] : List Int) ∧ Below w'.heap.size w' w'') := fun w' => by
    have := toInts_any (inS ([] : List Int)) (by rw [eS, ofL_size, inL_length]; omega) w'
    unfold tiPost at this
    rw [eS, ofL_data, (ti_in ([] : List Int) hr hE).1, (ti_in ([] : List Int) hr hE).2] at this
    rw [eS]
    exact this
  have K7 : Hid (∀ (w' : World) (b1 : Option Addr) (c1 : Nat), IntsAt w' b1 ([] : List Int) → IntsAt w' a ([] : List Int) → Calls Try.prog 18 #[.slice b1 ([] : List Int).length c1, .slice a ([] : List Int).length cap] w' fun e w'' => e = .returned (.bool true) ∧ Below w'.heap.size w' w'') := fun w' b1 c1 h1 h2 => by
    have := pints_any b1 a ([] : List Int) ([] : List Int) c1 cap (by omega) w' h1 h2
    rwa [decide_eq_true rfl] at this
  have K8 : Hid (∀ w' : World, Calls Try.prog 19 #[.string s] w' fun e w'' => e = .returned (.tuple #[.int .i64 0, .int .i64 4]) ∧ Below w'.heap.size w' w'') := fun w' => toInt_size s h8 w'
  rw [hT] at K3 K4
  obtain ⟨L, hLL⟩ : ∃ L, L = tiL s.data.toList := ⟨_, rfl⟩
  rw [← hLL] at K3 K4 K5 hq
  obtain ⟨q, hqq⟩ : ∃ q, q = L.length := ⟨_, rfl⟩
  rw [← hqq] at K3 K4 K5 hq
  have hq1 : ¬ ((q : Int) = 1) := by omega
  have hq2 : ¬ (q = 1) := hq
  obtain ⟨S, hS⟩ : ∃ S, S = inS ([] : List Int) := ⟨_, rfl⟩
  rw [← hS] at K1 K2
  rw [hE] at K1 K2
  rw [← hS] at K6
  have tb : (S.toList == S.toList) = true := by simp only [BEq.rfl]
  have hsz : ∀ w, (Go.sizeOf 3).run Try.prog w = .ok 1 w := fun _ => by kernel_rfl
  have HI : Hid (IntsAt w a []) := hI
  clear hS hs hT hI hr hlen hq43 eS h1000 hE h8 hLL hqq hq
  go_enter Try.func5, Try.ntmps5
  go_wp2_with fail
  refine (K1.out _ HI.out).mono ?_
  rintro e w1 ⟨rfl, hb1⟩
  have H1 : Hid (IntsAt w1 a [] ∧ Below w.heap.size w w1) := ⟨HI.out.call hb1, hb1⟩
  clear hb1 K1 HI
  go_wp2_with fail
  refine (K2.out _ H1.out.1).mono ?_
  rintro e w2 ⟨rfl, hb2⟩
  have H2 : Hid (IntsAt w2 a [] ∧ Below w.heap.size w w2) := ⟨H1.out.1.call hb2, below_call0 H1.out.2 hb2⟩
  clear hb2 K2 H1
  go_wp2_with fail
  refine (K3.out _).mono ?_
  rintro e w3 ⟨b1, c1, rfl, hI3, hb3⟩
  have H3 : Hid (IntsAt w3 a [] ∧ Below w.heap.size w w3 ∧ IntsAt w3 b1 L) := ⟨H2.out.1.call hb3, below_call0 H2.out.2 hb3, hI3⟩
  clear hb3 hI3 K3 H2
  go_wp2_with fail
  refine (K4.out _).mono ?_
  rintro e w4 ⟨b2, c2, rfl, hI4, hb4⟩
  have H4 : Hid (IntsAt w4 a [] ∧ Below w.heap.size w w4 ∧ IntsAt w4 b1 L ∧ IntsAt w4 b2 L) := ⟨H3.out.1.call hb4, below_call0 H3.out.2.1 hb4, H3.out.2.2.call hb4, hI4⟩
  clear hb4 hI4 K4 H3
  go_wp2_with fail
  refine (K5.out _ _ _ _ _ H4.out.2.2.1 H4.out.2.2.2).mono ?_
  rintro e w5 ⟨rfl, hb5⟩
  have H5 : Hid (IntsAt w5 a [] ∧ Below w.heap.size w w5 ∧ IntsAt w5 b2 L) := ⟨H4.out.1.call hb5, below_call0 H4.out.2.1 hb5, H4.out.2.2.2.call hb5⟩
  clear hb5 K5 H4
  go_wp2_with fail
  refine (K6.out _).mono ?_
  rintro e w6 ⟨b6, c6, rfl, hI6, hb6⟩
  have H6 : Hid (IntsAt w6 a [] ∧ Below w.heap.size w w6 ∧ IntsAt w6 b2 L ∧ IntsAt w6 b6 []) := ⟨H5.out.1.call hb6, below_call0 H5.out.2.1 hb6, H5.out.2.2.call hb6, hI6⟩
  clear hb6 hI6 K6 H5
  go_wp2_with fail
  refine (K7.out _ _ _ H6.out.2.2.2 H6.out.1).mono ?_
  rintro e w7 ⟨rfl, hb7⟩
  have H7 : Hid (IntsAt w7 a [] ∧ Below w.heap.size w w7 ∧ IntsAt w7 b2 L) := ⟨H6.out.1.call hb7, below_call0 H6.out.2.1 hb7, H6.out.2.2.1.call hb7⟩
  clear hb7 K7 H6
  go_wp2_with fail
  refine (K8.out _).mono ?_
  rintro e w8 ⟨rfl, hb8⟩
  have H8 : Hid (IntsAt w8 a [] ∧ Below w.heap.size w w8 ∧ IntsAt w8 b2 L) := ⟨H7.out.1.call hb8, below_call0 H7.out.2.1 hb8, H7.out.2.2.call hb8⟩
  clear hb8 K8 H7
  go_wp2_with fail
  rename_i Kr hKr
  have HKr : Hid _ := hKr
  clear hKr
  go_loopw [113] (fun iv wr => iv = .int .i64 0 ∧ w8 = wr) (fun _ _ => 0)
  case atStart => exact ⟨rfl, rfl⟩
  case round =>
    obtain ⟨rfl, rfl⟩ := hrel
    go_wp2_with fail
    refine HKr.out _ _ ?_
    clear HKr
    go_wp2_with fail
    refine (two_any _).mono ?_
    rintro e w9 ⟨rfl, hb9⟩
    have H9 : Hid (Below w.heap.size w w9) := below_call0 H8.out.2.1 hb9
    clear hb9
    go_wp2_with fail
    go_ret
    exact ⟨rfl, H9.out⟩
set_option maxRecDepth 100000 in
set_option maxHeartbeats 4000000 in
theorem pin_zbe (a : Option Addr) (cap : Nat) (s : ByteArray) (hs : s.size < 140737488351233) (hT : tiE s.data.toList = 4) (hL : tiL s.data.toList = []) (w : World) : Calls Try.prog 5 #[.slice a 0 cap, .string s] w fun e w' => e = .returned (.bool true) ∧ Below w.heap.size w w' := by
  have hI : IntsAt w a [] := fun j n hj => by simp at hj
  have hr : ∀ n ∈ ([] : List Int), n < 9223372036854775808 := fun n hn => by simp at hn
  have hE : inE [] = 0 := rfl
  have hlen : ([] : List Int).length ≤ 8796093022208 := by decide
  have K1 : Hid (∀ w' : World, IntsAt w' a ([] : List Int) → Calls Try.prog 14 #[.slice a ([] : List Int).length cap] w' fun e w'' => e = .returned (.tuple #[.string (inS ([] : List Int)), .int .i64 (inE ([] : List Int))]) ∧ Below w'.heap.size w' w'') := fun w' h => ints_any a ([] : List Int) cap w' h hr
  have K2 : Hid (∀ w' : World, IntsAt w' a ([] : List Int) → Calls Try.prog 15 #[.slice a ([] : List Int).length cap] w' fun e w'' => e = .returned (.tuple #[.string (inS ([] : List Int)), .int .i64 (inE ([] : List Int))]) ∧ Below w'.heap.size w' w'') := fun w' h => rints_any a ([] : List Int) cap w' h hr
  have K3 : Hid (∀ w' : World, Calls Try.prog 16 #[.string s] w' fun e w'' => ∃ b c, e = .returned (.tuple #[.slice b (tiL s.data.toList).length c, .int .i64 (tiE s.data.toList)]) ∧ IntsAt w'' b (tiL s.data.toList) ∧ Below w'.heap.size w' w'') := fun w' => toInts_any s hs w'
  have K4 : Hid (∀ w' : World, Calls Try.prog 17 #[.string s] w' fun e w'' => ∃ b c, e = .returned (.tuple #[.slice b (tiL s.data.toList).length c, .int .i64 (tiE s.data.toList)]) ∧ IntsAt w'' b (tiL s.data.toList) ∧ Below w'.heap.size w' w'') := fun w' => rtoInts_any s hs w'
  have hq43 : (tiL s.data.toList).length ≤ 8796093022208 := by
    rcases tiE_or s.data.toList with h | h
    · rw [(ti_len h).1]; have := (ti_len h).2.2; omega
    · rw [h.2]; decide
  have K5 : Hid (∀ (w' : World) (b1 b2 : Option Addr) (c1 c2 : Nat), IntsAt w' b1 (tiL s.data.toList) → IntsAt w' b2 (tiL s.data.toList) → Calls Try.prog 18 #[.slice b1 (tiL s.data.toList).length c1, .slice b2 (tiL s.data.toList).length c2] w' fun e w'' => e = .returned (.bool true) ∧ Below w'.heap.size w' w'') := fun w' b1 b2 c1 c2 h1 h2 => by
    have := pints_any b1 b2 (tiL s.data.toList) (tiL s.data.toList) c1 c2 hq43 w' h1 h2
    rwa [decide_eq_true rfl] at this
  have eS : inS ([] : List Int) = ofL (inL ([] : List Int)) := by unfold inS; rw [if_pos hE]
  have h1000 : ([] : List Int).length ≤ 1000 := by
    rcases Nat.lt_or_ge 1000 ([] : List Int).length with h | h
    · rw [(in_long h).1] at hE; exact absurd hE (by decide)
    · exact h
  have K6 : Hid (∀ w' : World, Calls Try.prog 16 #[.string (inS ([] : List Int))] w' fun e w'' => ∃ b c, e = .returned (.tuple #[.slice b ([] : List Int).length c, .int .i64 0]) ∧ IntsAt w'' b ([] : List Int) ∧ Below w'.heap.size w' w'') := fun w' => by
    have := toInts_any (inS ([] : List Int)) (by rw [eS, ofL_size, inL_length]; omega) w'
    unfold tiPost at this
    rw [eS, ofL_data, (ti_in ([] : List Int) hr hE).1, (ti_in ([] : List Int) hr hE).2] at this
    rw [eS]
    exact this
  have K7 : Hid (∀ (w' : World) (b1 : Option Addr) (c1 : Nat), IntsAt w' b1 ([] : List Int) → IntsAt w' a ([] : List Int) → Calls Try.prog 18 #[.slice b1 ([] : List Int).length c1, .slice a ([] : List Int).length cap] w' fun e w'' => e = .returned (.bool true) ∧ Below w'.heap.size w' w'') := fun w' b1 c1 h1 h2 => by
    have := pints_any b1 a ([] : List Int) ([] : List Int) c1 cap (by omega) w' h1 h2
    rwa [decide_eq_true rfl] at this
  have K8 : Hid (∀ w' : World, Calls Try.prog 19 #[.string s] w' fun e w'' => e = .returned (.tuple #[.int .i64 0, .int .i64 4]) ∧ Below w'.heap.size w' w'') := fun w' => toInt_bad s hs hT hL w'
  rw [hT] at K3 K4
  rw [hL] at K3 K4 K5
  obtain ⟨S, hS⟩ : ∃ S, S = inS ([] : List Int) := ⟨_, rfl⟩
  rw [← hS] at K1 K2
  rw [hE] at K1 K2
  rw [← hS] at K6
  have tb : (S.toList == S.toList) = true := by simp only [BEq.rfl]
  have hsz : ∀ w, (Go.sizeOf 3).run Try.prog w = .ok 1 w := fun _ => by kernel_rfl
  have HI : Hid (IntsAt w a []) := hI
  clear hS hs hT hI hr hlen hq43 eS h1000 hE hL
  go_enter Try.func5, Try.ntmps5
  go_wp2_with fail
  refine (K1.out _ HI.out).mono ?_
  rintro e w1 ⟨rfl, hb1⟩
  have H1 : Hid (IntsAt w1 a [] ∧ Below w.heap.size w w1) := ⟨HI.out.call hb1, hb1⟩
  clear hb1 K1 HI
  go_wp2_with fail
  refine (K2.out _ H1.out.1).mono ?_
  rintro e w2 ⟨rfl, hb2⟩
  have H2 : Hid (IntsAt w2 a [] ∧ Below w.heap.size w w2) := ⟨H1.out.1.call hb2, below_call0 H1.out.2 hb2⟩
  clear hb2 K2 H1
  go_wp2_with fail
  refine (K3.out _).mono ?_
  rintro e w3 ⟨b1, c1, rfl, hI3, hb3⟩
  have H3 : Hid (IntsAt w3 a [] ∧ Below w.heap.size w w3 ∧ IntsAt w3 b1 []) := ⟨H2.out.1.call hb3, below_call0 H2.out.2 hb3, hI3⟩
  clear hb3 hI3 K3 H2
  go_wp2_with fail
  refine (K4.out _).mono ?_
  rintro e w4 ⟨b2, c2, rfl, hI4, hb4⟩
  have H4 : Hid (IntsAt w4 a [] ∧ Below w.heap.size w w4 ∧ IntsAt w4 b1 [] ∧ IntsAt w4 b2 []) := ⟨H3.out.1.call hb4, below_call0 H3.out.2.1 hb4, H3.out.2.2.call hb4, hI4⟩
  clear hb4 hI4 K4 H3
  go_wp2_with fail
  refine (K5.out _ _ _ _ _ H4.out.2.2.1 H4.out.2.2.2).mono ?_
  rintro e w5 ⟨rfl, hb5⟩
  have H5 : Hid (IntsAt w5 a [] ∧ Below w.heap.size w w5 ∧ IntsAt w5 b2 []) := ⟨H4.out.1.call hb5, below_call0 H4.out.2.1 hb5, H4.out.2.2.2.call hb5⟩
  clear hb5 K5 H4
  go_wp2_with fail
  refine (K6.out _).mono ?_
  rintro e w6 ⟨b6, c6, rfl, hI6, hb6⟩
  have H6 : Hid (IntsAt w6 a [] ∧ Below w.heap.size w w6 ∧ IntsAt w6 b2 [] ∧ IntsAt w6 b6 []) := ⟨H5.out.1.call hb6, below_call0 H5.out.2.1 hb6, H5.out.2.2.call hb6, hI6⟩
  clear hb6 hI6 K6 H5
  go_wp2_with fail
  refine (K7.out _ _ _ H6.out.2.2.2 H6.out.1).mono ?_
  rintro e w7 ⟨rfl, hb7⟩
  have H7 : Hid (IntsAt w7 a [] ∧ Below w.heap.size w w7 ∧ IntsAt w7 b2 []) := ⟨H6.out.1.call hb7, below_call0 H6.out.2.1 hb7, H6.out.2.2.1.call hb7⟩
  clear hb7 K7 H6
  go_wp2_with fail
  refine (K8.out _).mono ?_
  rintro e w8 ⟨rfl, hb8⟩
  have H8 : Hid (IntsAt w8 a [] ∧ Below w.heap.size w w8 ∧ IntsAt w8 b2 []) := ⟨H7.out.1.call hb8, below_call0 H7.out.2.1 hb8, H7.out.2.2.call hb8⟩
  clear hb8 K8 H7
  go_wp2_with fail
  rename_i Kr hKr
  have HKr : Hid _ := hKr
  clear hKr
  go_loopw [113] (fun iv wr => iv = .int .i64 0 ∧ w8 = wr) (fun _ _ => 0)
  case atStart => exact ⟨rfl, rfl⟩
  case round =>
    obtain ⟨rfl, rfl⟩ := hrel
    go_wp2_with fail
    refine HKr.out _ _ ?_
    clear HKr
    go_wp2_with fail
    refine (two_any _).mono ?_
    rintro e w9 ⟨rfl, hb9⟩
    have H9 : Hid (Below w.heap.size w w9) := below_call0 H8.out.2.1 hb9
    clear hb9
    go_wp2_with fail
    go_ret
    exact ⟨rfl, H9.out⟩
end Go.Proofs.Ytdeeilhibgholaa
