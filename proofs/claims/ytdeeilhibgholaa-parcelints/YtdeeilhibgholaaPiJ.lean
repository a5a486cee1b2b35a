/- The law ParcelInts: the walk, case by case. -/
import Derived.Test.YtdeeilhibgholaaPiG
namespace Go.Proofs.Ytdeeilhibgholaa
open Go Go.RowKit Go.Lib

set_option maxRecDepth 100000 in
set_option maxHeartbeats 4000000 in
theorem pin_xic (a : Option Addr) (x : Int) (r : List Int) (cap : Nat) (s : ByteArray) (hs : s.size < 140737488351233) (hE : inE (x :: r) ≠ 0) (v : Int) (h8 : s.size = 8) (hT : tiE s.data.toList = 0) (hL : tiL s.data.toList = [v]) (w : World) (hI : IntsAt w a (x :: r)) (hr : ∀ n ∈ x :: r, n < 9223372036854775808) : Calls Try.prog 5 #[.slice a (x :: r).length cap, .string s] w fun e w' => e = .returned (.bool true) ∧ Below w.heap.size w w' := by
  have K1 : Hid (∀ w' : World, IntsAt w' a (x :: r) → Calls Try.prog 14 #[.slice a (x :: r).length cap] w' fun e w'' => e = .returned (.tuple #[.string (inS (x :: r)), .int .i64 (inE (x :: r))]) ∧ Below w'.heap.size w' w'') := fun w' h => ints_any a (x :: r) cap w' h hr
  have K2 : Hid (∀ w' : World, IntsAt w' a (x :: r) → Calls Try.prog 15 #[.slice a (x :: r).length cap] w' fun e w'' => e = .returned (.tuple #[.string (inS (x :: r)), .int .i64 (inE (x :: r))]) ∧ Below w'.heap.size w' w'') := fun w' h => rints_any a (x :: r) cap w' h hr
  have K3 : Hid (∀ w' : World, Calls Try.prog 16 #[.string s] w' fun e w'' => ∃ b c, e = .returned (.tuple #[.slice b (tiL s.data.toList).length c, .int .i64 (tiE s.data.toList)]) ∧ IntsAt w'' b (tiL s.data.toList) ∧ Below w'.heap.size w' w'') := fun w' => toInts_any s hs w'
  have K4 : Hid (∀ w' : World, Calls Try.prog 17 #[.string s] w' fun e w'' => ∃ b c, e = .returned (.tuple #[.slice b (tiL s.data.toList).length c, .int .i64 (tiE s.data.toList)]) ∧ IntsAt w'' b (tiL s.data.toList) ∧ Below w'.heap.size w' w'') := fun w' => rtoInts_any s hs w'
  have hq43 : (tiL s.data.toList).length ≤ 8796093022208 := by
    rcases tiE_or s.data.toList with h | h
    · rw [(ti_len h).1]; have := (ti_len h).2.2; omega
    · rw [h.2]; decide
  have K5 : Hid (∀ (w' : World) (b1 b2 : Option Addr) (c1 c2 : Nat), IntsAt w' b1 (tiL s.data.toList) → IntsAt w' b2 (tiL s.data.toList) → Calls Try.prog 18 #[.slice b1 (tiL s.data.toList).length c1, .slice b2 (tiL s.data.toList).length c2] w' fun e w'' => e = .returned (.bool true) ∧ Below w'.heap.size w' w'') := fun w' b1 b2 c1 c2 h1 h2 => by
    have := pints_any b1 b2 (tiL s.data.toList) (tiL s.data.toList) c1 c2 hq43 w' h1 h2
    rwa [decide_eq_true rfl] at this
  have K8 : Hid (∀ w' : World, Calls Try.prog 19 #[.string s] w' fun e w'' => e = .returned (.tuple #[.int .i64 v, .int .i64 0]) ∧ Below w'.heap.size w' w'') := fun w' => toInt_in s v h8 hT hL w'
  have K9 : Hid (∀ w' : World, Calls Try.prog 20 #[.int .i64 x] w' fun e w'' => e = .returned (.tuple #[.string (inS [x]), .int .i64 (inE [x])]) ∧ Below w'.heap.size w' w'') := fun w' => int_any x (hr x (List.mem_cons_self ..)) w'
  have K10 : Hid (∀ (w' : World) (b : Option Addr), IntsAt w' b [x] → Calls Try.prog 15 #[.slice b 1 1] w' fun e w'' => e = .returned (.tuple #[.string (inS [x]), .int .i64 (inE [x])]) ∧ Below w'.heap.size w' w'') := fun w' b h => rint_any x (hr x (List.mem_cons_self ..)) b w' h
  rw [hT] at K3 K4
  rw [hL] at K3 K4 K5
  obtain ⟨S, hS⟩ : ∃ S, S = inS (x :: r) := ⟨_, rfl⟩
  rw [← hS] at K1 K2
  obtain ⟨E, hEE⟩ : ∃ E, E = inE (x :: r) := ⟨_, rfl⟩
  rw [← hEE] at K1 K2 hE
  obtain ⟨S1, hS1⟩ : ∃ S, S = inS [x] := ⟨_, rfl⟩
  obtain ⟨E1, hE1⟩ : ∃ S, S = inE [x] := ⟨_, rfl⟩
  rw [← hS1, ← hE1] at K9 K10
  obtain ⟨l, hl⟩ : ∃ l, l = x :: r := ⟨_, rfl⟩
  obtain ⟨p, o, rfl, hc, hp⟩ := hI 0 x rfl
  rw [Nat.add_zero] at hc
  have HCC : Hid (w.cell? ⟨p, o, none⟩ = some (.int .i64 x) ∧ p < w.heap.size) := ⟨hc, hp⟩
  rw [← hl] at K1 K2 hI ⊢
  obtain ⟨n, hn⟩ : ∃ n, n = l.length := ⟨_, rfl⟩
  have n0 : (0 : Int) < (n : Int) := by rw [hn, hl]; simp
  rw [← hn] at K1 K2 ⊢
  have tb1 : (S1.toList == S1.toList) = true := by simp only [BEq.rfl]
  have tb : (S.toList == S.toList) = true := by simp only [BEq.rfl]
  have hsz : ∀ w, (Go.sizeOf 3).run Try.prog w = .ok 1 w := fun _ => by kernel_rfl
  have HI : Hid (IntsAt w (some ⟨p, o, none⟩) l) := hI
  clear hS hs hT hI hr hq43 hEE h8 hL hS1 hE1 hl hn hc hp
  go_enter Try.func5, Try.ntmps5
  go_wp2_with fail
  refine (K1.out _ HI.out).mono ?_
  rintro e w1 ⟨rfl, hb1⟩
  have H1 : Hid (IntsAt w1 (some ⟨p, o, none⟩) l ∧ Below w.heap.size w w1) := ⟨HI.out.call hb1, hb1⟩
  clear hb1 K1 HI
  go_wp2_with fail
  refine (K2.out _ H1.out.1).mono ?_
  rintro e w2 ⟨rfl, hb2⟩
  have H2 : Hid (IntsAt w2 (some ⟨p, o, none⟩) l ∧ Below w.heap.size w w2) := ⟨H1.out.1.call hb2, below_call0 H1.out.2 hb2⟩
  clear hb2 K2 H1
  go_wp2_with fail
  refine (K3.out _).mono ?_
  rintro e w3 ⟨b1, c1, rfl, hI3, hb3⟩
  have H3 : Hid (IntsAt w3 (some ⟨p, o, none⟩) l ∧ Below w.heap.size w w3 ∧ IntsAt w3 b1 [v]) := ⟨H2.out.1.call hb3, below_call0 H2.out.2 hb3, hI3⟩
  clear hb3 hI3 K3 H2
  go_wp2_with fail
  refine (K4.out _).mono ?_
  rintro e w4 ⟨b2, c2, rfl, hI4, hb4⟩
  have H4 : Hid (IntsAt w4 (some ⟨p, o, none⟩) l ∧ Below w.heap.size w w4 ∧ IntsAt w4 b1 [v] ∧ IntsAt w4 b2 [v]) := ⟨H3.out.1.call hb4, below_call0 H3.out.2.1 hb4, H3.out.2.2.call hb4, hI4⟩
  clear hb4 hI4 K4 H3
  go_wp2_with fail
  refine (K5.out _ _ _ _ _ H4.out.2.2.1 H4.out.2.2.2).mono ?_
  rintro e w5 ⟨rfl, hb5⟩
  have H5 : Hid (IntsAt w5 (some ⟨p, o, none⟩) l ∧ Below w.heap.size w w5 ∧ IntsAt w5 b2 [v]) := ⟨H4.out.1.call hb5, below_call0 H4.out.2.1 hb5, H4.out.2.2.2.call hb5⟩
  clear hb5 K5 H4
  go_wp2_with fail
  refine (K8.out _).mono ?_
  rintro e w8 ⟨rfl, hb8⟩
  have H8 : Hid (IntsAt w8 (some ⟨p, o, none⟩) l ∧ Below w.heap.size w w8 ∧ IntsAt w8 b2 [v]) := ⟨H5.out.1.call hb8, below_call0 H5.out.2.1 hb8, H5.out.2.2.call hb8⟩
  clear hb8 K8 H5
  obtain ⟨p2, o2, rfl, hc2, hp2⟩ := H8.out.2.2 0 v rfl
  rw [Nat.add_zero] at hc2
  go_wp2_with fail
  rename_i Kr hKr
  have HKr : Hid _ := hKr
  clear hKr
  have hcx : w8.cell? ⟨p, o, none⟩ = some (.int .i64 x) := (H8.out.2.1.cell (p := ⟨p, o, none⟩) HCC.out.2).trans HCC.out.1
  go_loopw [113] (fun iv wr => iv = .int .i64 0 ∧ w8 = wr) (fun _ _ => 0)
  case atStart => exact ⟨rfl, rfl⟩
  case round =>
    obtain ⟨rfl, rfl⟩ := hrel
    go_wp2_with fail
    refine (K9.out _).mono ?_
    rintro e w9 ⟨rfl, hb9⟩
    have H9 : Hid (Below w.heap.size w w9) := below_call0 H8.out.2.1 hb9
    clear hb9 hcx K9
    go_wp2_with fail
    refine (K10.out _ _ (IntsAt.one _ _ _)).mono ?_
    rintro e w10 ⟨rfl, hb10⟩
    have H10 : Hid (Below w.heap.size w w10) := below_call0 (below_alloc0 H9.out _) hb10
    clear hb10 K10
    go_wp2_with fail
    refine HKr.out _ _ ?_
    clear HKr
    go_wp2_with fail
    refine (two_any _).mono ?_
    rintro e w11 ⟨rfl, hb11⟩
    have H11 : Hid (Below w.heap.size w w11) := below_call0 H10.out hb11
    clear hb11
    go_wp2_with fail
    go_ret
    exact ⟨rfl, H11.out⟩
set_option maxRecDepth 100000 in
set_option maxHeartbeats 4000000 in
theorem pin_xnc (a : Option Addr) (x : Int) (r : List Int) (cap : Nat) (s : ByteArray) (hs : s.size < 140737488351233) (hE : inE (x :: r) ≠ 0) (hT : tiE s.data.toList = 0) (hq : (tiL s.data.toList).length ≠ 1) (h8 : s.size ≠ 8) (w : World) (hI : IntsAt w a (x :: r)) (hr : ∀ n ∈ x :: r, n < 9223372036854775808) : Calls Try.prog 5 #[.slice a (x :: r).length cap, .string s] w fun e w' => e = .returned (.bool true) ∧ Below w.heap.size w w' := by
  have K1 : Hid (∀ w' : World, IntsAt w' a (x :: r) → Calls Try.prog 14 #[.slice a (x :: r).length cap] w' fun e w'' => e = .returned (.tuple #[.string (inS (x :: r)), .int .i64 (inE (x :: r))]) ∧ Below w'.heap.size w' w'') := fun w' h => ints_any a (x :: r) cap w' h hr
  have K2 : Hid (∀ w' : World, IntsAt w' a (x :: r) → Calls Try.prog 15 #[.slice a (x :: r).length cap] w' fun e w'' => e = .returned (.tuple #[.string (inS (x :: r)), .int .i64 (inE (x :: r))]) ∧ Below w'.heap.size w' w'') := fun w' h => rints_any a (x :: r) cap w' h hr
  have K3 : Hid (∀ w' : World, Calls Try.prog 16 #[.string s] w' fun e w'' => ∃ b c, e = .returned (.tuple #[.slice b (tiL s.data.toList).length c, .int .i64 (tiE s.data.toList)]) ∧ IntsAt w'' b (tiL s.data.toList) ∧ Below w'.heap.size w' w'') := fun w' => toInts_any s hs w'
  have K4 : Hid (∀ w' : World, Calls Try.prog 17 #[.string s] w' fun e w'' => ∃ b c, e = .returned (.tuple #[.slice b (tiL s.data.toList).length c, .int .i64 (tiE s.data.toList)]) ∧ IntsAt w'' b (tiL s.data.toList) ∧ Below w'.heap.size w' w'') := fun w' => rtoInts_any s hs w'
  have hq43 : (tiL s.data.toList).length ≤ 8796093022208 := by
    rcases tiE_or s.data.toList with h | h
    · rw [(ti_len h).1]; have := (ti_len h).2.2; omega
    · rw [h.2]; decide
  have K5 : Hid (∀ (w' : World) (b1 b2 : Option Addr) (c1 c2 : Nat), IntsAt w' b1 (tiL s.data.toList) → IntsAt w' b2 (tiL s.data.toList) → Calls Try.prog 18 #[.slice b1 (tiL s.data.toList).length c1, .slice b2 (tiL s.data.toList).length c2] w' fun e w'' => e = .returned (.bool true) ∧ Below w'.heap.size w' w'') := fun w' b1 b2 c1 c2 h1 h2 => by
    have := pints_any b1 b2 (tiL s.data.toList) (tiL s.data.toList) c1 c2 hq43 w' h1 h2
    rwa [decide_eq_true rfl] at this
  have K8 : Hid (∀ w' : World, Calls Try.prog 19 #[.string s] w' fun e w'' => e = .returned (.tuple #[.int .i64 0, .int .i64 4]) ∧ Below w'.heap.size w' w'') := fun w' => toInt_size s h8 w'
  have K9 : Hid (∀ w' : World, Calls Try.prog 20 #[.int .i64 x] w' fun e w'' => e = .returned (.tuple #[.string (inS [x]), .int .i64 (inE [x])]) ∧ Below w'.heap.size w' w'') := fun w' => int_any x (hr x (List.mem_cons_self ..)) w'
  have K10 : Hid (∀ (w' : World) (b : Option Addr), IntsAt w' b [x] → Calls Try.prog 15 #[.slice b 1 1] w' fun e w'' => e = .returned (.tuple #[.string (inS [x]), .int .i64 (inE [x])]) ∧ Below w'.heap.size w' w'') := fun w' b h => rint_any x (hr x (List.mem_cons_self ..)) b w' h
  rw [hT] at K3 K4
  obtain ⟨L, hLL⟩ : ∃ L, L = tiL s.data.toList := ⟨_, rfl⟩
  rw [← hLL] at K3 K4 K5 hq
  obtain ⟨q, hqq⟩ : ∃ q, q = L.length := ⟨_, rfl⟩
  rw [← hqq] at K3 K4 K5 hq
  have hq1 : ¬ ((q : Int) = 1) := by omega
  have hq2 : ¬ (q = 1) := hq
  obtain ⟨S, hS⟩ : ∃ S, S = inS (x :: r) := ⟨_, rfl⟩
  rw [← hS] at K1 K2
  obtain ⟨E, hEE⟩ : ∃ E, E = inE (x :: r) := ⟨_, rfl⟩
  rw [← hEE] at K1 K2 hE
  obtain ⟨S1, hS1⟩ : ∃ S, S = inS [x] := ⟨_, rfl⟩
  obtain ⟨E1, hE1⟩ : ∃ S, S = inE [x] := ⟨_, rfl⟩
  rw [← hS1, ← hE1] at K9 K10
  obtain ⟨l, hl⟩ : ∃ l, l = x :: r := ⟨_, rfl⟩
  obtain ⟨p, o, rfl, hc, hp⟩ := hI 0 x rfl
  rw [Nat.add_zero] at hc
  have HCC : Hid (w.cell? ⟨p, o, none⟩ = some (.int .i64 x) ∧ p < w.heap.size) := ⟨hc, hp⟩
  rw [← hl] at K1 K2 hI ⊢
  obtain ⟨n, hn⟩ : ∃ n, n = l.length := ⟨_, rfl⟩
  have n0 : (0 : Int) < (n : Int) := by rw [hn, hl]; simp
  rw [← hn] at K1 K2 ⊢
  have tb1 : (S1.toList == S1.toList) = true := by simp only [BEq.rfl]
  have tb : (S.toList == S.toList) = true := by simp only [BEq.rfl]
  have hsz : ∀ w, (Go.sizeOf 3).run Try.prog w = .ok 1 w := fun _ => by kernel_rfl
  have HI : Hid (IntsAt w (some ⟨p, o, none⟩) l) := hI
  clear hS hs hT hI hr hq43 hEE h8 hLL hqq hq hS1 hE1 hl hn hc hp
  go_enter Try.func5, Try.ntmps5
  go_wp2_with fail
  refine (K1.out _ HI.out).mono ?_
  rintro e w1 ⟨rfl, hb1⟩
  have H1 : Hid (IntsAt w1 (some ⟨p, o, none⟩) l ∧ Below w.heap.size w w1) := ⟨HI.out.call hb1, hb1⟩
  clear hb1 K1 HI
  go_wp2_with fail
  refine (K2.out _ H1.out.1).mono ?_
  rintro e w2 ⟨rfl, hb2⟩
  have H2 : Hid (IntsAt w2 (some ⟨p, o, none⟩) l ∧ Below w.heap.size w w2) := ⟨H1.out.1.call hb2, below_call0 H1.out.2 hb2⟩
  clear hb2 K2 H1
  go_wp2_with fail
  refine (K3.out _).mono ?_
  rintro e w3 ⟨b1, c1, rfl, hI3, hb3⟩
  have H3 : Hid (IntsAt w3 (some ⟨p, o, none⟩) l ∧ Below w.heap.size w w3 ∧ IntsAt w3 b1 L) := ⟨H2.out.1.call hb3, below_call0 H2.out.2 hb3, hI3⟩
  clear hb3 hI3 K3 H2
  go_wp2_with fail
  refine (K4.out _).mono ?_
  rintro e w4 ⟨b2, c2, rfl, hI4, hb4⟩
  have H4 : Hid (IntsAt w4 (some ⟨p, o, none⟩) l ∧ Below w.heap.size w w4 ∧ IntsAt w4 b1 L ∧ IntsAt w4 b2 L) := ⟨H3.out.1.call hb4, below_call0 H3.out.2.1 hb4, H3.out.2.2.call hb4, hI4⟩
  clear hb4 hI4 K4 H3
  go_wp2_with fail
  refine (K5.out _ _ _ _ _ H4.out.2.2.1 H4.out.2.2.2).mono ?_
  rintro e w5 ⟨rfl, hb5⟩
  have H5 : Hid (IntsAt w5 (some ⟨p, o, none⟩) l ∧ Below w.heap.size w w5 ∧ IntsAt w5 b2 L) := ⟨H4.out.1.call hb5, below_call0 H4.out.2.1 hb5, H4.out.2.2.2.call hb5⟩
  clear hb5 K5 H4
  go_wp2_with fail
  refine (K8.out _).mono ?_
  rintro e w8 ⟨rfl, hb8⟩
  have H8 : Hid (IntsAt w8 (some ⟨p, o, none⟩) l ∧ Below w.heap.size w w8 ∧ IntsAt w8 b2 L) := ⟨H5.out.1.call hb8, below_call0 H5.out.2.1 hb8, H5.out.2.2.call hb8⟩
  clear hb8 K8 H5
  go_wp2_with fail
  rename_i Kr hKr
  have HKr : Hid _ := hKr
  clear hKr
  have hcx : w8.cell? ⟨p, o, none⟩ = some (.int .i64 x) := (H8.out.2.1.cell (p := ⟨p, o, none⟩) HCC.out.2).trans HCC.out.1
  go_loopw [113] (fun iv wr => iv = .int .i64 0 ∧ w8 = wr) (fun _ _ => 0)
  case atStart => exact ⟨rfl, rfl⟩
  case round =>
    obtain ⟨rfl, rfl⟩ := hrel
    go_wp2_with fail
    refine (K9.out _).mono ?_
    rintro e w9 ⟨rfl, hb9⟩
    have H9 : Hid (Below w.heap.size w w9) := below_call0 H8.out.2.1 hb9
    clear hb9 hcx K9
    go_wp2_with fail
    refine (K10.out _ _ (IntsAt.one _ _ _)).mono ?_
    rintro e w10 ⟨rfl, hb10⟩
    have H10 : Hid (Below w.heap.size w w10) := below_call0 (below_alloc0 H9.out _) hb10
    clear hb10 K10
    go_wp2_with fail
    refine HKr.out _ _ ?_
    clear HKr
    go_wp2_with fail
    refine (two_any _).mono ?_
    rintro e w11 ⟨rfl, hb11⟩
    have H11 : Hid (Below w.heap.size w w11) := below_call0 H10.out hb11
    clear hb11
    go_wp2_with fail
    go_ret
    exact ⟨rfl, H11.out⟩
set_option maxRecDepth 100000 in
set_option maxHeartbeats 4000000 in
theorem pin_xbc (a : Option Addr) (x : Int) (r : List Int) (cap : Nat) (s : ByteArray) (hs : s.size < 140737488351233) (hE : inE (x :: r) ≠ 0) (hT : tiE s.data.toList = 4) (hL : tiL s.data.toList = []) (w : World) (hI : IntsAt w a (x :: r)) (hr : ∀ n ∈ x :: r, n < 9223372036854775808) : Calls Try.prog 5 #[.slice a (x :: r).length cap, .string s] w fun e w' => e = .returned (.bool true) ∧ Below w.heap.size w w' := by
  have K1 : Hid (∀ w' : World, IntsAt w' a (x :: r) → Calls Try.prog 14 #[.slice a (x :: r).length cap] w' fun e w'' => e = .returned (.tuple #[.string (inS (x :: r)), .int .i64 (inE (x :: r))]) ∧ Below w'.heap.size w' w'') := fun w' h => ints_any a (x :: r) cap w' h hr
  have K2 : Hid (∀ w' : World, IntsAt w' a (x :: r) → Calls Try.prog 15 #[.slice a (x :: r).length cap] w' fun e w'' => e = .returned (.tuple #[.string (inS (x :: r)), .int .i64 (inE (x :: r))]) ∧ Below w'.heap.size w' w'') := fun w' h => rints_any a (x :: r) cap w' h hr
  have K3 : Hid (∀ w' : World, Calls Try.prog 16 #[.string s] w' fun e w'' => ∃ b c, e = .returned (.tuple #[.slice b (tiL s.data.toList).length c, .int .i64 (tiE s.data.toList)]) ∧ IntsAt w'' b (tiL s.data.toList) ∧ Below w'.heap.size w' w'') := fun w' => toInts_any s hs w'
  have K4 : Hid (∀ w' : World, Calls Try.prog 17 #[.string s] w' fun e w'' => ∃ b c, e = .returned (.tuple #[.slice b (tiL s.data.toList).length c, .int .i64 (tiE s.data.toList)]) ∧ IntsAt w'' b (tiL s.data.toList) ∧ Below w'.heap.size w' w'') := fun w' => rtoInts_any s hs w'
  have hq43 : (tiL s.data.toList).length ≤ 8796093022208 := by
    rcases tiE_or s.data.toList with h | h
    · rw [(ti_len h).1]; have := (ti_len h).2.2; omega
    · rw [h.2]; decide
  have K5 : Hid (∀ (w' : World) (b1 b2 : Option Addr) (c1 c2 : Nat), IntsAt w' b1 (tiL s.data.toList) → IntsAt w' b2 (tiL s.data.toList) → Calls Try.prog 18 #[.slice b1 (tiL s.data.toList).length c1, .slice b2 (tiL s.data.toList).length c2] w' fun e w'' => e = .returned (.bool true) ∧ Below w'.heap.size w' w'') := fun w' b1 b2 c1 c2 h1 h2 => by
    have := pints_any b1 b2 (tiL s.data.toList) (tiL s.data.toList) c1 c2 hq43 w' h1 h2
    rwa [decide_eq_true rfl] at this
  have K8 : Hid (∀ w' : World, Calls Try.prog 19 #[.string s] w' fun e w'' => e = .returned (.tuple #[.int .i64 0, .int .i64 4]) ∧ Below w'.heap.size w' w'') := fun w' => toInt_bad s hs hT hL w'
  have K9 : Hid (∀ w' : World, Calls Try.prog 20 #[.int .i64 x] w' fun e w'' => e = .returned (.tuple #[.string (inS [x]), .int .i64 (inE [x])]) ∧ Below w'.heap.size w' w'') := fun w' => int_any x (hr x (List.mem_cons_self ..)) w'
  have K10 : Hid (∀ (w' : World) (b : Option Addr), IntsAt w' b [x] → Calls Try.prog 15 #[.slice b 1 1] w' fun e w'' => e = .returned (.tuple #[.string (inS [x]), .int .i64 (inE [x])]) ∧ Below w'.heap.size w' w'') := fun w' b h => rint_any x (hr x (List.mem_cons_self ..)) b w' h
  rw [hT] at K3 K4
  rw [hL] at K3 K4 K5
  obtain ⟨S, hS⟩ : ∃ S, S = inS (x :: r) := ⟨_, rfl⟩
  rw [← hS] at K1 K2
  obtain ⟨E, hEE⟩ : ∃ E, E = inE (x :: r) := ⟨_, rfl⟩
  rw [← hEE] at K1 K2 hE
  obtain ⟨S1, hS1⟩ : ∃ S, S = inS [x] := ⟨_, rfl⟩
  obtain ⟨E1, hE1⟩ : ∃ S, S = inE [x] := ⟨_, rfl⟩
  rw [← hS1, ← hE1] at K9 K10
  obtain ⟨l, hl⟩ : ∃ l, l = x :: r := ⟨_, rfl⟩
  obtain ⟨p, o, rfl, hc, hp⟩ := hI 0 x rfl
  rw [Nat.add_zero] at hc
  have HCC : Hid (w.cell? ⟨p, o, none⟩ = some (.int .i64 x) ∧ p < w.heap.size) := ⟨hc, hp⟩
  rw [← hl] at K1 K2 hI ⊢
  obtain ⟨n, hn⟩ : ∃ n, n = l.length := ⟨_, rfl⟩
  have n0 : (0 : Int) < (n : Int) := by rw [hn, hl]; simp
  rw [← hn] at K1 K2 ⊢
  have tb1 : (S1.toList == S1.toList) = true := by simp only [BEq.rfl]
  have tb : (S.toList == S.toList) = true := by simp only [BEq.rfl]
  have hsz : ∀ w, (Go.sizeOf 3).run Try.prog w = .ok 1 w := fun _ => by kernel_rfl
  have HI : Hid (IntsAt w (some ⟨p, o, none⟩) l) := hI
  clear hS hs hT hI hr hq43 hEE hL hS1 hE1 hl hn hc hp
  go_enter Try.func5, Try.ntmps5
  go_wp2_with fail
  refine (K1.out _ HI.out).mono ?_
  rintro e w1 ⟨rfl, hb1⟩
  have H1 : Hid (IntsAt w1 (some ⟨p, o, none⟩) l ∧ Below w.heap.size w w1) := ⟨HI.out.call hb1, hb1⟩
  clear hb1 K1 HI
  go_wp2_with fail
  refine (K2.out _ H1.out.1).mono ?_
  rintro e w2 ⟨rfl, hb2⟩
  have H2 : Hid (IntsAt w2 (some ⟨p, o, none⟩) l ∧ Below w.heap.size w w2) := ⟨H1.out.1.call hb2, below_call0 H1.out.2 hb2⟩
  clear hb2 K2 H1
  go_wp2_with fail
  refine (K3.out _).mono ?_
  rintro e w3 ⟨b1, c1, rfl, hI3, hb3⟩
  have H3 : Hid (IntsAt w3 (some ⟨p, o, none⟩) l ∧ Below w.heap.size w w3 ∧ IntsAt w3 b1 []) := ⟨H2.out.1.call hb3, below_call0 H2.out.2 hb3, hI3⟩
  clear hb3 hI3 K3 H2
  go_wp2_with fail
  refine (K4.out _).mono ?_
  rintro e w4 ⟨b2, c2, rfl, hI4, hb4⟩
  have H4 : Hid (IntsAt w4 (some ⟨p, o, none⟩) l ∧ Below w.heap.size w w4 ∧ IntsAt w4 b1 [] ∧ IntsAt w4 b2 []) := ⟨H3.out.1.call hb4, below_call0 H3.out.2.1 hb4, H3.out.2.2.call hb4, hI4⟩
  clear hb4 hI4 K4 H3
  go_wp2_with fail
  refine (K5.out _ _ _ _ _ H4.out.2.2.1 H4.out.2.2.2).mono ?_
  rintro e w5 ⟨rfl, hb5⟩
  have H5 : Hid (IntsAt w5 (some ⟨p, o, none⟩) l ∧ Below w.heap.size w w5 ∧ IntsAt w5 b2 []) := ⟨H4.out.1.call hb5, below_call0 H4.out.2.1 hb5, H4.out.2.2.2.call hb5⟩
  clear hb5 K5 H4
  go_wp2_with fail
  refine (K8.out _).mono ?_
  rintro e w8 ⟨rfl, hb8⟩
  have H8 : Hid (IntsAt w8 (some ⟨p, o, none⟩) l ∧ Below w.heap.size w w8 ∧ IntsAt w8 b2 []) := ⟨H5.out.1.call hb8, below_call0 H5.out.2.1 hb8, H5.out.2.2.call hb8⟩
  clear hb8 K8 H5
  go_wp2_with fail
  rename_i Kr hKr
  have HKr : Hid _ := hKr
  clear hKr
  have hcx : w8.cell? ⟨p, o, none⟩ = some (.int .i64 x) := (H8.out.2.1.cell (p := ⟨p, o, none⟩) HCC.out.2).trans HCC.out.1
  go_loopw [113] (fun iv wr => iv = .int .i64 0 ∧ w8 = wr) (fun _ _ => 0)
  case atStart => exact ⟨rfl, rfl⟩
  case round =>
    obtain ⟨rfl, rfl⟩ := hrel
    go_wp2_with fail
    refine (K9.out _).mono ?_
    rintro e w9 ⟨rfl, hb9⟩
    have H9 : Hid (Below w.heap.size w w9) := below_call0 H8.out.2.1 hb9
    clear hb9 hcx K9
    go_wp2_with fail
    refine (K10.out _ _ (IntsAt.one _ _ _)).mono ?_
    rintro e w10 ⟨rfl, hb10⟩
    have H10 : Hid (Below w.heap.size w w10) := below_call0 (below_alloc0 H9.out _) hb10
    clear hb10 K10
    go_wp2_with fail
    refine HKr.out _ _ ?_
    clear HKr
    go_wp2_with fail
    refine (two_any _).mono ?_
    rintro e w11 ⟨rfl, hb11⟩
    have H11 : Hid (Below w.heap.size w w11) := below_call0 H10.out hb11
    clear hb11
    go_wp2_with fail
    go_ret
    exact ⟨rfl, H11.out⟩
end Go.Proofs.Ytdeeilhibgholaa
