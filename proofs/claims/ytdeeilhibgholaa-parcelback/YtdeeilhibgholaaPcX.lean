/- The laws ParcelBack and ParcelApart: the walks. -/
import Derived.Test.YtdeeilhibgholaaPcW
import Derived.Test.YtdeeilhibgholaaPcL
namespace Go.Proofs.Ytdeeilhibgholaa
open Go Go.RowKit Go.Lib

theorem ba_whole (a : ByteArray) : a.extract 0 a.size = a := by
  apply ba_ext
  rw [ba_extract, Nat.sub_zero, List.drop_zero, ← ba_len]
  exact List.take_of_length_le (Nat.le_refl _)
theorem pkE_zero {k : Int} {l : List ByteArray} (h : pkE k l = 0) : ∃ m : Nat, k = (m : Nat) ∧ kindB (m : Nat) = true ∧ fitB l = true ∧ pkS k l = ofL (packL m l) := by
  unfold pkE at h
  rcases Bool.eq_false_or_eq_true (kindB k) with hk | hk
  · rcases Bool.eq_false_or_eq_true (fitB l) with hf | hf
    · have hk' : 1 ≤ k ∧ k ≤ 63 := of_decide_eq_true hk
      obtain ⟨m, rfl⟩ : ∃ m : Nat, k = (m : Nat) := ⟨k.toNat, by omega⟩
      exact ⟨m, rfl, hk, hf, (pk_yes hk hf).1⟩
    · rw [hk, hf] at h; exact absurd h (by decide)
  · rw [hk] at h; exact absurd (show (1 : Int) = 0 from h) (by decide)
/-- What was packed, unpacked: the contract. -/
theorem unpack_packed {k : Int} {l : List ByteArray} (h : pkE k l = 0) (w : World) : Calls Try.prog 11 #[.string (pkS k l)] w fun e w' => ∃ a cap, e = .returned (.tuple #[.int .i64 k, .slice a l.length cap, .int .i64 0]) ∧ Strs w' a l ∧ Below w.heap.size w w' := by
  obtain ⟨m, rfl, hk, hf, e⟩ := pkE_zero h
  rw [e]
  obtain ⟨g1, g2, g3⟩ := up_pack hk hf
  have hz : (ofL (packL m l)).size < 140737488351233 := by
    unfold fitB at hf
    simp only [Bool.and_eq_true, decide_eq_true_eq] at hf
    rw [ofL_size]
    unfold packL
    simp only [List.length_cons, itemsL_length]
    omega
  have := unpack_any (ofL (packL m l)) hz w
  unfold upPost at this
  rw [ofL_data, g1, g2, g3] at this
  exact this
/-- What was unpacked, packed: the contract. -/
theorem pack_unpacked {s : ByteArray} (h : upE s.data.toList = 0) (a : Option Addr) (cap : Nat) (w : World) (hS : Strs w a (upL s.data.toList)) : Calls Try.prog 8 #[.int .i64 (upK s.data.toList), .slice a (upL s.data.toList).length cap] w fun e w' => e = .returned (.tuple #[.string s, .int .i64 0]) ∧ Below w.heap.size w w' := by
  obtain ⟨g1, g2, g3⟩ := pack_up h
  have hz : ∀ t ∈ upL s.data.toList, t.size < 140737488351233 := fun t ht => by
    unfold fitB at g2
    simp only [Bool.and_eq_true, decide_eq_true_eq] at g2
    have := List.all_eq_true.1 g2.1.2 t ht
    have : t.size ≤ 8000 := by simpa using this
    omega
  have := pack_any (upK s.data.toList) a (upL s.data.toList) cap w hS hz
  have e1 : pkS (upK s.data.toList) (upL s.data.toList) = s := by
    unfold pkS; rw [g1, g2, g3]; exact ofL_of s
  have e2 : pkE (upK s.data.toList) (upL s.data.toList) = 0 := by
    unfold pkE; rw [g1, g2]; rfl
  rw [e1, e2] at this
  exact this
set_option maxRecDepth 100000 in
set_option maxHeartbeats 2000000 in
theorem back_00 (k : Int) (a : Option Addr) (l : List ByteArray) (cap : Nat) (s : ByteArray) (hs : s.size < 140737488351233) (hE : pkE k l ≠ 0) (hU : upE s.data.toList ≠ 0) (w : World) (hS : Strs w a l) (hz : ∀ s ∈ l, s.size < 140737488351233) :
    Calls Try.prog 6 #[.int .i64 k, .slice a l.length cap, .string s] w fun e w' => e = .returned (.bool true) ∧ Below w.heap.size w w' := by
  have K1 : Hid _ := fun (w' : World) (h : Strs w' a l) => pack_any k a l cap w' h hz
  have K4 : Hid (∀ w' : World, Calls Try.prog 11 #[.string s] w' fun e w'' => ∃ b c, e = .returned (.tuple #[.int .i64 (upK s.data.toList), .slice b (upL s.data.toList).length c, .int .i64 (upE s.data.toList)]) ∧ Strs w'' b (upL s.data.toList) ∧ Below w'.heap.size w' w'') := fun w' => unpack_any s hs w'
  obtain ⟨g1, g2, -⟩ := up_no rfl hU
  rw [g1, g2] at K4
  obtain ⟨V, hV⟩ : ∃ V, V = upE s.data.toList := ⟨_, rfl⟩
  rw [← hV] at K4 hU
  obtain ⟨n, hn⟩ : ∃ n, n = l.length := ⟨_, rfl⟩
  obtain ⟨P, hP⟩ : ∃ S, S = pkS k l := ⟨_, rfl⟩
  obtain ⟨E, hEE⟩ : ∃ E, E = pkE k l := ⟨_, rfl⟩
  rw [← hn, ← hP, ← hEE] at K1
  rw [← hEE] at hE
  rw [← hn]
  have HS : Hid (Strs w a l) := hS
  clear hn hP hEE hS hz hs hV g1 g2
  go_enter Try.func6, Try.ntmps6
  go_wp2_with fail
  refine (K1.out _ HS.out).mono ?_
  rintro e w1 ⟨rfl, hb1⟩
  have H1 : Hid (Strs w1 a l ∧ Below w.heap.size w w1) := ⟨HS.out.call hb1, hb1⟩
  clear hb1 HS K1
  go_wp2_with fail
  refine (K4.out _).mono ?_
  rintro e w4 ⟨b4, c4, rfl, hS4, hb4⟩
  have H4 : Hid (Strs w4 b4 [] ∧ Below w.heap.size w w4) := ⟨hS4, below_call0 H1.out.2 hb4⟩
  clear hb4 hS4 H1 K4
  go_wp2_with fail
  refine (two_any _).mono ?_
  rintro e w9 ⟨rfl, hb9⟩
  have H9 : Hid (Below w.heap.size w w9) := below_call0 H4.out.2 hb9
  clear hb9
  go_wp2_with fail
  go_ret
  exact ⟨rfl, H9.out⟩
set_option maxRecDepth 100000 in
set_option maxHeartbeats 2000000 in
theorem back_01 (k : Int) (a : Option Addr) (l : List ByteArray) (cap : Nat) (s : ByteArray) (hs : s.size < 140737488351233) (hE : pkE k l ≠ 0) (hU : upE s.data.toList = 0) (w : World) (hS : Strs w a l) (hz : ∀ s ∈ l, s.size < 140737488351233) :
    Calls Try.prog 6 #[.int .i64 k, .slice a l.length cap, .string s] w fun e w' => e = .returned (.bool true) ∧ Below w.heap.size w w' := by
  have K1 : Hid _ := fun (w' : World) (h : Strs w' a l) => pack_any k a l cap w' h hz
  have K5 : Hid _ := fun (w' : World) (b : Option Addr) (c : Nat) (h : Strs w' b (upL s.data.toList)) => pack_unpacked hU b c w' h
  have tb : (s.toList == s.toList) = true := by simp only [BEq.rfl]
  have K4 : Hid (∀ w' : World, Calls Try.prog 11 #[.string s] w' fun e w'' => ∃ b c, e = .returned (.tuple #[.int .i64 (upK s.data.toList), .slice b (upL s.data.toList).length c, .int .i64 (upE s.data.toList)]) ∧ Strs w'' b (upL s.data.toList) ∧ Below w'.heap.size w' w'') := fun w' => unpack_any s hs w'
  rw [hU] at K4
  obtain ⟨L, hL⟩ : ∃ L, L = upL s.data.toList := ⟨_, rfl⟩
  obtain ⟨U, hUU⟩ : ∃ U, U = upK s.data.toList := ⟨_, rfl⟩
  rw [← hL, ← hUU] at K4 K5
  obtain ⟨n, hn⟩ : ∃ n, n = l.length := ⟨_, rfl⟩
  obtain ⟨P, hP⟩ : ∃ S, S = pkS k l := ⟨_, rfl⟩
  obtain ⟨E, hEE⟩ : ∃ E, E = pkE k l := ⟨_, rfl⟩
  rw [← hn, ← hP, ← hEE] at K1
  rw [← hEE] at hE
  rw [← hn]
  have HS : Hid (Strs w a l) := hS
  clear hn hP hEE hS hz hs hL hUU hU
  go_enter Try.func6, Try.ntmps6
  go_wp2_with fail
  refine (K1.out _ HS.out).mono ?_
  rintro e w1 ⟨rfl, hb1⟩
  have H1 : Hid (Strs w1 a l ∧ Below w.heap.size w w1) := ⟨HS.out.call hb1, hb1⟩
  clear hb1 HS K1
  go_wp2_with fail
  refine (K4.out _).mono ?_
  rintro e w4 ⟨b4, c4, rfl, hS4, hb4⟩
  have H4 : Hid (Strs w4 b4 L ∧ Below w.heap.size w w4) := ⟨hS4, below_call0 H1.out.2 hb4⟩
  clear hb4 hS4 H1 K4
  go_wp2_with fail
  refine (K5.out _ _ _ H4.out.1).mono ?_
  rintro e w5 ⟨rfl, hb5⟩
  have H5 : Hid (Below w.heap.size w w5) := below_call0 H4.out.2 hb5
  clear hb5 H4 K5
  go_wp2_with fail
  refine (two_any _).mono ?_
  rintro e w9 ⟨rfl, hb9⟩
  have H9 : Hid (Below w.heap.size w w9) := below_call0 H5.out hb9
  clear hb9
  go_wp2_with fail
  go_ret
  exact ⟨rfl, H9.out⟩
set_option maxRecDepth 100000 in
set_option maxHeartbeats 2000000 in
theorem back_10 (k : Int) (a : Option Addr) (l : List ByteArray) (cap : Nat) (s : ByteArray) (hs : s.size < 140737488351233) (hE : pkE k l = 0) (hU : upE s.data.toList ≠ 0) (w : World) (hS : Strs w a l) (hz : ∀ s ∈ l, s.size < 140737488351233) (hlen : l.length ≤ 8796093022208) :
    Calls Try.prog 6 #[.int .i64 k, .slice a l.length cap, .string s] w fun e w' => e = .returned (.bool true) ∧ Below w.heap.size w w' := by
  have K1 : Hid _ := fun (w' : World) (h : Strs w' a l) => pack_any k a l cap w' h hz
  have K2 : Hid _ := fun (w' : World) => unpack_packed hE w'
  have K3 : Hid _ := fun (w' : World) (b : Option Addr) (c : Nat) (h1 : Strs w' b l) (h2 : Strs w' a l) => texts_any b a l l c cap hlen w' h1 h2
  rw [decide_eq_true rfl] at K3
  have K4 : Hid (∀ w' : World, Calls Try.prog 11 #[.string s] w' fun e w'' => ∃ b c, e = .returned (.tuple #[.int .i64 (upK s.data.toList), .slice b (upL s.data.toList).length c, .int .i64 (upE s.data.toList)]) ∧ Strs w'' b (upL s.data.toList) ∧ Below w'.heap.size w' w'') := fun w' => unpack_any s hs w'
  obtain ⟨g1, g2, -⟩ := up_no rfl hU
  rw [g1, g2] at K4
  obtain ⟨V, hV⟩ : ∃ V, V = upE s.data.toList := ⟨_, rfl⟩
  rw [← hV] at K4 hU
  obtain ⟨n, hn⟩ : ∃ n, n = l.length := ⟨_, rfl⟩
  obtain ⟨P, hP⟩ : ∃ S, S = pkS k l := ⟨_, rfl⟩
  obtain ⟨E, hEE⟩ : ∃ E, E = pkE k l := ⟨_, rfl⟩
  rw [← hn, ← hP, ← hEE] at K1
  rw [← hEE] at hE
  rw [← hn]
  rw [← hn, ← hP] at K2
  rw [← hn] at K3
  subst hE
  have HS : Hid (Strs w a l) := hS
  clear hn hP hEE hS hz hlen hs hV g1 g2
  go_enter Try.func6, Try.ntmps6
  go_wp2_with fail
  refine (K1.out _ HS.out).mono ?_
  rintro e w1 ⟨rfl, hb1⟩
  have H1 : Hid (Strs w1 a l ∧ Below w.heap.size w w1) := ⟨HS.out.call hb1, hb1⟩
  clear hb1 HS K1
  go_wp2_with fail
  refine (K2.out _).mono ?_
  rintro e w2 ⟨b, c, rfl, hS2, hb2⟩
  have H2 : Hid (Strs w2 a l ∧ Below w.heap.size w w2 ∧ Strs w2 b l) := ⟨H1.out.1.call hb2, below_call0 H1.out.2 hb2, hS2⟩
  clear hb2 hS2 H1 K2
  go_wp2_with fail
  refine (K3.out _ _ _ H2.out.2.2 H2.out.1).mono ?_
  rintro e w3 ⟨rfl, hb3⟩
  have H3 : Hid (Strs w3 a l ∧ Below w.heap.size w w3) := ⟨H2.out.1.call hb3, below_call0 H2.out.2.1 hb3⟩
  clear hb3 H2 K3
  go_wp2_with fail
  refine (K4.out _).mono ?_
  rintro e w4 ⟨b4, c4, rfl, hS4, hb4⟩
  have H4 : Hid (Strs w4 b4 [] ∧ Below w.heap.size w w4) := ⟨hS4, below_call0 H3.out.2 hb4⟩
  clear hb4 hS4 H3 K4
  go_wp2_with fail
  refine (two_any _).mono ?_
  rintro e w9 ⟨rfl, hb9⟩
  have H9 : Hid (Below w.heap.size w w9) := below_call0 H4.out.2 hb9
  clear hb9
  go_wp2_with fail
  go_ret
  exact ⟨rfl, H9.out⟩
set_option maxRecDepth 100000 in
set_option maxHeartbeats 2000000 in
theorem back_11 (k : Int) (a : Option Addr) (l : List ByteArray) (cap : Nat) (s : ByteArray) (hs : s.size < 140737488351233) (hE : pkE k l = 0) (hU : upE s.data.toList = 0) (w : World) (hS : Strs w a l) (hz : ∀ s ∈ l, s.size < 140737488351233) (hlen : l.length ≤ 8796093022208) :
    Calls Try.prog 6 #[.int .i64 k, .slice a l.length cap, .string s] w fun e w' => e = .returned (.bool true) ∧ Below w.heap.size w w' := by
  have K1 : Hid _ := fun (w' : World) (h : Strs w' a l) => pack_any k a l cap w' h hz
  have K2 : Hid _ := fun (w' : World) => unpack_packed hE w'
  have K3 : Hid _ := fun (w' : World) (b : Option Addr) (c : Nat) (h1 : Strs w' b l) (h2 : Strs w' a l) => texts_any b a l l c cap hlen w' h1 h2
  rw [decide_eq_true rfl] at K3
  have K5 : Hid _ := fun (w' : World) (b : Option Addr) (c : Nat) (h : Strs w' b (upL s.data.toList)) => pack_unpacked hU b c w' h
  have tb : (s.toList == s.toList) = true := by simp only [BEq.rfl]
  have K4 : Hid (∀ w' : World, Calls Try.prog 11 #[.string s] w' fun e w'' => ∃ b c, e = .returned (.tuple #[.int .i64 (upK s.data.toList), .slice b (upL s.data.toList).length c, .int .i64 (upE s.data.toList)]) ∧ Strs w'' b (upL s.data.toList) ∧ Below w'.heap.size w' w'') := fun w' => unpack_any s hs w'
  rw [hU] at K4
  obtain ⟨L, hL⟩ : ∃ L, L = upL s.data.toList := ⟨_, rfl⟩
  obtain ⟨U, hUU⟩ : ∃ U, U = upK s.data.toList := ⟨_, rfl⟩
  rw [← hL, ← hUU] at K4 K5
  obtain ⟨n, hn⟩ : ∃ n, n = l.length := ⟨_, rfl⟩
  obtain ⟨P, hP⟩ : ∃ S, S = pkS k l := ⟨_, rfl⟩
  obtain ⟨E, hEE⟩ : ∃ E, E = pkE k l := ⟨_, rfl⟩
  rw [← hn, ← hP, ← hEE] at K1
  rw [← hEE] at hE
  rw [← hn]
  rw [← hn, ← hP] at K2
  rw [← hn] at K3
  subst hE
  have HS : Hid (Strs w a l) := hS
  clear hn hP hEE hS hz hlen hs hL hUU hU
  go_enter Try.func6, Try.ntmps6
  go_wp2_with fail
  refine (K1.out _ HS.out).mono ?_
  rintro e w1 ⟨rfl, hb1⟩
  have H1 : Hid (Strs w1 a l ∧ Below w.heap.size w w1) := ⟨HS.out.call hb1, hb1⟩
  clear hb1 HS K1
  go_wp2_with fail
  refine (K2.out _).mono ?_
  rintro e w2 ⟨b, c, rfl, hS2, hb2⟩
  have H2 : Hid (Strs w2 a l ∧ Below w.heap.size w w2 ∧ Strs w2 b l) := ⟨H1.out.1.call hb2, below_call0 H1.out.2 hb2, hS2⟩
  clear hb2 hS2 H1 K2
  go_wp2_with fail
  refine (K3.out _ _ _ H2.out.2.2 H2.out.1).mono ?_
  rintro e w3 ⟨rfl, hb3⟩
  have H3 : Hid (Strs w3 a l ∧ Below w.heap.size w w3) := ⟨H2.out.1.call hb3, below_call0 H2.out.2.1 hb3⟩
  clear hb3 H2 K3
  go_wp2_with fail
  refine (K4.out _).mono ?_
  rintro e w4 ⟨b4, c4, rfl, hS4, hb4⟩
  have H4 : Hid (Strs w4 b4 L ∧ Below w.heap.size w w4) := ⟨hS4, below_call0 H3.out.2 hb4⟩
  clear hb4 hS4 H3 K4
  go_wp2_with fail
  refine (K5.out _ _ _ H4.out.1).mono ?_
  rintro e w5 ⟨rfl, hb5⟩
  have H5 : Hid (Below w.heap.size w w5) := below_call0 H4.out.2 hb5
  clear hb5 H4 K5
  go_wp2_with fail
  refine (two_any _).mono ?_
  rintro e w9 ⟨rfl, hb9⟩
  have H9 : Hid (Below w.heap.size w w9) := below_call0 H5.out hb9
  clear hb9
  go_wp2_with fail
  go_ret
  exact ⟨rfl, H9.out⟩
theorem parcelBack_any (k : Int) (a : Option Addr) (l : List ByteArray) (cap : Nat) (s : ByteArray) (hs : s.size < 140737488351233) (w : World) (hS : Strs w a l) (hz : ∀ s ∈ l, s.size < 140737488351233) (hlen : l.length ≤ 8796093022208) :
    Calls Try.prog 6 #[.int .i64 k, .slice a l.length cap, .string s] w fun e w' => e = .returned (.bool true) ∧ Below w.heap.size w w' := by
  by_cases hE : pkE k l = 0 <;> by_cases hU : upE s.data.toList = 0
  · exact back_11 k a l cap s hs hE hU w hS hz hlen
  · exact back_10 k a l cap s hs hE hU w hS hz hlen
  · exact back_01 k a l cap s hs hE hU w hS hz
  · exact back_00 k a l cap s hs hE hU w hS hz
theorem pkS_size (k : Int) (l : List ByteArray) (h : pkE k l = 0) : (pkS k l).size ≤ 20000 := by
  obtain ⟨m, rfl, hk, hf, e⟩ := pkE_zero h
  unfold fitB at hf
  simp only [Bool.and_eq_true, decide_eq_true_eq] at hf
  rw [e, ofL_size]
  unfold packL
  simp only [List.length_cons, itemsL_length]
  omega
theorem pkS_prefix {k : Int} {l m : List ByteArray} (h : pkE k l = 0) (h2 : pkE k m = 0) (c : (pkS k m).extract 0 (pkS k l).size = pkS k l) : l = m := by
  obtain ⟨j, rfl, hk, hf, e⟩ := pkE_zero h
  obtain ⟨j', hj, _, hf2, e2⟩ := pkE_zero h2
  obtain rfl : j = j' := by omega
  rw [e, e2] at c
  have c' := congrArg (fun (b : ByteArray) => b.data.toList) c
  simp only [ba_extract, ofL_data, Nat.sub_zero, List.drop_zero, ofL_size] at c'
  refine pack_prefix (k := j) hf hf2 ((packL j m).drop (packL j l).length) ?_
  conv => rhs; lhs; rw [← c']
  exact (List.take_append_drop _ _).symm
theorem pkS_inj {k : Int} {l m : List ByteArray} (h : pkE k l = 0) (h2 : pkE k m = 0) (c : pkS k l = pkS k m) : l = m := by
  refine pkS_prefix h h2 ?_
  rw [c]
  exact ba_whole _
set_option maxRecDepth 100000 in
set_option maxHeartbeats 2000000 in
theorem apart_e (k : Int) (a b : Option Addr) (l m : List ByteArray) (ca cb : Nat) (hE : pkE k l ≠ 0) (w : World) (hS : Strs w a l) (hz : ∀ s ∈ l, s.size < 140737488351233) (hS2 : Strs w b m) (hz2 : ∀ s ∈ m, s.size < 140737488351233) :
    Calls Try.prog 7 #[.int .i64 k, .slice a l.length ca, .slice b m.length cb] w fun e w' => e = .returned (.bool true) ∧ Below w.heap.size w w' := by
  have K1 : Hid _ := fun (w' : World) (h : Strs w' a l) => pack_any k a l ca w' h hz
  have K2 : Hid _ := fun (w' : World) (h : Strs w' b m) => pack_any k b m cb w' h hz2
  obtain ⟨n, hn⟩ : ∃ n, n = l.length := ⟨_, rfl⟩
  obtain ⟨q, hq⟩ : ∃ n, n = m.length := ⟨_, rfl⟩
  obtain ⟨P, hP⟩ : ∃ S, S = pkS k l := ⟨_, rfl⟩
  obtain ⟨E, hEE⟩ : ∃ E, E = pkE k l := ⟨_, rfl⟩
  obtain ⟨Q, hQ⟩ : ∃ S, S = pkS k m := ⟨_, rfl⟩
  obtain ⟨F, hFF⟩ : ∃ E, E = pkE k m := ⟨_, rfl⟩
  rw [← hn, ← hP, ← hEE] at K1
  rw [← hq, ← hQ, ← hFF] at K2
  rw [← hEE] at hE
  rw [← hn, ← hq]
  have HS : Hid (Strs w a l ∧ Strs w b m) := ⟨hS, hS2⟩
  clear hn hq hP hEE hQ hFF hS hz hS2 hz2
  go_enter Try.func7, Try.ntmps7
  go_wp2_with fail
  refine (K1.out _ HS.out.1).mono ?_
  rintro e w1 ⟨rfl, hb1⟩
  have H1 : Hid (Strs w1 a l ∧ Strs w1 b m ∧ Below w.heap.size w w1) := ⟨HS.out.1.call hb1, HS.out.2.call hb1, hb1⟩
  clear hb1 HS K1
  go_wp2_with fail
  refine (K2.out _ H1.out.2.1).mono ?_
  rintro e w2 ⟨rfl, hb2⟩
  have H2 : Hid (Strs w2 a l ∧ Strs w2 b m ∧ Below w.heap.size w w2) := ⟨H1.out.1.call hb2, H1.out.2.1.call hb2, below_call0 H1.out.2.2 hb2⟩
  clear hb2 H1 K2
  go_wp2_with fail
  refine (two_any _).mono ?_
  rintro e w9 ⟨rfl, hb9⟩
  have H9 : Hid (Below w.heap.size w w9) := below_call0 H2.out.2.2 hb9
  clear hb9
  go_wp2_with fail
  go_ret
  exact ⟨rfl, H9.out⟩
set_option maxRecDepth 100000 in
set_option maxHeartbeats 2000000 in
theorem apart_f (k : Int) (a b : Option Addr) (l m : List ByteArray) (ca cb : Nat) (hE : pkE k l = 0) (hF : pkE k m ≠ 0) (w : World) (hS : Strs w a l) (hz : ∀ s ∈ l, s.size < 140737488351233) (hS2 : Strs w b m) (hz2 : ∀ s ∈ m, s.size < 140737488351233) :
    Calls Try.prog 7 #[.int .i64 k, .slice a l.length ca, .slice b m.length cb] w fun e w' => e = .returned (.bool true) ∧ Below w.heap.size w w' := by
  have K1 : Hid _ := fun (w' : World) (h : Strs w' a l) => pack_any k a l ca w' h hz
  have K2 : Hid _ := fun (w' : World) (h : Strs w' b m) => pack_any k b m cb w' h hz2
  obtain ⟨n, hn⟩ : ∃ n, n = l.length := ⟨_, rfl⟩
  obtain ⟨q, hq⟩ : ∃ n, n = m.length := ⟨_, rfl⟩
  obtain ⟨P, hP⟩ : ∃ S, S = pkS k l := ⟨_, rfl⟩
  obtain ⟨E, hEE⟩ : ∃ E, E = pkE k l := ⟨_, rfl⟩
  obtain ⟨Q, hQ⟩ : ∃ S, S = pkS k m := ⟨_, rfl⟩
  obtain ⟨F, hFF⟩ : ∃ E, E = pkE k m := ⟨_, rfl⟩
  rw [← hn, ← hP, ← hEE] at K1
  rw [← hq, ← hQ, ← hFF] at K2
  rw [← hEE] at hE
  rw [← hn, ← hq]
  rw [← hFF] at hF
  have HS : Hid (Strs w a l ∧ Strs w b m) := ⟨hS, hS2⟩
  subst hE
  clear hn hq hP hEE hQ hFF hS hz hS2 hz2
  go_enter Try.func7, Try.ntmps7
  go_wp2_with fail
  refine (K1.out _ HS.out.1).mono ?_
  rintro e w1 ⟨rfl, hb1⟩
  have H1 : Hid (Strs w1 a l ∧ Strs w1 b m ∧ Below w.heap.size w w1) := ⟨HS.out.1.call hb1, HS.out.2.call hb1, hb1⟩
  clear hb1 HS K1
  go_wp2_with fail
  refine (K2.out _ H1.out.2.1).mono ?_
  rintro e w2 ⟨rfl, hb2⟩
  have H2 : Hid (Strs w2 a l ∧ Strs w2 b m ∧ Below w.heap.size w w2) := ⟨H1.out.1.call hb2, H1.out.2.1.call hb2, below_call0 H1.out.2.2 hb2⟩
  clear hb2 H1 K2
  go_wp2_with fail
  refine (two_any _).mono ?_
  rintro e w9 ⟨rfl, hb9⟩
  have H9 : Hid (Below w.heap.size w w9) := below_call0 H2.out.2.2 hb9
  clear hb9
  go_wp2_with fail
  go_ret
  exact ⟨rfl, H9.out⟩
set_option maxRecDepth 100000 in
set_option maxHeartbeats 2000000 in
theorem apart_s (k : Int) (a b : Option Addr) (l m : List ByteArray) (ca cb : Nat) (hE : pkE k l = 0) (hF : pkE k m = 0) (hlm : l = m) (w : World) (hS : Strs w a l) (hz : ∀ s ∈ l, s.size < 140737488351233) (hlen : l.length ≤ 8796093022208) (hS2 : Strs w b m) (hz2 : ∀ s ∈ m, s.size < 140737488351233) :
    Calls Try.prog 7 #[.int .i64 k, .slice a l.length ca, .slice b m.length cb] w fun e w' => e = .returned (.bool true) ∧ Below w.heap.size w w' := by
  have K1 : Hid _ := fun (w' : World) (h : Strs w' a l) => pack_any k a l ca w' h hz
  have K2 : Hid _ := fun (w' : World) (h : Strs w' b m) => pack_any k b m cb w' h hz2
  have K3 : Hid _ := fun (w' : World) (h1 : Strs w' a l) (h2 : Strs w' b m) => texts_any a b l m ca cb hlen w' h1 h2
  rw [decide_eq_true hlm] at K3
  have hb1 : (pkS k l).size ≤ 20000 ∧ (pkS k m).size ≤ 20000 := ⟨pkS_size k l hE, pkS_size k m hF⟩
  have hpq : pkS k l = pkS k m := by rw [hlm]
  obtain ⟨n, hn⟩ : ∃ n, n = l.length := ⟨_, rfl⟩
  obtain ⟨q, hq⟩ : ∃ n, n = m.length := ⟨_, rfl⟩
  obtain ⟨P, hP⟩ : ∃ S, S = pkS k l := ⟨_, rfl⟩
  obtain ⟨E, hEE⟩ : ∃ E, E = pkE k l := ⟨_, rfl⟩
  obtain ⟨Q, hQ⟩ : ∃ S, S = pkS k m := ⟨_, rfl⟩
  obtain ⟨F, hFF⟩ : ∃ E, E = pkE k m := ⟨_, rfl⟩
  rw [← hn, ← hP, ← hEE] at K1
  rw [← hq, ← hQ, ← hFF] at K2
  rw [← hEE] at hE
  rw [← hn, ← hq]
  rw [← hFF] at hF
  rw [← hn, ← hq] at K3
  rw [← hP, ← hQ] at hpq hb1
  have HS : Hid (Strs w a l ∧ Strs w b m) := ⟨hS, hS2⟩
  subst hE
  subst hF
  have p1 : (P.size : Int) ≤ 20000 := by omega
  have p2 : (Q.size : Int) ≤ 20000 := by omega
  subst hpq
  have tb : (P.toList == P.toList) = true := by simp only [BEq.rfl]
  have ex : P.extract 0 P.size = P := ba_whole P
  have le1 : (P.size : Int) ≤ (P.size : Int) := Int.le_refl _
  clear hn hq hP hEE hQ hFF hS hz hS2 hz2 hlen hlm hb1
  go_enter Try.func7, Try.ntmps7
  go_wp2_with fail
  refine (K1.out _ HS.out.1).mono ?_
  rintro e w1 ⟨rfl, hb1⟩
  have H1 : Hid (Strs w1 a l ∧ Strs w1 b m ∧ Below w.heap.size w w1) := ⟨HS.out.1.call hb1, HS.out.2.call hb1, hb1⟩
  clear hb1 HS K1
  go_wp2_with fail
  refine (K2.out _ H1.out.2.1).mono ?_
  rintro e w2 ⟨rfl, hb2⟩
  have H2 : Hid (Strs w2 a l ∧ Strs w2 b m ∧ Below w.heap.size w w2) := ⟨H1.out.1.call hb2, H1.out.2.1.call hb2, below_call0 H1.out.2.2 hb2⟩
  clear hb2 H1 K2
  go_wp2_with fail
  refine (K3.out _ H2.out.1 H2.out.2.1).mono ?_
  rintro e w3 ⟨rfl, hb3⟩
  have H3 : Hid (Below w.heap.size w w3) := below_call0 H2.out.2.2 hb3
  clear hb3 H2 K3
  go_wp2_with fail
  refine (two_any _).mono ?_
  rintro e w9 ⟨rfl, hb9⟩
  have H9 : Hid (Below w.heap.size w w9) := below_call0 H3.out hb9
  clear hb9
  go_wp2_with fail
  go_ret
  exact ⟨rfl, H9.out⟩
set_option maxRecDepth 100000 in
set_option maxHeartbeats 2000000 in
theorem apart_d (k : Int) (a b : Option Addr) (l m : List ByteArray) (ca cb : Nat) (hE : pkE k l = 0) (hF : pkE k m = 0) (hlm : l ≠ m) (hle : (pkS k l).size ≤ (pkS k m).size) (w : World) (hS : Strs w a l) (hz : ∀ s ∈ l, s.size < 140737488351233) (hlen : l.length ≤ 8796093022208) (hS2 : Strs w b m) (hz2 : ∀ s ∈ m, s.size < 140737488351233) :
    Calls Try.prog 7 #[.int .i64 k, .slice a l.length ca, .slice b m.length cb] w fun e w' => e = .returned (.bool true) ∧ Below w.heap.size w w' := by
  have K1 : Hid _ := fun (w' : World) (h : Strs w' a l) => pack_any k a l ca w' h hz
  have K2 : Hid _ := fun (w' : World) (h : Strs w' b m) => pack_any k b m cb w' h hz2
  have K3 : Hid _ := fun (w' : World) (h1 : Strs w' a l) (h2 : Strs w' b m) => texts_any a b l m ca cb hlen w' h1 h2
  rw [decide_eq_false hlm] at K3
  have hb1 : (pkS k l).size ≤ 20000 ∧ (pkS k m).size ≤ 20000 := ⟨pkS_size k l hE, pkS_size k m hF⟩
  have hpq : pkS k l ≠ pkS k m := fun c => hlm (pkS_inj hE hF c)
  have hpx : (pkS k m).extract 0 (pkS k l).size ≠ pkS k l := fun c => hlm (pkS_prefix hE hF c)
  obtain ⟨n, hn⟩ : ∃ n, n = l.length := ⟨_, rfl⟩
  obtain ⟨q, hq⟩ : ∃ n, n = m.length := ⟨_, rfl⟩
  obtain ⟨P, hP⟩ : ∃ S, S = pkS k l := ⟨_, rfl⟩
  obtain ⟨E, hEE⟩ : ∃ E, E = pkE k l := ⟨_, rfl⟩
  obtain ⟨Q, hQ⟩ : ∃ S, S = pkS k m := ⟨_, rfl⟩
  obtain ⟨F, hFF⟩ : ∃ E, E = pkE k m := ⟨_, rfl⟩
  rw [← hn, ← hP, ← hEE] at K1
  rw [← hq, ← hQ, ← hFF] at K2
  rw [← hEE] at hE
  rw [← hn, ← hq]
  rw [← hFF] at hF
  rw [← hn, ← hq] at K3
  rw [← hP, ← hQ] at hpq hb1
  rw [← hP, ← hQ] at hle
  rw [← hP, ← hQ] at hpx
  have HS : Hid (Strs w a l ∧ Strs w b m) := ⟨hS, hS2⟩
  subst hE
  subst hF
  have p1 : (P.size : Int) ≤ 20000 := by omega
  have p2 : (Q.size : Int) ≤ 20000 := by omega
  have tb : (P.toList == Q.toList) = false := toList_ne hpq
  have tb2 : ((Q.extract 0 P.size).toList == P.toList) = false := toList_ne hpx
  have le1 : (P.size : Int) ≤ (Q.size : Int) := by omega
  have le2 : P.size ≤ Q.size := hle
  have dl : decide ((P.size : Int) ≤ (Q.size : Int)) = true := decide_eq_true le1
  clear hn hq hP hEE hQ hFF hS hz hS2 hz2 hlen hlm hb1 hpq hpx hle
  go_enter Try.func7, Try.ntmps7
  go_wp2_with fail
  refine (K1.out _ HS.out.1).mono ?_
  rintro e w1 ⟨rfl, hb1⟩
  have H1 : Hid (Strs w1 a l ∧ Strs w1 b m ∧ Below w.heap.size w w1) := ⟨HS.out.1.call hb1, HS.out.2.call hb1, hb1⟩
  clear hb1 HS K1
  go_wp2_with fail
  refine (K2.out _ H1.out.2.1).mono ?_
  rintro e w2 ⟨rfl, hb2⟩
  have H2 : Hid (Strs w2 a l ∧ Strs w2 b m ∧ Below w.heap.size w w2) := ⟨H1.out.1.call hb2, H1.out.2.1.call hb2, below_call0 H1.out.2.2 hb2⟩
  clear hb2 H1 K2
  go_wp2_with fail
  refine (K3.out _ H2.out.1 H2.out.2.1).mono ?_
  rintro e w3 ⟨rfl, hb3⟩
  have H3 : Hid (Below w.heap.size w w3) := below_call0 H2.out.2.2 hb3
  clear hb3 H2 K3
  go_wp2_with fail
  refine (two_any _).mono ?_
  rintro e w9 ⟨rfl, hb9⟩
  have H9 : Hid (Below w.heap.size w w9) := below_call0 H3.out hb9
  clear hb9
  go_wp2_with fail
  go_ret
  exact ⟨rfl, H9.out⟩
set_option maxRecDepth 100000 in
set_option maxHeartbeats 2000000 in
theorem apart_g (k : Int) (a b : Option Addr) (l m : List ByteArray) (ca cb : Nat) (hE : pkE k l = 0) (hF : pkE k m = 0) (hlm : l ≠ m) (hle : ¬ (pkS k l).size ≤ (pkS k m).size) (w : World) (hS : Strs w a l) (hz : ∀ s ∈ l, s.size < 140737488351233) (hlen : l.length ≤ 8796093022208) (hS2 : Strs w b m) (hz2 : ∀ s ∈ m, s.size < 140737488351233) :
    Calls Try.prog 7 #[.int .i64 k, .slice a l.length ca, .slice b m.length cb] w fun e w' => e = .returned (.bool true) ∧ Below w.heap.size w w' := by
  have K1 : Hid _ := fun (w' : World) (h : Strs w' a l) => pack_any k a l ca w' h hz
  have K2 : Hid _ := fun (w' : World) (h : Strs w' b m) => pack_any k b m cb w' h hz2
  have K3 : Hid _ := fun (w' : World) (h1 : Strs w' a l) (h2 : Strs w' b m) => texts_any a b l m ca cb hlen w' h1 h2
  rw [decide_eq_false hlm] at K3
  have hb1 : (pkS k l).size ≤ 20000 ∧ (pkS k m).size ≤ 20000 := ⟨pkS_size k l hE, pkS_size k m hF⟩
  have hpq : pkS k l ≠ pkS k m := fun c => hlm (pkS_inj hE hF c)
  obtain ⟨n, hn⟩ : ∃ n, n = l.length := ⟨_, rfl⟩
  obtain ⟨q, hq⟩ : ∃ n, n = m.length := ⟨_, rfl⟩
  obtain ⟨P, hP⟩ : ∃ S, S = pkS k l := ⟨_, rfl⟩
  obtain ⟨E, hEE⟩ : ∃ E, E = pkE k l := ⟨_, rfl⟩
  obtain ⟨Q, hQ⟩ : ∃ S, S = pkS k m := ⟨_, rfl⟩
  obtain ⟨F, hFF⟩ : ∃ E, E = pkE k m := ⟨_, rfl⟩
  rw [← hn, ← hP, ← hEE] at K1
  rw [← hq, ← hQ, ← hFF] at K2
  rw [← hEE] at hE
  rw [← hn, ← hq]
  rw [← hFF] at hF
  rw [← hn, ← hq] at K3
  rw [← hP, ← hQ] at hpq hb1
  rw [← hP, ← hQ] at hle
  have HS : Hid (Strs w a l ∧ Strs w b m) := ⟨hS, hS2⟩
  subst hE
  subst hF
  have p1 : (P.size : Int) ≤ 20000 := by omega
  have p2 : (Q.size : Int) ≤ 20000 := by omega
  have tb : (P.toList == Q.toList) = false := toList_ne hpq
  have le1 : ¬ ((P.size : Int) ≤ (Q.size : Int)) := by omega
  have dl : decide ((P.size : Int) ≤ (Q.size : Int)) = false := decide_eq_false le1
  have dl' : decide (P.size ≤ Q.size) = false := decide_eq_false hle
  clear hn hq hP hEE hQ hFF hS hz hS2 hz2 hlen hlm hb1 hpq hle
  go_enter Try.func7, Try.ntmps7
  go_wp2_with fail
  refine (K1.out _ HS.out.1).mono ?_
  rintro e w1 ⟨rfl, hb1⟩
  have H1 : Hid (Strs w1 a l ∧ Strs w1 b m ∧ Below w.heap.size w w1) := ⟨HS.out.1.call hb1, HS.out.2.call hb1, hb1⟩
  clear hb1 HS K1
  go_wp2_with fail
  refine (K2.out _ H1.out.2.1).mono ?_
  rintro e w2 ⟨rfl, hb2⟩
  have H2 : Hid (Strs w2 a l ∧ Strs w2 b m ∧ Below w.heap.size w w2) := ⟨H1.out.1.call hb2, H1.out.2.1.call hb2, below_call0 H1.out.2.2 hb2⟩
  clear hb2 H1 K2
  go_wp2_with fail
  refine (K3.out _ H2.out.1 H2.out.2.1).mono ?_
  rintro e w3 ⟨rfl, hb3⟩
  have H3 : Hid (Below w.heap.size w w3) := below_call0 H2.out.2.2 hb3
  clear hb3 H2 K3
  go_wp2_with fail
  refine (two_any _).mono ?_
  rintro e w9 ⟨rfl, hb9⟩
  have H9 : Hid (Below w.heap.size w w9) := below_call0 H3.out hb9
  clear hb9
  go_wp2_with fail
  go_ret
  exact ⟨rfl, H9.out⟩
theorem parcelApart_any (k : Int) (a b : Option Addr) (l m : List ByteArray) (ca cb : Nat) (w : World) (hS : Strs w a l) (hz : ∀ s ∈ l, s.size < 140737488351233) (hlen : l.length ≤ 8796093022208) (hS2 : Strs w b m) (hz2 : ∀ s ∈ m, s.size < 140737488351233) :
    Calls Try.prog 7 #[.int .i64 k, .slice a l.length ca, .slice b m.length cb] w fun e w' => e = .returned (.bool true) ∧ Below w.heap.size w w' := by
  by_cases hE : pkE k l = 0
  · by_cases hF : pkE k m = 0
    · by_cases hlm : l = m
      · exact apart_s k a b l m ca cb hE hF hlm w hS hz hlen hS2 hz2
      · by_cases hle : (pkS k l).size ≤ (pkS k m).size
        · exact apart_d k a b l m ca cb hE hF hlm hle w hS hz hlen hS2 hz2
        · exact apart_g k a b l m ca cb hE hF hlm hle w hS hz hlen hS2 hz2
    · exact apart_f k a b l m ca cb hE hF w hS hz hS2 hz2
  · exact apart_e k a b l m ca cb hE w hS hz hS2 hz2
end Go.Proofs.Ytdeeilhibgholaa
