/- The reference of layer 12: an end that takes; a letter's bytes. -/
import Derived.Test.YtadcjdffjhiniaaLkK
namespace Go.Proofs.Ytadcjdffjhiniaa
open Go Go.RowKit Go.Lib

theorem Strs.triple (s t u : ByteArray) (w : World) (y : TypeId) : Strs (w.alloc (.cells #[.string s, .string t, .string u] y)) (some ⟨w.heap.size, 0, none⟩) [s, t, u] := by
  intro j v hj
  match j, hj with
  | 0, hj => simp at hj; subst hj; exact ⟨_, _, rfl, by simp [go_sem], by simp⟩
  | 1, hj => simp at hj; subst hj; exact ⟨_, _, rfl, by simp [go_sem], by simp⟩
  | 2, hj => simp at hj; subst hj; exact ⟨_, _, rfl, by simp [go_sem], by simp⟩
  | j + 3, hj => simp at hj
set_option maxHeartbeats 1000000 in
theorem rack_any (l n : Nat) (hl : l ≤ 1099511627776) (hn : n ≤ 1099511627776) (w : World) : Calls Try.prog 22 #[.int .i64 (l : Nat), .int .i64 (n : Nat)] w fun e w' => e = .returned (.string (letS 2 l n [])) ∧ Below w.heap.size w w' := by
  have KA : Hid _ := fun (w' : World) (a : Option Addr) (h : IntsAt w' a [(l : Int)]) => rint_any (l : Nat) (by omega) a w' h
  have KB : Hid _ := fun (w' : World) (a : Option Addr) (h : IntsAt w' a [(n : Int)]) => rint_any (n : Nat) (by omega) a w' h
  have KP : Hid (∀ (w' : World) (a : Option Addr), Strs w' a [inS [(l : Int)], inS [(n : Int)]] → Calls Try.prog 33 #[.int .i64 2, .slice a 2 2] w' fun e w'' => e = .returned (.tuple #[.string (letS 2 l n []), .int .i64 (pkE 2 [inS [(l : Int)], inS [(n : Int)]])]) ∧ Below w'.heap.size w' w'') := fun w' a h =>
    rpack_any 2 a [inS [(l : Int)], inS [(n : Int)]] 2 (by simp) w' h (let_ok (r := []) (by simp))
  obtain ⟨A, hA⟩ : ∃ A, A = inS [(l : Int)] := ⟨_, rfl⟩
  obtain ⟨B, hB⟩ : ∃ B, B = inS [(n : Int)] := ⟨_, rfl⟩
  obtain ⟨L, hL⟩ : ∃ L, L = letS 2 l n [] := ⟨_, rfl⟩
  obtain ⟨E, hE⟩ : ∃ E, E = pkE 2 [inS [(l : Int)], inS [(n : Int)]] := ⟨_, rfl⟩
  rw [← hL, ← hE] at KP
  rw [← hL]
  rw [← hA, ← hB] at KP
  rw [← hA] at KA
  rw [← hB] at KB
  have hsz : ∀ w, (Go.sizeOf 9).run Try.prog w = .ok 1 w := fun _ => by kernel_rfl
  have hsi : ∀ w, (Go.sizeOf 3).run Try.prog w = .ok 1 w := fun _ => by kernel_rfl
  clear hA hB hL hE
  go_enter Try.func22, Try.ntmps22
  go_wp2_with fail
  refine (KA.out _ _ (IntsAt.one _ _ _)).mono ?_
  rintro e w1 ⟨rfl, hb1⟩
  have H1 : Hid (Below w.heap.size w w1) := below_call0 (below_alloc0 (Below.refl _ _) _) hb1
  clear hb1
  go_wp2_with fail
  refine (KB.out _ _ (IntsAt.one _ _ _)).mono ?_
  rintro e w2 ⟨rfl, hb2⟩
  have H2 : Hid (Below w.heap.size w w2) := below_call0 (below_alloc0 H1.out _) hb2
  clear hb2 KA KB
  go_wp2_with fail
  refine (KP.out _ _ (Strs.pair _ _ _ _)).mono ?_
  rintro e w3 ⟨rfl, hb3⟩
  have H3 : Hid (Below w.heap.size w w3) := below_call0 (below_alloc0 H2.out _) hb3
  clear hb3 KP
  go_wp2_with fail
  go_ret
  exact ⟨rfl, H3.out⟩
set_option maxHeartbeats 1000000 in
theorem rframe_any (l n : Nat) (hl : l ≤ 1099511627776) (hn : n ≤ 1099511627776) (t : ByteArray) (ht : t.size < 140737488351233) (w : World) : Calls Try.prog 30 #[.int .i64 (l : Nat), .int .i64 (n : Nat), .string t] w fun e w' => e = .returned (.string (letS 1 l n [t])) ∧ Below w.heap.size w w' := by
  have KA : Hid _ := fun (w' : World) (a : Option Addr) (h : IntsAt w' a [(l : Int)]) => rint_any (l : Nat) (by omega) a w' h
  have KB : Hid _ := fun (w' : World) (a : Option Addr) (h : IntsAt w' a [(n : Int)]) => rint_any (n : Nat) (by omega) a w' h
  have KP : Hid (∀ (w' : World) (a : Option Addr), Strs w' a [inS [(l : Int)], inS [(n : Int)], t] → Calls Try.prog 33 #[.int .i64 1, .slice a 3 3] w' fun e w'' => e = .returned (.tuple #[.string (letS 1 l n [t]), .int .i64 (pkE 1 [inS [(l : Int)], inS [(n : Int)], t])]) ∧ Below w'.heap.size w' w'') := fun w' a h =>
    rpack_any 1 a [inS [(l : Int)], inS [(n : Int)], t] 3 (by simp) w' h (let_ok (r := [t]) (fun s hs => by simp at hs; subst hs; exact ht))
  obtain ⟨A, hA⟩ : ∃ A, A = inS [(l : Int)] := ⟨_, rfl⟩
  obtain ⟨B, hB⟩ : ∃ B, B = inS [(n : Int)] := ⟨_, rfl⟩
  obtain ⟨L, hL⟩ : ∃ L, L = letS 1 l n [t] := ⟨_, rfl⟩
  obtain ⟨E, hE⟩ : ∃ E, E = pkE 1 [inS [(l : Int)], inS [(n : Int)], t] := ⟨_, rfl⟩
  rw [← hL, ← hE] at KP
  rw [← hL]
  rw [← hA, ← hB] at KP
  rw [← hA] at KA
  rw [← hB] at KB
  have hsz : ∀ w, (Go.sizeOf 9).run Try.prog w = .ok 1 w := fun _ => by kernel_rfl
  have hsi : ∀ w, (Go.sizeOf 3).run Try.prog w = .ok 1 w := fun _ => by kernel_rfl
  clear hA hB hL hE
  go_enter Try.func30, Try.ntmps30
  go_wp2_with fail
  refine (KA.out _ _ (IntsAt.one _ _ _)).mono ?_
  rintro e w1 ⟨rfl, hb1⟩
  have H1 : Hid (Below w.heap.size w w1) := below_call0 (below_alloc0 (Below.refl _ _) _) hb1
  clear hb1
  go_wp2_with fail
  refine (KB.out _ _ (IntsAt.one _ _ _)).mono ?_
  rintro e w2 ⟨rfl, hb2⟩
  have H2 : Hid (Below w.heap.size w w2) := below_call0 (below_alloc0 H1.out _) hb2
  clear hb2 KA KB
  go_wp2_with fail
  refine (KP.out _ _ (Strs.triple _ _ _ _ _)).mono ?_
  rintro e w3 ⟨rfl, hb3⟩
  have H3 : Hid (Below w.heap.size w w3) := below_call0 (below_alloc0 H2.out _) hb3
  clear hb3 KP
  go_wp2_with fail
  go_ret
  exact ⟨rfl, H3.out⟩
set_option maxRecDepth 100000 in
set_option maxHeartbeats 4000000 in
theorem rtake_any (g l c : Nat) (hc : c ≤ 1099511627776) (s : ByteArray) (hs : s.size < 140737488351233) (w : World) (hT : TakerAt w g l c) :
    Calls Try.prog 20 #[.pointer (some ⟨g, 0, none⟩), .string s] w fun e w' => takePost g (tkR s l c) w e w' := by
  have KU : Hid _ := fun w' : World => ropen1_any s hs w'
  match h : rdF s with
  | none =>
    have er : tkR s l c = (⟨#[]⟩, false, 4, l, c) := by unfold tkR; rw [h]
    rw [er]
    rw [h] at KU
    have KU : Hid (∀ w : World, Calls Try.prog 24 #[.string s, .int .i64 1] w fun e w' => e = .returned (.tuple #[.agg #[.int .i64 0, .int .i64 0, .string ⟨#[]⟩], .bool false]) ∧ Below w.heap.size w w') := KU.out
    have HT : Hid (TakerAt w g l c) := hT
    clear h er hs hT
    go_enter Try.func20, Try.ntmps20
    go_wp2_with fail
    refine (KU.out _).mono ?_
    rintro e w1 ⟨rfl, hb1⟩
    have H1 : Hid _ := hb1
    clear hb1 KU
    go_wp2_with fail
    exact bodyPost_ret (v := .tuple #[.string ⟨#[]⟩, .bool false, .int .i64 4]) (by simp [results, Try.results20, go_sem]) rfl ⟨rfl, (HT.out.call H1.out).call (below_alloc0 (Below.refl _ _) _), But.of_below (below_alloc0 H1.out _)⟩
  | some (l', n, t) =>
    obtain ⟨-, n0, -, -, l2, nn2⟩ := rdF_inv h
    have er : tkR s l c = (if l' < l then (⟨#[]⟩, false, 7, l, c) else if l < l' then (if n = 1 then (t, true, 0, l', 1) else (⟨#[]⟩, false, 0, l', 0)) else if n = c + 1 then (t, true, 0, l, c + 1) else (⟨#[]⟩, false, 0, l, c)) := by unfold tkR; rw [h]
    rw [er]
    rw [h] at KU
    have KU : Hid (∀ w : World, Calls Try.prog 24 #[.string s, .int .i64 1] w fun e w' => e = .returned (.tuple #[.agg #[.int .i64 (l' : Nat), .int .i64 (n : Nat), .string t], .bool true]) ∧ Below w.heap.size w w') := KU.out
    clear h er hs
    by_cases c1 : l' < l
    · rw [if_pos c1]
      have c1' : (l' : Int) < (l : Int) := by omega
      clear n0 l2 nn2
      go_enter Try.func20, Try.ntmps20
      go_wp2_with fail
      refine (KU.out _).mono ?_
      rintro e w1 ⟨rfl, hb1⟩
      obtain ⟨w2, hw2⟩ : ∃ y, y = w1.alloc (.cells #[.int .i64 (l' : Nat), .int .i64 (n : Nat), .string t] 62) := ⟨_, rfl⟩
      obtain ⟨R, hR⟩ : ∃ y, y = w1.heap.size := ⟨_, rfl⟩
      have H2 : Hid (TakerAt w2 g l c ∧ Own3 w2 R (l' : Nat) (n : Nat) t ∧ Below w.heap.size w w2 ∧ R ≠ g) := by
        rw [hw2, hR]
        exact ⟨(hT.call hb1).call (below_alloc0 (Below.refl _ _) _), Own3.new rfl, below_alloc0 hb1 _, Nat.ne_of_gt (hT.call hb1).2.2.2⟩
      go_wp2_with fail
      rw [← hw2, ← hR]
      clear hb1 KU hw2 hR
      obtain ⟨t0, t1, tf, tg⟩ := H2.out.1
      obtain ⟨⟨o0, o1, o2⟩, -, -⟩ := H2.out.2.1
      have n1 : R ≠ g := H2.out.2.2.2
      have n2 : g ≠ R := Ne.symm n1
      have f0 := tf 0
      have f1 := tf 1
      clear tf
      go_quiet (fail)
      go_wp2_with fail
      exact bodyPost_ret (v := .tuple #[.string ⟨#[]⟩, .bool false, .int .i64 7]) (by simp [results, Try.results20, go_sem]) rfl ⟨rfl, H2.out.1, (by repeat (first | exact But.of_below H2.out.2.2.1 | refine But.drewN ?_ | refine But.set ?_ _))⟩
    · rw [if_neg c1]
      have c1' : ¬ ((l' : Int) < (l : Int)) := by omega
      by_cases c2 : l < l'
      · rw [if_pos c2]
        have c2' : (l : Int) < (l' : Int) := by omega
        by_cases c3 : n = 1
        · rw [if_pos c3]
          subst c3
          clear n0 l2 nn2
          go_enter Try.func20, Try.ntmps20
          go_wp2_with fail
          refine (KU.out _).mono ?_
          rintro e w1 ⟨rfl, hb1⟩
          obtain ⟨w2, hw2⟩ : ∃ y, y = w1.alloc (.cells #[.int .i64 (l' : Nat), .int .i64 1, .string t] 62) := ⟨_, rfl⟩
          obtain ⟨R, hR⟩ : ∃ y, y = w1.heap.size := ⟨_, rfl⟩
          have H2 : Hid (TakerAt w2 g l c ∧ Own3 w2 R (l' : Nat) 1 t ∧ Below w.heap.size w w2 ∧ R ≠ g) := by
            rw [hw2, hR]
            exact ⟨(hT.call hb1).call (below_alloc0 (Below.refl _ _) _), Own3.new rfl, below_alloc0 hb1 _, Nat.ne_of_gt (hT.call hb1).2.2.2⟩
          go_wp2_with fail
          rw [← hw2, ← hR]
          clear hb1 KU hw2 hR
          obtain ⟨t0, t1, tf, tg⟩ := H2.out.1
          obtain ⟨⟨o0, o1, o2⟩, -, -⟩ := H2.out.2.1
          have n1 : R ≠ g := H2.out.2.2.2
          have n2 : g ≠ R := Ne.symm n1
          have f0 := tf 0
          have f1 := tf 1
          clear tf
          go_quiet (fail)
          go_wp2_with fail
          go_quiet (fail)
          go_wp2_with fail
          go_quiet (fail)
          go_wp2_with fail
          exact bodyPost_ret (v := .tuple #[.string t, .bool true, .int .i64 0]) (by simp [results, Try.results20, go_sem]) rfl ⟨rfl, ((H2.out.1).set0.set1 (v := 0)).set1 (v := 1), (by repeat (first | exact But.of_below H2.out.2.2.1 | refine But.drewN ?_ | refine But.set ?_ _))⟩
        · rw [if_neg c3]
          have c3' : ¬ ((n : Int) = 1) := by omega
          clear n0 l2 nn2
          go_enter Try.func20, Try.ntmps20
          go_wp2_with fail
          refine (KU.out _).mono ?_
          rintro e w1 ⟨rfl, hb1⟩
          obtain ⟨w2, hw2⟩ : ∃ y, y = w1.alloc (.cells #[.int .i64 (l' : Nat), .int .i64 (n : Nat), .string t] 62) := ⟨_, rfl⟩
          obtain ⟨R, hR⟩ : ∃ y, y = w1.heap.size := ⟨_, rfl⟩
          have H2 : Hid (TakerAt w2 g l c ∧ Own3 w2 R (l' : Nat) (n : Nat) t ∧ Below w.heap.size w w2 ∧ R ≠ g) := by
            rw [hw2, hR]
            exact ⟨(hT.call hb1).call (below_alloc0 (Below.refl _ _) _), Own3.new rfl, below_alloc0 hb1 _, Nat.ne_of_gt (hT.call hb1).2.2.2⟩
          go_wp2_with fail
          rw [← hw2, ← hR]
          clear hb1 KU hw2 hR
          obtain ⟨t0, t1, tf, tg⟩ := H2.out.1
          obtain ⟨⟨o0, o1, o2⟩, -, -⟩ := H2.out.2.1
          have n1 : R ≠ g := H2.out.2.2.2
          have n2 : g ≠ R := Ne.symm n1
          have f0 := tf 0
          have f1 := tf 1
          clear tf
          go_quiet (fail)
          go_wp2_with fail
          go_quiet (fail)
          go_wp2_with fail
          go_quiet (fail)
          go_wp2_with fail
          exact bodyPost_ret (v := .tuple #[.string ⟨#[]⟩, .bool false, .int .i64 0]) (by simp [results, Try.results20, go_sem]) rfl ⟨rfl, (H2.out.1).set0.set1 (v := 0), (by repeat (first | exact But.of_below H2.out.2.2.1 | refine But.drewN ?_ | refine But.set ?_ _))⟩
      · rw [if_neg c2]
        have c2' : ¬ ((l : Int) < (l' : Int)) := by omega
        obtain rfl : l = l' := by omega
        by_cases c3 : n = c + 1
        · rw [if_pos c3]
          have c3' : (n : Int) = (c : Int) + 1 := by omega
          have nb : (n : Int) ≤ 1099511627776 := by omega
          clear n0 l2 nn2
          go_enter Try.func20, Try.ntmps20
          go_wp2_with fail
          refine (KU.out _).mono ?_
          rintro e w1 ⟨rfl, hb1⟩
          obtain ⟨w2, hw2⟩ : ∃ y, y = w1.alloc (.cells #[.int .i64 (l : Nat), .int .i64 ((c : Int) + 1), .string t] 62) := ⟨_, rfl⟩
          obtain ⟨R, hR⟩ : ∃ y, y = w1.heap.size := ⟨_, rfl⟩
          have H2 : Hid (TakerAt w2 g l c ∧ Own3 w2 R (l : Nat) ((c : Int) + 1) t ∧ Below w.heap.size w w2 ∧ R ≠ g) := by
            rw [hw2, hR]
            exact ⟨(hT.call hb1).call (below_alloc0 (Below.refl _ _) _), Own3.new rfl, below_alloc0 hb1 _, Nat.ne_of_gt (hT.call hb1).2.2.2⟩
          go_wp2_with fail
          rw [← hw2, ← hR]
          clear hb1 KU hw2 hR
          obtain ⟨t0, t1, tf, tg⟩ := H2.out.1
          obtain ⟨⟨o0, o1, o2⟩, -, -⟩ := H2.out.2.1
          have n1 : R ≠ g := H2.out.2.2.2
          have n2 : g ≠ R := Ne.symm n1
          have f0 := tf 0
          have f1 := tf 1
          clear tf
          go_quiet (fail)
          go_wp2_with fail
          go_quiet (fail)
          go_wp2_with fail
          go_quiet (fail)
          go_wp2_with fail
          exact bodyPost_ret (v := .tuple #[.string t, .bool true, .int .i64 0]) (by simp [results, Try.results20, go_sem]) rfl ⟨rfl, by have h := (H2.out.1).set1 (v := c + 1); rw [show (((c + 1 : Nat)) : Int) = (c : Int) + 1 from by omega] at h; exact h, (by repeat (first | exact But.of_below H2.out.2.2.1 | refine But.drewN ?_ | refine But.set ?_ _))⟩
        · rw [if_neg c3]
          have c3' : ¬ ((n : Int) = (c : Int) + 1) := by omega
          have cb : (c : Int) ≤ 1099511627776 := by omega
          clear n0 l2 nn2
          go_enter Try.func20, Try.ntmps20
          go_wp2_with fail
          refine (KU.out _).mono ?_
          rintro e w1 ⟨rfl, hb1⟩
          obtain ⟨w2, hw2⟩ : ∃ y, y = w1.alloc (.cells #[.int .i64 (l : Nat), .int .i64 (n : Nat), .string t] 62) := ⟨_, rfl⟩
          obtain ⟨R, hR⟩ : ∃ y, y = w1.heap.size := ⟨_, rfl⟩
          have H2 : Hid (TakerAt w2 g l c ∧ Own3 w2 R (l : Nat) (n : Nat) t ∧ Below w.heap.size w w2 ∧ R ≠ g) := by
            rw [hw2, hR]
            exact ⟨(hT.call hb1).call (below_alloc0 (Below.refl _ _) _), Own3.new rfl, below_alloc0 hb1 _, Nat.ne_of_gt (hT.call hb1).2.2.2⟩
          go_wp2_with fail
          rw [← hw2, ← hR]
          clear hb1 KU hw2 hR
          obtain ⟨t0, t1, tf, tg⟩ := H2.out.1
          obtain ⟨⟨o0, o1, o2⟩, -, -⟩ := H2.out.2.1
          have n1 : R ≠ g := H2.out.2.2.2
          have n2 : g ≠ R := Ne.symm n1
          have f0 := tf 0
          have f1 := tf 1
          clear tf
          go_quiet (fail)
          go_wp2_with fail
          go_quiet (fail)
          go_wp2_with fail
          go_quiet (fail)
          go_wp2_with fail
          exact bodyPost_ret (v := .tuple #[.string ⟨#[]⟩, .bool false, .int .i64 0]) (by simp [results, Try.results20, go_sem]) rfl ⟨rfl, H2.out.1, (by repeat (first | exact But.of_below H2.out.2.2.1 | refine But.drewN ?_ | refine But.set ?_ _))⟩
end Go.Proofs.Ytadcjdffjhiniaa
