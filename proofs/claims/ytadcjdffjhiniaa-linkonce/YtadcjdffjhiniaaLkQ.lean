/- The reference of layer 12: an end that sends. -/
import Derived.Test.YtadcjdffjhiniaaLkM
namespace Go.Proofs.Ytadcjdffjhiniaa
open Go Go.RowKit Go.Lib

theorem rpush_long (p : Option Addr) (s : ByteArray) (hs : 7900 < s.size) (w : World) : Calls Try.prog 11 #[.pointer p, .string s] w fun e w' => e = .returned (.tuple #[.int .i64 0, .int .i64 2]) ∧ w' = w := by
  have hs' : (7900 : Int) < (s.size : Int) := by omega
  go_enter Try.func11, Try.ntmps11
  go_wp2
  go_ret2
  exact ⟨rfl, rfl⟩
theorem rpush_full (g : Nat) (F : Nat → Prop) (life gone : Nat) (l : List ByteArray) (hl : l.length ≤ 1000000) (hg1 : gone ≤ l.length) (s : ByteArray) (hs : ¬ 7900 < s.size) (hf : 64 ≤ l.length - gone) (w : World) (hS : SenderAt w g F life gone l) : Calls Try.prog 11 #[.pointer (some ⟨g, 0, none⟩), .string s] w fun e w' => e = .returned (.tuple #[.int .i64 0, .int .i64 5]) ∧ Below w.heap.size w w' := by
  obtain ⟨a, cap, c0, c1, c2, -, -, -, -⟩ := hS
  obtain ⟨n, hn⟩ : ∃ n, n = l.length := ⟨_, rfl⟩
  rw [← hn] at c2 hl hg1 hf
  have hs' : ¬ ((7900 : Int) < (s.size : Int)) := by omega
  have hf' : ((64 : Int) ≤ (n : Int) - (gone : Int)) := by omega
  have b1 : (n : Int) ≤ 1000000 := by omega
  have b2 : (gone : Int) ≤ 1000000 := by omega
  clear hn hs hf hl hg1
  go_enter Try.func11, Try.ntmps11
  go_wp2_with fail
  go_quiet (fail)
  go_wp2_with fail
  go_ret2
  exact ⟨rfl, below_drewN (Below.refl _ _) _⟩
set_option maxRecDepth 100000 in
set_option maxHeartbeats 1000000 in
theorem rpush_ok (g : Nat) (F : Nat → Prop) (life gone : Nat) (l : List ByteArray) (hl : l.length ≤ 1000000) (hg1 : gone ≤ l.length) (s : ByteArray) (hs : ¬ 7900 < s.size) (hf : ¬ 64 ≤ l.length - gone) (w : World) (hS : SenderAt w g F life gone l) :
    Calls Try.prog 11 #[.pointer (some ⟨g, 0, none⟩), .string s] w fun e w' => e = .returned (.tuple #[.int .i64 ((l.length + 1 : Nat) : Int), .int .i64 0]) ∧ SenderAt w' g F life gone (l ++ [s]) ∧ But g F w w' := by
  obtain ⟨i0, hi, hz0, hz1, hz2⟩ := infoStr
  have hlt := hS.lt
  obtain ⟨a, cap, c0, c1, c2, fz, hg, hB, hR⟩ := hS
  obtain ⟨n, hn⟩ : ∃ n, n = l.length := ⟨_, rfl⟩
  rw [← hn]
  rw [← hn] at c2 hl hg1 hf
  have hs' : ¬ ((7900 : Int) < (s.size : Int)) := by omega
  have hf' : ¬ ((64 : Int) ≤ (n : Int) - (gone : Int)) := by omega
  have b1 : (n : Int) ≤ 1000000 := by omega
  have b2 : (gone : Int) ≤ 1000000 := by omega
  have HH : Hid ((∀ o, w.frozen? ⟨g, o, none⟩ = false) ∧ ¬ F g ∧ (∀ k, w.heap.size ≤ k → F k) ∧ RowV w F a (l.map Value.string) cap ∧ n = l.length ∧ n ≤ 1000000 ∧ g < w.heap.size) := ⟨fz, hg, hB, hR, hn, hl, hlt⟩
  have HC : Hid (w.cell? ⟨g, 0, none⟩ = some (.int .i64 (life : Nat)) ∧ w.cell? ⟨g, 1, none⟩ = some (.int .i64 (gone : Nat)) ∧ w.cell? ⟨g, 2, none⟩ = some (.slice a n cap)) := ⟨c0, c1, c2⟩
  have hsz : ∀ w, (Go.sizeOf 9).run Try.prog w = .ok 1 w := fun _ => by kernel_rfl
  clear fz hg hB hR hn hlt hs hf hl hg1 c0
  go_enter Try.func11, Try.ntmps11
  go_wp2_with fail
  go_quiet (fail)
  obtain ⟨wq, hwq⟩ : ∃ y, y = w.drewN nq := ⟨_, rfl⟩
  rw [← hwq]
  have HQ : Hid (Below w.heap.size w wq) := by rw [hwq]; exact below_drewN (Below.refl _ _) _
  have c2q : wq.cell? ⟨g, 2, none⟩ = some (.slice a n cap) := by rw [hwq]; exact c2
  have HA : Hid (RowV (wq.alloc (.cells #[.string s] 9)) F a (l.map Value.string) cap ∧ (∀ k, (wq.alloc (.cells #[.string s] 9)).heap.size ≤ k → F k)) := ⟨HH.out.2.2.2.1.call (below_alloc0 HQ.out _), fun k hk => HH.out.2.2.1 k (Nat.le_trans (below_alloc0 HQ.out (.cells #[.string s] 9)).size hk)⟩
  clear hwq c1 c2
  go_wp2_with (at_builtin; refine wpList_append_RowV _ rfl _ _ 29 rfl F 9 i0 (.string ⟨#[]⟩) 16 Try.underlying29 hi hz0 rfl hz1 hz2 a n cap (l.map Value.string) [.string s] rfl (by rw [List.length_map]; exact HH.out.2.2.2.2.1) HA.out.1 (by rw [List.length_map, ← HH.out.2.2.2.2.1]; have := HH.out.2.2.2.2.2.1; unfold maxLen; simp; omega) (by rw [List.length_map, ← HH.out.2.2.2.2.1]; have := HH.out.2.2.2.2.2.1; simp; omega) HA.out.2 ⟨wq.heap.size, 0, none⟩ 1 1 rfl rfl (cell_new1 s wq _) (str_one s) ?_; intro a8 m8 c8 w8 hm8 hR8 hb8; have H8 : Hid (m8 = n + 1 ∧ RowV w8 F a8 (l.map Value.string ++ [.string s]) c8 ∧ Off F w w8) := ⟨hm8, hR8, (Off.of_below (below_alloc0 HQ.out _) HH.out.2.2.1).trans hb8⟩; clear hm8 hR8 hb8; have f2 : w8.cell? ⟨g, 2, none⟩ = some (.slice a n cap) := (H8.out.2.2.cell (p := ⟨g, 2, none⟩) HH.out.2.1).trans HC.out.2.2; have z2 : w8.frozen? ⟨g, 2, none⟩ = false := (H8.out.2.2.frozen (p := ⟨g, 2, none⟩) HH.out.2.1).trans (HH.out.1 2))
  go_ret2
  obtain ⟨fz, hg, hB, hR, hn, -, -⟩ := HH.out
  obtain ⟨hm, hR8, hb8⟩ := H8.out
  refine ⟨by rw [hm]; rfl, ⟨a8, c8, ?_, ?_, ?_, fun o => ?_, hg, fun k hk => ?_, ?_⟩, (But.of_off hb8).set _⟩
  · rw [World.cell?_setCell_other _ _ _ _ (by intro c; injection c with _ c2 _; omega)]
    exact (hb8.cell (p := ⟨g, 0, none⟩) hg).trans HC.out.1
  · rw [World.cell?_setCell_other _ _ _ _ (by intro c; injection c with _ c2 _; omega)]
    exact (hb8.cell (p := ⟨g, 1, none⟩) hg).trans HC.out.2.1
  · rw [World.cell?_setCell_same _ _ _ f2, hm, hn, List.length_append]
    rfl
  · rw [World.frozen?_setCell]; exact (hb8.frozen (p := ⟨g, o, none⟩) hg).trans (fz o)
  · rw [World.size_setCell] at hk; exact hB k (Nat.le_trans hb8.size hk)
  · rw [List.map_append]; exact hR8.set hg _
/-- What an end that sends answers to an ack: how many wait no longer, why not; how many are acknowledged behind it. -/
def hdR (s : ByteArray) (life gone n : Nat) : Nat × Int × Nat := match lkU 2 0 s with
  | none => (0, 4, gone)
  | some (l, k, _) => if l ≠ life ∨ n < k then (0, 7, gone) else if k ≤ gone then (0, 0, gone) else (k - gone, 0, k)
theorem SenderAt.set1 {w : World} {g life last v : Nat} {F : Nat → Prop} {l : List ByteArray} (h : SenderAt w g F life last l) : SenderAt (w.setCell ⟨g, 1, none⟩ (.int .i64 (v : Nat))) g F life v l := by
  obtain ⟨a, cap, c0, c1, c2, fz, hg, hB, hR⟩ := h
  exact ⟨a, cap, by rw [World.cell?_setCell_other _ _ _ _ (by intro c; injection c with _ c2 _; omega)]; exact c0, World.cell?_setCell_same _ _ _ c1, by rw [World.cell?_setCell_other _ _ _ _ (by intro c; injection c with _ c2 _; omega)]; exact c2, fun o => by rw [World.frozen?_setCell]; exact fz o, hg, fun k hk => hB k (by rwa [World.size_setCell] at hk), hR.set hg _⟩
set_option maxRecDepth 100000 in
set_option maxHeartbeats 4000000 in
theorem rheard_any (g : Nat) (F : Nat → Prop) (life gone : Nat) (l : List ByteArray) (hl : l.length ≤ 1000000) (hg1 : gone ≤ l.length) (s : ByteArray) (hs : s.size < 140737488351233) (w : World) (hS : SenderAt w g F life gone l) :
    Calls Try.prog 13 #[.pointer (some ⟨g, 0, none⟩), .string s] w fun e w' => e = .returned (.tuple #[.int .i64 ((hdR s life gone l.length).1 : Nat), .int .i64 (hdR s life gone l.length).2.1]) ∧ SenderAt w' g F life (hdR s life gone l.length).2.2 l ∧ But g F w w' := by
  have KU : Hid _ := fun w' : World => ropen2_any s hs w'
  have HS : Hid (SenderAt w g F life gone l) := hS
  have HF : Hid (∀ k, w.heap.size ≤ k → F k) := by obtain ⟨a, cap, c0, c1, c2, fz, hg, hB, hR⟩ := hS; exact hB
  obtain ⟨n, hn⟩ : ∃ n, n = l.length := ⟨_, rfl⟩
  rw [← hn]
  rw [← hn] at hl hg1
  have HN : Hid (n = l.length) := hn
  clear hn hS
  match h : lkU 2 0 s with
  | none =>
    have er : hdR s life gone n = (0, 4, gone) := by unfold hdR; rw [h]
    have ea : rdA s = none := by unfold rdA; rw [h]; rfl
    rw [er]
    rw [ea] at KU
    have KU : Hid (∀ w : World, Calls Try.prog 24 #[.string s, .int .i64 2] w fun e w' => e = .returned (.tuple #[.agg #[.int .i64 0, .int .i64 0, .string ⟨#[]⟩], .bool false]) ∧ Below w.heap.size w w') := KU.out
    clear h er ea hs
    go_enter Try.func13, Try.ntmps13
    go_wp2_with fail
    refine (KU.out _).mono ?_
    rintro e w1 ⟨rfl, hb1⟩
    have H1 : Hid _ := hb1
    clear hb1 KU
    go_wp2_with fail
    go_ret2
    exact ⟨rfl, (HS.out.call H1.out).call (below_alloc0 (Below.refl _ _) _), But.of_off (Off.of_below (below_alloc0 H1.out _) HF.out)⟩
  | some (l', k, r) =>
    obtain ⟨a', b', -, -, -, -, -, -, -, -, kb⟩ := lkU_inv h
    have er : hdR s life gone n = (if l' ≠ life ∨ n < k then (0, 7, gone) else if k ≤ gone then (0, 0, gone) else (k - gone, 0, k)) := by unfold hdR; rw [h]
    have ea : rdA s = some (l', k, ⟨#[]⟩) := by unfold rdA; rw [h]; rfl
    rw [er]
    rw [ea] at KU
    have KU : Hid (∀ w : World, Calls Try.prog 24 #[.string s, .int .i64 2] w fun e w' => e = .returned (.tuple #[.agg #[.int .i64 (l' : Nat), .int .i64 (k : Nat), .string ⟨#[]⟩], .bool true]) ∧ Below w.heap.size w w') := KU.out
    clear h er ea hs
    have kb' : (k : Int) ≤ 1099511627776 := by omega
    have gb' : (gone : Int) ≤ 1000000 := by omega
    by_cases c1 : l' = life
    · subst c1
      by_cases c2 : n < k
      · rw [if_pos (.inr c2)]
        have c2' : (n : Int) < (k : Int) := by omega
        clear kb hl hg1
        go_enter Try.func13, Try.ntmps13
        go_wp2_with fail
        refine (KU.out _).mono ?_
        rintro e w1 ⟨rfl, hb1⟩
        obtain ⟨w2, hw2⟩ : ∃ y, y = w1.alloc (.cells #[.int .i64 (l' : Nat), .int .i64 (k : Nat), .string ⟨#[]⟩] 62) := ⟨_, rfl⟩
        obtain ⟨R, hR⟩ : ∃ y, y = w1.heap.size := ⟨_, rfl⟩
        have H2 : Hid (SenderAt w2 g F l' gone l ∧ Own3 w2 R (l' : Nat) (k : Nat) ⟨#[]⟩ ∧ Below w.heap.size w w2 ∧ R ≠ g) := by
          rw [hw2, hR]
          exact ⟨(HS.out.call hb1).call (below_alloc0 (Below.refl _ _) _), Own3.new rfl, below_alloc0 hb1 _, Nat.ne_of_gt (HS.out.call hb1).lt⟩
        go_wp2_with fail
        rw [← hw2, ← hR]
        clear hb1 KU hw2 hR
        obtain ⟨a, cap, c0, c1, c2, fz, hg, hB, hRow⟩ := H2.out.1
        rw [← HN.out] at c2
        obtain ⟨⟨o0, o1, o2⟩, -, -⟩ := H2.out.2.1
        have n1 : R ≠ g := H2.out.2.2.2
        have n2 : g ≠ R := Ne.symm n1
        have f1 := fz 1
        have HX : Hid ((∀ o, w2.frozen? ⟨g, o, none⟩ = false) ∧ ¬ F g ∧ (∀ k, w2.heap.size ≤ k → F k) ∧ RowV w2 F a (l.map Value.string) cap) := ⟨fz, hg, hB, hRow⟩
        clear fz hg hB hRow
        go_quiet (fail)
        go_wp2_with fail
        go_ret2
        refine ⟨rfl, H2.out.1, ?_⟩
        repeat (first | exact But.of_off (Off.of_below H2.out.2.2.1 HF.out) | refine But.drewN ?_ | refine But.set ?_ _)
      · rw [if_neg (fun q => q.elim (fun q => q rfl) c2)]
        have c2' : ¬ ((n : Int) < (k : Int)) := by omega
        by_cases c3 : k ≤ gone
        · rw [if_pos c3]
          have c3' : (k : Int) ≤ (gone : Int) := by omega
          clear kb hl hg1
          go_enter Try.func13, Try.ntmps13
          go_wp2_with fail
          refine (KU.out _).mono ?_
          rintro e w1 ⟨rfl, hb1⟩
          obtain ⟨w2, hw2⟩ : ∃ y, y = w1.alloc (.cells #[.int .i64 (l' : Nat), .int .i64 (k : Nat), .string ⟨#[]⟩] 62) := ⟨_, rfl⟩
          obtain ⟨R, hR⟩ : ∃ y, y = w1.heap.size := ⟨_, rfl⟩
          have H2 : Hid (SenderAt w2 g F l' gone l ∧ Own3 w2 R (l' : Nat) (k : Nat) ⟨#[]⟩ ∧ Below w.heap.size w w2 ∧ R ≠ g) := by
            rw [hw2, hR]
            exact ⟨(HS.out.call hb1).call (below_alloc0 (Below.refl _ _) _), Own3.new rfl, below_alloc0 hb1 _, Nat.ne_of_gt (HS.out.call hb1).lt⟩
          go_wp2_with fail
          rw [← hw2, ← hR]
          clear hb1 KU hw2 hR
          obtain ⟨a, cap, c0, c1, c2, fz, hg, hB, hRow⟩ := H2.out.1
          rw [← HN.out] at c2
          obtain ⟨⟨o0, o1, o2⟩, -, -⟩ := H2.out.2.1
          have n1 : R ≠ g := H2.out.2.2.2
          have n2 : g ≠ R := Ne.symm n1
          have f1 := fz 1
          have HX : Hid ((∀ o, w2.frozen? ⟨g, o, none⟩ = false) ∧ ¬ F g ∧ (∀ k, w2.heap.size ≤ k → F k) ∧ RowV w2 F a (l.map Value.string) cap) := ⟨fz, hg, hB, hRow⟩
          clear fz hg hB hRow
          go_quiet (fail)
          go_wp2_with fail
          go_quiet (fail)
          go_wp2_with fail
          go_ret2
          refine ⟨rfl, H2.out.1, ?_⟩
          repeat (first | exact But.of_off (Off.of_below H2.out.2.2.1 HF.out) | refine But.drewN ?_ | refine But.set ?_ _)
        · rw [if_neg c3]
          have c3' : ¬ ((k : Int) ≤ (gone : Int)) := by omega
          have e3 : ((k - gone : Nat) : Int) = (k : Int) - (gone : Int) := by omega
          rw [e3]
          clear kb hl hg1 e3
          go_enter Try.func13, Try.ntmps13
          go_wp2_with fail
          refine (KU.out _).mono ?_
          rintro e w1 ⟨rfl, hb1⟩
          obtain ⟨w2, hw2⟩ : ∃ y, y = w1.alloc (.cells #[.int .i64 (l' : Nat), .int .i64 (k : Nat), .string ⟨#[]⟩] 62) := ⟨_, rfl⟩
          obtain ⟨R, hR⟩ : ∃ y, y = w1.heap.size := ⟨_, rfl⟩
          have H2 : Hid (SenderAt w2 g F l' gone l ∧ Own3 w2 R (l' : Nat) (k : Nat) ⟨#[]⟩ ∧ Below w.heap.size w w2 ∧ R ≠ g) := by
            rw [hw2, hR]
            exact ⟨(HS.out.call hb1).call (below_alloc0 (Below.refl _ _) _), Own3.new rfl, below_alloc0 hb1 _, Nat.ne_of_gt (HS.out.call hb1).lt⟩
          go_wp2_with fail
          rw [← hw2, ← hR]
          clear hb1 KU hw2 hR
          obtain ⟨a, cap, c0, c1, c2, fz, hg, hB, hRow⟩ := H2.out.1
          rw [← HN.out] at c2
          obtain ⟨⟨o0, o1, o2⟩, -, -⟩ := H2.out.2.1
          have n1 : R ≠ g := H2.out.2.2.2
          have n2 : g ≠ R := Ne.symm n1
          have f1 := fz 1
          have HX : Hid ((∀ o, w2.frozen? ⟨g, o, none⟩ = false) ∧ ¬ F g ∧ (∀ k, w2.heap.size ≤ k → F k) ∧ RowV w2 F a (l.map Value.string) cap) := ⟨fz, hg, hB, hRow⟩
          clear fz hg hB hRow
          go_quiet (fail)
          go_wp2_with fail
          go_quiet (fail)
          go_wp2_with fail
          go_quiet (fail)
          go_wp2_with fail
          go_ret2
          refine ⟨rfl, H2.out.1.set1, ?_⟩
          repeat (first | exact But.of_off (Off.of_below H2.out.2.2.1 HF.out) | refine But.drewN ?_ | refine But.set ?_ _)
    · rw [if_pos (.inl c1)]
      have c1' : ¬ ((l' : Int) = (life : Int)) := by omega
      clear kb hl hg1
      go_enter Try.func13, Try.ntmps13
      go_wp2_with fail
      refine (KU.out _).mono ?_
      rintro e w1 ⟨rfl, hb1⟩
      obtain ⟨w2, hw2⟩ : ∃ y, y = w1.alloc (.cells #[.int .i64 (l' : Nat), .int .i64 (k : Nat), .string ⟨#[]⟩] 62) := ⟨_, rfl⟩
      obtain ⟨R, hR⟩ : ∃ y, y = w1.heap.size := ⟨_, rfl⟩
      have H2 : Hid (SenderAt w2 g F life gone l ∧ Own3 w2 R (l' : Nat) (k : Nat) ⟨#[]⟩ ∧ Below w.heap.size w w2 ∧ R ≠ g) := by
        rw [hw2, hR]
        exact ⟨(HS.out.call hb1).call (below_alloc0 (Below.refl _ _) _), Own3.new rfl, below_alloc0 hb1 _, Nat.ne_of_gt (HS.out.call hb1).lt⟩
      go_wp2_with fail
      rw [← hw2, ← hR]
      clear hb1 KU hw2 hR
      obtain ⟨a, cap, c0, c1, c2, fz, hg, hB, hRow⟩ := H2.out.1
      rw [← HN.out] at c2
      obtain ⟨⟨o0, o1, o2⟩, -, -⟩ := H2.out.2.1
      have n1 : R ≠ g := H2.out.2.2.2
      have n2 : g ≠ R := Ne.symm n1
      have f1 := fz 1
      have HX : Hid ((∀ o, w2.frozen? ⟨g, o, none⟩ = false) ∧ ¬ F g ∧ (∀ k, w2.heap.size ≤ k → F k) ∧ RowV w2 F a (l.map Value.string) cap) := ⟨fz, hg, hB, hRow⟩
      clear fz hg hB hRow
      go_quiet (fail)
      go_wp2_with fail
      go_ret2
      refine ⟨rfl, H2.out.1, ?_⟩
      repeat (first | exact But.of_off (Off.of_below H2.out.2.2.1 HF.out) | refine But.drewN ?_ | refine But.set ?_ _)
end Go.Proofs.Ytadcjdffjhiniaa
