/- Package link: an end that sends hears an ack. -/
import Derived.Test.YtadcjdffjhiniaaLkE
namespace Go.Proofs.Ytadcjdffjhiniaa
open Go Go.RowKit Go.Lib

theorem heard_form (p : Option Addr) (s : ByteArray) (hs : s.size < 140737488351233) (h : lkU 2 0 s = none) (w : World) : Calls Try.prog 12 #[.pointer p, .string s] w fun e w' => e = .returned (.tuple #[.int .i64 0, .int .i64 4]) ∧ Below w.heap.size w w' := by
  have KU : Hid _ := fun w' : World => lunpack_no (k := 2) (rest := 0) hs (by decide) h w'
  clear h hs
  go_enter Try.func12, Try.ntmps12
  go_wp2_with fail
  refine (KU.out _).mono ?_
  rintro e w1 ⟨rfl, hb1⟩
  have H1 : Hid _ := hb1
  clear hb1 KU
  go_wp2_with fail
  go_ret2
  exact ⟨rfl, H1.out⟩
theorem heard_nil (s : ByteArray) (hs : s.size < 140737488351233) {l n : Nat} {r : List ByteArray} (h : lkU 2 0 s = some (l, n, r)) (w : World) : Calls Try.prog 12 #[.pointer none, .string s] w fun e w' => e = .returned (.tuple #[.int .i64 0, .int .i64 7]) ∧ Below w.heap.size w w' := by
  have KU : Hid _ := fun w' : World => lunpack_in (k := 2) (rest := 0) hs (by decide) h w'
  clear h hs
  go_enter Try.func12, Try.ntmps12
  go_wp2_with fail
  refine (KU.out _).mono ?_
  rintro e w1 ⟨a, cap, rfl, -, hb1⟩
  have H1 : Hid _ := hb1
  clear hb1 KU
  go_wp2_with fail
  go_ret2
  exact ⟨rfl, H1.out⟩
theorem heard_state (g : Nat) (F : Nat → Prop) (life last : Nat) (L : List ByteArray) (s : ByteArray) (hs : s.size < 140737488351233) {l n : Nat} {r : List ByteArray} (h : lkU 2 0 s = some (l, n, r)) (hbad : l ≠ life ∨ last < n) (w : World) (hS : SenderAt w g F life last L) : Calls Try.prog 12 #[.pointer (some ⟨g, 0, none⟩), .string s] w fun e w' => e = .returned (.tuple #[.int .i64 0, .int .i64 7]) ∧ Below w.heap.size w w' := by
  have KU : Hid _ := fun w' : World => lunpack_in (k := 2) (rest := 0) hs (by decide) h w'
  clear h hs
  by_cases hl : l = life
  · subst hl
    have hn' : last < n := hbad.resolve_left (fun c => c rfl)
    have hn'' : (last : Int) < (n : Int) := by omega
    clear hbad
    go_enter Try.func12, Try.ntmps12
    go_wp2_with fail
    refine (KU.out _).mono ?_
    rintro e w1 ⟨a, cap, rfl, -, hb1⟩
    obtain ⟨a', cap', c0, c1, c2, -⟩ := hS.call hb1
    have H1 : Hid _ := hb1
    clear hb1 KU
    go_wp2_with fail
    go_ret2
    exact ⟨rfl, H1.out⟩
  · have hl' : ¬ ((l : Int) = (life : Int)) := by omega
    clear hbad hl
    go_enter Try.func12, Try.ntmps12
    go_wp2_with fail
    refine (KU.out _).mono ?_
    rintro e w1 ⟨a, cap, rfl, -, hb1⟩
    obtain ⟨a', cap', c0, c1, c2, -⟩ := hS.call hb1
    have H1 : Hid _ := hb1
    clear hb1 KU
    go_wp2_with fail
    go_ret2
    exact ⟨rfl, H1.out⟩
theorem RowV.cutE {w : World} {F : Nat → Prop} {cap : Nat} {b o : Nat} {vs : List Value} (h : RowV w F (some ⟨b, o, none⟩) vs cap) (o' : Nat) : RowV w F (some ⟨b, o', none⟩) [] 0 := by
  rcases h with ⟨h, _⟩ | ⟨b', o'', h1, h2, h3, h4, h5, h6, h7, h8⟩
  · cases h
  · cases h1
    exact .inr ⟨b, o', rfl, h2, h3, Nat.zero_le _, Nat.zero_le _, fun j u hj => by simp at hj, fun j hj => absurd hj (by omega), h8⟩
theorem SenderAt.put {w : World} {g life last : Nat} {F : Nat → Prop} {m : List ByteArray} {a a' : Option Addr} {cap cap' n : Nat} (c0 : w.cell? ⟨g, 0, none⟩ = some (.int .i64 (life : Nat))) (c1 : w.cell? ⟨g, 1, none⟩ = some (.int .i64 (last : Nat))) (c2 : w.cell? ⟨g, 2, none⟩ = some (.slice a n cap)) (fz : ∀ o, w.frozen? ⟨g, o, none⟩ = false) (hg : ¬ F g) (hB : ∀ k, w.heap.size ≤ k → F k) (hR : RowV w F a' (m.map Value.string) cap') :
    SenderAt (w.setCell ⟨g, 2, none⟩ (.slice a' m.length cap')) g F life last m :=
  ⟨a', cap', by rw [World.cell?_setCell_other _ _ _ _ (by intro c; injection c with _ c2 _; omega)]; exact c0, by rw [World.cell?_setCell_other _ _ _ _ (by intro c; injection c with _ c2 _; omega)]; exact c1, World.cell?_setCell_same _ _ _ c2, fun o => by rw [World.frozen?_setCell]; exact fz o, hg, fun k hk => hB k (by rwa [World.size_setCell] at hk), hR.set hg _⟩
set_option maxHeartbeats 2000000 in
theorem heard_in (g : Nat) (F : Nat → Prop) (life last : Nat) (L : List ByteArray) (hL : L.length ≤ last) (hlast : last ≤ 1099511627776) (s : ByteArray) (hs : s.size < 140737488351233) {k : Nat} {r : List ByteArray} (h : lkU 2 0 s = some (life, k, r)) (hk : k ≤ last) (w : World) (hS : SenderAt w g F life last L) :
    Calls Try.prog 12 #[.pointer (some ⟨g, 0, none⟩), .string s] w fun e w' => e = .returned (.tuple #[.int .i64 ((k - (last - L.length) : Nat) : Int), .int .i64 0]) ∧ SenderAt w' g F life last (L.drop (k - (last - L.length))) ∧ But g F w w' := by
  have KU : Hid _ := fun w' : World => lunpack_in (k := 2) (rest := 0) hs (by decide) h w'
  have KC : Hid _ := fun (w' : World) (h : SenderAt w' g F life last L) => scame_any g F life last L hL hlast w' h
  have HS : Hid (SenderAt w g F life last L) := hS
  have hlt := hS.lt
  obtain ⟨a, cap, c0, c1, c2, fz, hg, hB, hR⟩ := hS
  have hcap := hR.len
  rw [List.length_map] at hcap
  obtain ⟨n, hn⟩ : ∃ n, n = L.length := ⟨_, rfl⟩
  obtain ⟨C, hC⟩ : ∃ C, C = last - L.length := ⟨_, rfl⟩
  obtain ⟨q, hq⟩ : ∃ q, q = k - C := ⟨_, rfl⟩
  rw [← hC] at KC ⊢
  rw [← hq]
  rw [← hn] at c2
  have HH : Hid ((∀ o, w.frozen? ⟨g, o, none⟩ = false) ∧ ¬ F g ∧ (∀ k, w.heap.size ≤ k → F k) ∧ RowV w F a (L.map Value.string) cap ∧ g < w.heap.size) := ⟨fz, hg, hB, hR, hlt⟩
  have HC0 : Hid (w.cell? ⟨g, 0, none⟩ = some (.int .i64 (life : Nat)) ∧ w.cell? ⟨g, 1, none⟩ = some (.int .i64 (last : Nat)) ∧ w.cell? ⟨g, 2, none⟩ = some (.slice a n cap)) := ⟨c0, c1, c2⟩
  have HN : Hid (n = L.length ∧ C = last - L.length ∧ q = k - C ∧ q ≤ n) := ⟨hn, hC, hq, by omega⟩
  have hk' : ¬ ((last : Int) < (k : Int)) := by omega
  have hk'' : ¬ (last < k) := by omega
  have kb : (k : Int) ≤ 1099511627776 := by omega
  have Cb : (C : Int) ≤ 1099511627776 := by omega
  have hmax : max (0 : Int) ((k : Int) - (C : Int)) = (q : Nat) := by omega
  have q1 : (q : Int) ≤ (n : Int) := by omega
  have q2 : (n : Int) ≤ (cap : Int) := by omega
  have hqd : (L.drop q).length = n - q := by rw [List.length_drop, hn]
  have HQ : Hid _ := hqd
  clear h hs fz hg hB hR hlt c0 c1 c2 hn hC hq hk hL hlast hqd hcap
  rcases Classical.em (a = none) with ha | ha
  · have hL0 : L = [] ∧ cap = 0 := by
      rcases HH.out.2.2.2.1 with ⟨_, h2, h3⟩ | ⟨b, o, h1, _⟩
      · exact ⟨List.map_eq_nil_iff.1 h2, h3⟩
      · rw [ha] at h1; cases h1
    obtain rfl : n = 0 := by rw [HN.out.1, hL0.1]; rfl
    obtain rfl : q = 0 := by have := HN.out.2.2.2; omega
    obtain rfl : cap = 0 := hL0.2
    subst ha
    have HL0 : Hid (L = []) := hL0.1
    clear hL0
    go_enter Try.func12, Try.ntmps12
    go_wp2_with fail
    refine (KU.out _).mono ?_
    rintro e w1 ⟨a1, cap1, rfl, -, hb1⟩
    have HS1 : Hid (SenderAt w1 g F life last L) := HS.out.call hb1
    obtain ⟨c0, c1, c2⟩ : w1.cell? ⟨g, 0, none⟩ = some (.int .i64 (life : Nat)) ∧ w1.cell? ⟨g, 1, none⟩ = some (.int .i64 (last : Nat)) ∧ w1.cell? ⟨g, 2, none⟩ = some (.slice none 0 0) := ⟨(hb1.cell (p := ⟨g, 0, none⟩) HH.out.2.2.2.2).trans HC0.out.1, (hb1.cell (p := ⟨g, 1, none⟩) HH.out.2.2.2.2).trans HC0.out.2.1, (hb1.cell (p := ⟨g, 2, none⟩) HH.out.2.2.2.2).trans HC0.out.2.2⟩
    have H1 : Hid (Below w.heap.size w w1) := hb1
    clear hb1 KU
    go_wp2_with fail
    refine (KC.out _ HS1.out).mono ?_
    rintro e w2 ⟨rfl, hb2⟩
    have H2 : Hid (Below w.heap.size w w2) := below_call0 H1.out hb2
    have HC : Hid (w2.cell? ⟨g, 0, none⟩ = some (.int .i64 (life : Nat)) ∧ w2.cell? ⟨g, 1, none⟩ = some (.int .i64 (last : Nat)) ∧ w2.cell? ⟨g, 2, none⟩ = some (.slice none 0 0) ∧ g < w2.heap.size) := ⟨(H2.out.cell (p := ⟨g, 0, none⟩) HH.out.2.2.2.2).trans HC0.out.1, (H2.out.cell (p := ⟨g, 1, none⟩) HH.out.2.2.2.2).trans HC0.out.2.1, (H2.out.cell (p := ⟨g, 2, none⟩) HH.out.2.2.2.2).trans HC0.out.2.2, Nat.lt_of_lt_of_le HH.out.2.2.2.2 H2.out.size⟩
    have z2 : w2.frozen? ⟨g, 2, none⟩ = false := (H2.out.frozen (p := ⟨g, 2, none⟩) HH.out.2.2.2.2).trans (HH.out.1 2)
    clear hb2 KC c0 c1 c2
    go_wp2_with fail
    have c2 := HC.out.2.2.1
    refine wp_region_N (fun w' => Below w2.heap.size w2 w') 16 20 rfl (by kernel_rfl) ?_
    refine wpAnyN_takeF (i := 0) (oi := ?o0) (v := ?v0) ?hi0 (by kernel_rfl) (by kernel_rfl) (by kernel_rfl) (by decide) ?hQ0 ?hy0 (Below.drew (Below.refl _ _)) ?more0
    case hi0 => rw [List.getElem?_toArray]; exact rfl
    case hQ0 => exact fun _ _ _ h => h
    case hy0 =>
      refine Or.inl ⟨by rfl, ?_⟩
      intro w' hSw
      clear hSw
      go_simp
      try with_reducible rfl
    simp only [Act.put, List.setIfInBounds_toArray, List.set_cons_zero, List.set_cons_succ]
    refine wpAnyN_takeF (i := 1) (oi := ?o1) (v := ?v1) ?hi1 (by kernel_rfl) (by kernel_rfl) (by kernel_rfl) (by decide) ?hQ1 ?hy1 (Below.drew (Below.refl _ _)) ?more1
    case hi1 => rw [List.getElem?_toArray]; exact rfl
    case hQ1 => exact fun _ _ _ h => h
    case hy1 =>
      refine Or.inl ⟨by rfl, ?_⟩
      intro w' hSw
      clear hSw
      go_simp
      try with_reducible rfl
    simp only [Act.put, List.setIfInBounds_toArray, List.set_cons_zero, List.set_cons_succ]
    refine wpAnyN_takeF (i := 2) (oi := ?o2) (v := ?v2) ?hi2 (by kernel_rfl) (by kernel_rfl) (by kernel_rfl) (by decide) ?hQ2 ?hy2 (Below.drew (Below.refl _ _)) ?more2
    case hi2 => rw [List.getElem?_toArray]; exact rfl
    case hQ2 => exact fun _ _ _ h => h
    case hy2 =>
      refine Or.inl ⟨by rfl, ?_⟩
      intro w' hSw
      clear hSw
      go_simp
      try with_reducible rfl
    simp only [Act.put, List.setIfInBounds_toArray, List.set_cons_zero, List.set_cons_succ]
    refine wpAnyN_takeF (i := 3) (oi := ?o3) (v := ?v3) ?hi3 (by kernel_rfl) (by kernel_rfl) (by kernel_rfl) (by decide) ?hQ3 ?hy3 (Below.drew (Below.refl _ _)) ?more3
    case hi3 => rw [List.getElem?_toArray]; exact rfl
    case hQ3 => exact fun _ _ _ h => h
    case hy3 =>
      refine Or.inl ⟨by rfl, ?_⟩
      intro w' hSw
      clear hSw
      go_simp
      try with_reducible rfl
    simp only [Act.put, List.setIfInBounds_toArray, List.set_cons_zero, List.set_cons_succ]
    refine wpAnyN_take (i := 4) (oi := ?o4) (v := ?v4) ?hi4 (by kernel_rfl) (by kernel_rfl) (by kernel_rfl) (by kernel_rfl) (by decide) (by kernel_rfl) ?hQ4 ?hy4 (Below.drew (Below.refl _ _)) ?more4
    case hi4 => rw [List.getElem?_toArray]; exact rfl
    case hQ4 => exact fun _ _ _ h => h
    case hy4 =>
      refine Or.inl ⟨by rfl, ?_⟩
      intro w' hSw
      have c2 := (hSw.cell (p := ⟨g, 2, none⟩) HC.out.2.2.2).trans HC.out.2.2.1
      clear hSw
      go_simp
      try with_reducible rfl
    simp only [Act.put, List.setIfInBounds_toArray, List.set_cons_zero, List.set_cons_succ]
    refine wpAnyN_take (i := 5) (oi := ?o5) (v := ?v5) ?hi5 (by kernel_rfl) (by kernel_rfl) (by kernel_rfl) (by kernel_rfl) (by decide) (by kernel_rfl) ?hQ5 ?hy5 (Below.drew (Below.refl _ _)) ?more5
    case hi5 => rw [List.getElem?_toArray]; exact rfl
    case hQ5 => exact fun _ _ _ h => h
    case hy5 =>
      refine Or.inl ⟨by rfl, ?_⟩
      intro w' hSw
      have c2 := (hSw.cell (p := ⟨g, 2, none⟩) HC.out.2.2.2).trans HC.out.2.2.1
      clear hSw
      go_simp
      try with_reducible rfl
    simp only [Act.put, List.setIfInBounds_toArray, List.set_cons_zero, List.set_cons_succ]
    refine wpAnyN_takeF (i := 6) (oi := ?o6) (v := ?v6) ?hi6 (by kernel_rfl) (by kernel_rfl) (by kernel_rfl) (by decide) ?hQ6 ?hy6 (Below.drew (Below.refl _ _)) ?more6
    case hi6 => rw [List.getElem?_toArray]; exact rfl
    case hQ6 => exact fun _ _ _ h => h
    case hy6 =>
      refine Or.inl ⟨by rfl, ?_⟩
      intro w' hSw
      clear hSw
      go_simp
      try with_reducible rfl
    simp only [Act.put, List.setIfInBounds_toArray, List.set_cons_zero, List.set_cons_succ]
    refine wpAnyN_takeF (i := 7) (oi := ?o7) (v := ?v7) ?hi7 (by kernel_rfl) (by kernel_rfl) (by kernel_rfl) (by decide) ?hQ7 ?hy7 (Below.drew (Below.refl _ _)) ?more7
    case hi7 => rw [List.getElem?_toArray]; exact rfl
    case hQ7 => exact fun _ _ _ h => h
    case hy7 =>
      refine Or.inl ⟨by rfl, ?_⟩
      intro w' hSw
      clear hSw
      go_simp
      try with_reducible rfl
    simp only [Act.put, List.setIfInBounds_toArray, List.set_cons_zero, List.set_cons_succ]
    refine wpAnyN_takeF (i := 8) (oi := ?o8) (v := ?v8) ?hi8 (by kernel_rfl) (by kernel_rfl) (by kernel_rfl) (by decide) ?hQ8 ?hy8 (Below.drew (Below.refl _ _)) ?more8
    case hi8 => rw [List.getElem?_toArray]; exact rfl
    case hQ8 => exact fun _ _ _ h => h
    case hy8 =>
      refine Or.inl ⟨by rfl, ?_⟩
      intro w' hSw
      clear hSw
      go_simp
      try with_reducible rfl
    simp only [Act.put, List.setIfInBounds_toArray, List.set_cons_zero, List.set_cons_succ]
    refine wpAnyN_takeL (i := 9) (oi := ?o9) (v := ?v9) [10, 16] ?hi9 (by kernel_rfl) (by kernel_rfl) (by kernel_rfl) (by kernel_rfl) (by decide) (by decide) (by kernel_rfl) ?hQ9 ?hy9 (Below.drew (Below.refl _ _)) ?more9
    case hi9 => rw [List.getElem?_toArray]; exact rfl
    case hQ9 => exact fun _ _ _ h => h
    case hy9 =>
      refine Or.inl ⟨by rfl, ?_⟩
      intro w' hSw
      have c2 := (hSw.cell (p := ⟨g, 2, none⟩) HC.out.2.2.2).trans HC.out.2.2.1
      clear hSw
      go_simp
      try with_reducible rfl
    simp only [Act.put, List.setIfInBounds_toArray, List.set_cons_zero, List.set_cons_succ]
    refine wpAnyN_take (i := 10) (oi := ?o10) (v := ?v10) ?hi10 (by kernel_rfl) (by kernel_rfl) (by kernel_rfl) (by kernel_rfl) (by decide) (by kernel_rfl) ?hQ10 ?hy10 (Below.drew (Below.refl _ _)) ?more10
    case hi10 => rw [List.getElem?_toArray]; exact rfl
    case hQ10 => exact fun _ _ _ h => h
    case hy10 =>
      refine Or.inl ⟨by rfl, ?_⟩
      intro w' hSw
      have c2 := (hSw.cell (p := ⟨g, 2, none⟩) HC.out.2.2.2).trans HC.out.2.2.1
      clear hSw
      go_simp
      try with_reducible rfl
    simp only [Act.put, List.setIfInBounds_toArray, List.set_cons_zero, List.set_cons_succ]
    refine wpAnyN_takeF (i := 11) (oi := ?o11) (v := ?v11) ?hi11 (by kernel_rfl) (by kernel_rfl) (by kernel_rfl) (by decide) ?hQ11 ?hy11 (Below.drew (Below.refl _ _)) ?more11
    case hi11 => rw [List.getElem?_toArray]; exact rfl
    case hQ11 => exact fun _ _ _ h => h
    case hy11 =>
      refine Or.inl ⟨by rfl, ?_⟩
      intro w' hSw
      clear hSw
      go_simp
      try with_reducible rfl
    simp only [Act.put, List.setIfInBounds_toArray, List.set_cons_zero, List.set_cons_succ]
    refine wpAnyN_takeF (i := 12) (oi := ?o12) (v := ?v12) ?hi12 (by kernel_rfl) (by kernel_rfl) (by kernel_rfl) (by decide) ?hQ12 ?hy12 (Below.drew (Below.refl _ _)) ?more12
    case hi12 => rw [List.getElem?_toArray]; exact rfl
    case hQ12 => exact fun _ _ _ h => h
    case hy12 =>
      refine Or.inl ⟨by rfl, ?_⟩
      intro w' hSw
      clear hSw
      go_simp
      try with_reducible rfl
    simp only [Act.put, List.setIfInBounds_toArray, List.set_cons_zero, List.set_cons_succ]
    refine wpAnyN_takeF (i := 13) (oi := ?o13) (v := ?v13) ?hi13 (by kernel_rfl) (by kernel_rfl) (by kernel_rfl) (by decide) ?hQ13 ?hy13 (Below.drew (Below.refl _ _)) ?more13
    case hi13 => rw [List.getElem?_toArray]; exact rfl
    case hQ13 => exact fun _ _ _ h => h
    case hy13 =>
      refine Or.inl ⟨by rfl, ?_⟩
      intro w' hSw
      clear hSw
      go_simp
      try with_reducible rfl
    simp only [Act.put, List.setIfInBounds_toArray, List.set_cons_zero, List.set_cons_succ]
    refine wpAnyN_takeL (i := 14) (oi := ?o14) (v := ?v14) [15, 16] ?hi14 (by kernel_rfl) (by kernel_rfl) (by kernel_rfl) (by kernel_rfl) (by decide) (by decide) (by kernel_rfl) ?hQ14 ?hy14 (Below.drew (Below.refl _ _)) ?more14
    case hi14 => rw [List.getElem?_toArray]; exact rfl
    case hQ14 => exact fun _ _ _ h => h
    case hy14 =>
      refine Or.inl ⟨by rfl, ?_⟩
      intro w' hSw
      have c2 := (hSw.cell (p := ⟨g, 2, none⟩) HC.out.2.2.2).trans HC.out.2.2.1
      clear hSw
      go_simp
      try with_reducible rfl
    simp only [Act.put, List.setIfInBounds_toArray, List.set_cons_zero, List.set_cons_succ]
    refine wpAnyN_take (i := 15) (oi := ?o15) (v := ?v15) ?hi15 (by kernel_rfl) (by kernel_rfl) (by kernel_rfl) (by kernel_rfl) (by decide) (by kernel_rfl) ?hQ15 ?hy15 (Below.drew (Below.refl _ _)) ?more15
    case hi15 => rw [List.getElem?_toArray]; exact rfl
    case hQ15 => exact fun _ _ _ h => h
    case hy15 =>
      refine Or.inl ⟨by rfl, ?_⟩
      intro w' hSw
      have c2 := (hSw.cell (p := ⟨g, 2, none⟩) HC.out.2.2.2).trans HC.out.2.2.1
      clear hSw
      go_simp
      try with_reducible rfl
    simp only [Act.put, List.setIfInBounds_toArray, List.set_cons_zero, List.set_cons_succ]
    refine wpAnyN_one (i := 16) (o := ?o16) (by kernel_rfl) ?hi16 ?hw16 ?st16
    case hi16 => rw [List.getElem?_toArray]; exact rfl
    case hw16 => exact rfl
    intro K hK
    have HK16 : Hid _ := hK
    clear hK
    go_simp
    refine HK16.out _ _ ⟨fun h => absurd h (by decide +kernel), ?_⟩
    clear HK16 K
    try simp only [Act.put, List.setIfInBounds_toArray, List.set_cons_zero, List.set_cons_succ]
    refine wpAnyN_one (i := 17) (o := ?o17) (by kernel_rfl) ?hi17 ?hw17 ?st17
    case hi17 => rw [List.getElem?_toArray]; exact rfl
    case hw17 => exact rfl
    intro K hK
    have HK17 : Hid _ := hK
    clear hK
    go_simp
    refine HK17.out _ _ ⟨fun h => absurd h (by decide +kernel), ?_⟩
    clear HK17 K
    try simp only [Act.put, List.setIfInBounds_toArray, List.set_cons_zero, List.set_cons_succ]
    refine wpAnyN_one (i := 18) (o := ?o18) (by kernel_rfl) ?hi18 ?hw18 ?st18
    case hi18 => rw [List.getElem?_toArray]; exact rfl
    case hw18 => exact rfl
    intro K hK
    have HK18 : Hid _ := hK
    clear hK
    go_simp
    refine HK18.out _ _ ⟨fun h => absurd h (by decide +kernel), ?_⟩
    clear HK18 K
    try simp only [Act.put, List.setIfInBounds_toArray, List.set_cons_zero, List.set_cons_succ]
    refine wpAnyN_one (i := 19) (o := ?o19) (by kernel_rfl) ?hi19 ?hw19 ?st19
    case hi19 => rw [List.getElem?_toArray]; exact rfl
    case hw19 => exact rfl
    intro K hK
    have HK19 : Hid _ := hK
    clear hK
    go_simp
    refine HK19.out _ _ ⟨fun h => absurd h (by decide +kernel), ?_⟩
    clear HK19 K
    try simp only [Act.put, List.setIfInBounds_toArray, List.set_cons_zero, List.set_cons_succ]
    refine wpAnyN_done (by kernel_rfl) ?_ _
    go_wp2_with fail
    go_ret2
    have hb := H2.out
    have fz : ∀ o, w2.frozen? ⟨g, o, none⟩ = false := fun o => (hb.frozen (p := ⟨g, o, none⟩) HH.out.2.2.2.2).trans (HH.out.1 o)
    refine ⟨rfl, ?_, ((But.of_off (Off.of_below hb HH.out.2.2.1)).set _).drew⟩
    rw [List.drop_zero, HL0.out]
    exact SenderAt.put (m := []) HC.out.1 HC.out.2.1 HC.out.2.2.1 fz HH.out.2.1 (fun k hk => HH.out.2.2.1 k (Nat.le_trans hb.size hk)) (RowV.nil _ _)
  · obtain ⟨b, o, rfl⟩ : ∃ b o, a = some ⟨b, o, none⟩ := by
      rcases HH.out.2.2.2.1 with ⟨h1, _⟩ | ⟨b, o, h1, _⟩
      · exact absurd h1 ha
      · exact ⟨b, o, h1⟩
    clear ha
    by_cases hqn : q = n
    · subst hqn
      go_enter Try.func12, Try.ntmps12
      go_wp2_with fail
      refine (KU.out _).mono ?_
      rintro e w1 ⟨a1, cap1, rfl, -, hb1⟩
      have HS1 : Hid (SenderAt w1 g F life last L) := HS.out.call hb1
      obtain ⟨c0, c1, c2⟩ : w1.cell? ⟨g, 0, none⟩ = some (.int .i64 (life : Nat)) ∧ w1.cell? ⟨g, 1, none⟩ = some (.int .i64 (last : Nat)) ∧ w1.cell? ⟨g, 2, none⟩ = some (.slice (some ⟨b, o, none⟩) q cap) := ⟨(hb1.cell (p := ⟨g, 0, none⟩) HH.out.2.2.2.2).trans HC0.out.1, (hb1.cell (p := ⟨g, 1, none⟩) HH.out.2.2.2.2).trans HC0.out.2.1, (hb1.cell (p := ⟨g, 2, none⟩) HH.out.2.2.2.2).trans HC0.out.2.2⟩
      have H1 : Hid (Below w.heap.size w w1) := hb1
      clear hb1 KU
      go_wp2_with fail
      refine (KC.out _ HS1.out).mono ?_
      rintro e w2 ⟨rfl, hb2⟩
      have H2 : Hid (Below w.heap.size w w2) := below_call0 H1.out hb2
      have HC : Hid (w2.cell? ⟨g, 0, none⟩ = some (.int .i64 (life : Nat)) ∧ w2.cell? ⟨g, 1, none⟩ = some (.int .i64 (last : Nat)) ∧ w2.cell? ⟨g, 2, none⟩ = some (.slice (some ⟨b, o, none⟩) q cap) ∧ g < w2.heap.size) := ⟨(H2.out.cell (p := ⟨g, 0, none⟩) HH.out.2.2.2.2).trans HC0.out.1, (H2.out.cell (p := ⟨g, 1, none⟩) HH.out.2.2.2.2).trans HC0.out.2.1, (H2.out.cell (p := ⟨g, 2, none⟩) HH.out.2.2.2.2).trans HC0.out.2.2, Nat.lt_of_lt_of_le HH.out.2.2.2.2 H2.out.size⟩
      have z2 : w2.frozen? ⟨g, 2, none⟩ = false := (H2.out.frozen (p := ⟨g, 2, none⟩) HH.out.2.2.2.2).trans (HH.out.1 2)
      clear hb2 KC c0 c1 c2
      go_wp2_with fail
      have c2 := HC.out.2.2.1
      refine wp_region_N (fun w' => Below w2.heap.size w2 w') 16 20 rfl (by kernel_rfl) ?_
      refine wpAnyN_takeF (i := 0) (oi := ?o0B) (v := ?v0B) ?hi0B (by kernel_rfl) (by kernel_rfl) (by kernel_rfl) (by decide) ?hQ0B ?hy0B (Below.drew (Below.refl _ _)) ?more0B
      case hi0B => rw [List.getElem?_toArray]; exact rfl
      case hQ0B => exact fun _ _ _ h => h
      case hy0B =>
        refine Or.inl ⟨by rfl, ?_⟩
        intro w' hSw
        clear hSw
        go_simp
        try with_reducible rfl
      simp only [Act.put, List.setIfInBounds_toArray, List.set_cons_zero, List.set_cons_succ]
      refine wpAnyN_takeF (i := 1) (oi := ?o1B) (v := ?v1B) ?hi1B (by kernel_rfl) (by kernel_rfl) (by kernel_rfl) (by decide) ?hQ1B ?hy1B (Below.drew (Below.refl _ _)) ?more1B
      case hi1B => rw [List.getElem?_toArray]; exact rfl
      case hQ1B => exact fun _ _ _ h => h
      case hy1B =>
        refine Or.inl ⟨by rfl, ?_⟩
        intro w' hSw
        clear hSw
        go_simp
        try with_reducible rfl
      simp only [Act.put, List.setIfInBounds_toArray, List.set_cons_zero, List.set_cons_succ]
      refine wpAnyN_takeF (i := 2) (oi := ?o2B) (v := ?v2B) ?hi2B (by kernel_rfl) (by kernel_rfl) (by kernel_rfl) (by decide) ?hQ2B ?hy2B (Below.drew (Below.refl _ _)) ?more2B
      case hi2B => rw [List.getElem?_toArray]; exact rfl
      case hQ2B => exact fun _ _ _ h => h
      case hy2B =>
        refine Or.inl ⟨by rfl, ?_⟩
        intro w' hSw
        clear hSw
        go_simp
        try with_reducible rfl
      simp only [Act.put, List.setIfInBounds_toArray, List.set_cons_zero, List.set_cons_succ]
      refine wpAnyN_takeF (i := 3) (oi := ?o3B) (v := ?v3B) ?hi3B (by kernel_rfl) (by kernel_rfl) (by kernel_rfl) (by decide) ?hQ3B ?hy3B (Below.drew (Below.refl _ _)) ?more3B
      case hi3B => rw [List.getElem?_toArray]; exact rfl
      case hQ3B => exact fun _ _ _ h => h
      case hy3B =>
        refine Or.inl ⟨by rfl, ?_⟩
        intro w' hSw
        clear hSw
        go_simp
        try with_reducible rfl
      simp only [Act.put, List.setIfInBounds_toArray, List.set_cons_zero, List.set_cons_succ]
      refine wpAnyN_take (i := 4) (oi := ?o4B) (v := ?v4B) ?hi4B (by kernel_rfl) (by kernel_rfl) (by kernel_rfl) (by kernel_rfl) (by decide) (by kernel_rfl) ?hQ4B ?hy4B (Below.drew (Below.refl _ _)) ?more4B
      case hi4B => rw [List.getElem?_toArray]; exact rfl
      case hQ4B => exact fun _ _ _ h => h
      case hy4B =>
        refine Or.inl ⟨by rfl, ?_⟩
        intro w' hSw
        have c2 := (hSw.cell (p := ⟨g, 2, none⟩) HC.out.2.2.2).trans HC.out.2.2.1
        clear hSw
        go_simp
        try with_reducible rfl
      simp only [Act.put, List.setIfInBounds_toArray, List.set_cons_zero, List.set_cons_succ]
      refine wpAnyN_take (i := 5) (oi := ?o5B) (v := ?v5B) ?hi5B (by kernel_rfl) (by kernel_rfl) (by kernel_rfl) (by kernel_rfl) (by decide) (by kernel_rfl) ?hQ5B ?hy5B (Below.drew (Below.refl _ _)) ?more5B
      case hi5B => rw [List.getElem?_toArray]; exact rfl
      case hQ5B => exact fun _ _ _ h => h
      case hy5B =>
        refine Or.inl ⟨by rfl, ?_⟩
        intro w' hSw
        have c2 := (hSw.cell (p := ⟨g, 2, none⟩) HC.out.2.2.2).trans HC.out.2.2.1
        clear hSw
        go_simp
        try with_reducible rfl
      simp only [Act.put, List.setIfInBounds_toArray, List.set_cons_zero, List.set_cons_succ]
      refine wpAnyN_takeF (i := 6) (oi := ?o6B) (v := ?v6B) ?hi6B (by kernel_rfl) (by kernel_rfl) (by kernel_rfl) (by decide) ?hQ6B ?hy6B (Below.drew (Below.refl _ _)) ?more6B
      case hi6B => rw [List.getElem?_toArray]; exact rfl
      case hQ6B => exact fun _ _ _ h => h
      case hy6B =>
        refine Or.inl ⟨by rfl, ?_⟩
        intro w' hSw
        clear hSw
        go_simp
        try with_reducible rfl
      simp only [Act.put, List.setIfInBounds_toArray, List.set_cons_zero, List.set_cons_succ]
      refine wpAnyN_takeF (i := 7) (oi := ?o7B) (v := ?v7B) ?hi7B (by kernel_rfl) (by kernel_rfl) (by kernel_rfl) (by decide) ?hQ7B ?hy7B (Below.drew (Below.refl _ _)) ?more7B
      case hi7B => rw [List.getElem?_toArray]; exact rfl
      case hQ7B => exact fun _ _ _ h => h
      case hy7B =>
        refine Or.inl ⟨by rfl, ?_⟩
        intro w' hSw
        clear hSw
        go_simp
        try with_reducible rfl
      simp only [Act.put, List.setIfInBounds_toArray, List.set_cons_zero, List.set_cons_succ]
      refine wpAnyN_takeF (i := 8) (oi := ?o8B) (v := ?v8B) ?hi8B (by kernel_rfl) (by kernel_rfl) (by kernel_rfl) (by decide) ?hQ8B ?hy8B (Below.drew (Below.refl _ _)) ?more8B
      case hi8B => rw [List.getElem?_toArray]; exact rfl
      case hQ8B => exact fun _ _ _ h => h
      case hy8B =>
        refine Or.inl ⟨by rfl, ?_⟩
        intro w' hSw
        clear hSw
        go_simp
        try with_reducible rfl
      simp only [Act.put, List.setIfInBounds_toArray, List.set_cons_zero, List.set_cons_succ]
      refine wpAnyN_takeL (i := 9) (oi := ?o9B) (v := ?v9B) [10, 16] ?hi9B (by kernel_rfl) (by kernel_rfl) (by kernel_rfl) (by kernel_rfl) (by decide) (by decide) (by kernel_rfl) ?hQ9B ?hy9B (Below.drew (Below.refl _ _)) ?more9B
      case hi9B => rw [List.getElem?_toArray]; exact rfl
      case hQ9B => exact fun _ _ _ h => h
      case hy9B =>
        refine Or.inl ⟨by rfl, ?_⟩
        intro w' hSw
        have c2 := (hSw.cell (p := ⟨g, 2, none⟩) HC.out.2.2.2).trans HC.out.2.2.1
        clear hSw
        go_simp
        try with_reducible rfl
      simp only [Act.put, List.setIfInBounds_toArray, List.set_cons_zero, List.set_cons_succ]
      refine wpAnyN_take (i := 10) (oi := ?o10B) (v := ?v10B) ?hi10B (by kernel_rfl) (by kernel_rfl) (by kernel_rfl) (by kernel_rfl) (by decide) (by kernel_rfl) ?hQ10B ?hy10B (Below.drew (Below.refl _ _)) ?more10B
      case hi10B => rw [List.getElem?_toArray]; exact rfl
      case hQ10B => exact fun _ _ _ h => h
      case hy10B =>
        refine Or.inl ⟨by rfl, ?_⟩
        intro w' hSw
        have c2 := (hSw.cell (p := ⟨g, 2, none⟩) HC.out.2.2.2).trans HC.out.2.2.1
        clear hSw
        go_simp
        try with_reducible rfl
      simp only [Act.put, List.setIfInBounds_toArray, List.set_cons_zero, List.set_cons_succ]
      refine wpAnyN_takeF (i := 11) (oi := ?o11B) (v := ?v11B) ?hi11B (by kernel_rfl) (by kernel_rfl) (by kernel_rfl) (by decide) ?hQ11B ?hy11B (Below.drew (Below.refl _ _)) ?more11B
      case hi11B => rw [List.getElem?_toArray]; exact rfl
      case hQ11B => exact fun _ _ _ h => h
      case hy11B =>
        refine Or.inl ⟨by rfl, ?_⟩
        intro w' hSw
        clear hSw
        go_simp
        try with_reducible rfl
      simp only [Act.put, List.setIfInBounds_toArray, List.set_cons_zero, List.set_cons_succ]
      refine wpAnyN_takeF (i := 12) (oi := ?o12B) (v := ?v12B) ?hi12B (by kernel_rfl) (by kernel_rfl) (by kernel_rfl) (by decide) ?hQ12B ?hy12B (Below.drew (Below.refl _ _)) ?more12B
      case hi12B => rw [List.getElem?_toArray]; exact rfl
      case hQ12B => exact fun _ _ _ h => h
      case hy12B =>
        refine Or.inl ⟨by rfl, ?_⟩
        intro w' hSw
        clear hSw
        go_simp
        try with_reducible rfl
      simp only [Act.put, List.setIfInBounds_toArray, List.set_cons_zero, List.set_cons_succ]
      refine wpAnyN_takeF (i := 13) (oi := ?o13B) (v := ?v13B) ?hi13B (by kernel_rfl) (by kernel_rfl) (by kernel_rfl) (by decide) ?hQ13B ?hy13B (Below.drew (Below.refl _ _)) ?more13B
      case hi13B => rw [List.getElem?_toArray]; exact rfl
      case hQ13B => exact fun _ _ _ h => h
      case hy13B =>
        refine Or.inl ⟨by rfl, ?_⟩
        intro w' hSw
        clear hSw
        go_simp
        try with_reducible rfl
      simp only [Act.put, List.setIfInBounds_toArray, List.set_cons_zero, List.set_cons_succ]
      refine wpAnyN_takeL (i := 14) (oi := ?o14B) (v := ?v14B) [15, 16] ?hi14B (by kernel_rfl) (by kernel_rfl) (by kernel_rfl) (by kernel_rfl) (by decide) (by decide) (by kernel_rfl) ?hQ14B ?hy14B (Below.drew (Below.refl _ _)) ?more14B
      case hi14B => rw [List.getElem?_toArray]; exact rfl
      case hQ14B => exact fun _ _ _ h => h
      case hy14B =>
        refine Or.inl ⟨by rfl, ?_⟩
        intro w' hSw
        have c2 := (hSw.cell (p := ⟨g, 2, none⟩) HC.out.2.2.2).trans HC.out.2.2.1
        clear hSw
        go_simp
        try with_reducible rfl
      simp only [Act.put, List.setIfInBounds_toArray, List.set_cons_zero, List.set_cons_succ]
      refine wpAnyN_take (i := 15) (oi := ?o15B) (v := ?v15B) ?hi15B (by kernel_rfl) (by kernel_rfl) (by kernel_rfl) (by kernel_rfl) (by decide) (by kernel_rfl) ?hQ15B ?hy15B (Below.drew (Below.refl _ _)) ?more15B
      case hi15B => rw [List.getElem?_toArray]; exact rfl
      case hQ15B => exact fun _ _ _ h => h
      case hy15B =>
        refine Or.inl ⟨by rfl, ?_⟩
        intro w' hSw
        have c2 := (hSw.cell (p := ⟨g, 2, none⟩) HC.out.2.2.2).trans HC.out.2.2.1
        clear hSw
        go_simp
        try with_reducible rfl
      simp only [Act.put, List.setIfInBounds_toArray, List.set_cons_zero, List.set_cons_succ]
      refine wpAnyN_one (i := 16) (o := ?o16B) (by kernel_rfl) ?hi16B ?hw16B ?st16B
      case hi16B => rw [List.getElem?_toArray]; exact rfl
      case hw16B => exact rfl
      intro K hK
      have HK16 : Hid _ := hK
      clear hK
      go_simp
      refine HK16.out _ _ ⟨fun h => absurd h (by decide +kernel), ?_⟩
      clear HK16 K
      try simp only [Act.put, List.setIfInBounds_toArray, List.set_cons_zero, List.set_cons_succ]
      refine wpAnyN_one (i := 17) (o := ?o17B) (by kernel_rfl) ?hi17B ?hw17B ?st17B
      case hi17B => rw [List.getElem?_toArray]; exact rfl
      case hw17B => exact rfl
      intro K hK
      have HK17 : Hid _ := hK
      clear hK
      go_simp
      refine HK17.out _ _ ⟨fun h => absurd h (by decide +kernel), ?_⟩
      clear HK17 K
      try simp only [Act.put, List.setIfInBounds_toArray, List.set_cons_zero, List.set_cons_succ]
      refine wpAnyN_one (i := 18) (o := ?o18B) (by kernel_rfl) ?hi18B ?hw18B ?st18B
      case hi18B => rw [List.getElem?_toArray]; exact rfl
      case hw18B => exact rfl
      intro K hK
      have HK18 : Hid _ := hK
      clear hK
      go_simp
      refine HK18.out _ _ ⟨fun h => absurd h (by decide +kernel), ?_⟩
      clear HK18 K
      try simp only [Act.put, List.setIfInBounds_toArray, List.set_cons_zero, List.set_cons_succ]
      refine wpAnyN_one (i := 19) (o := ?o19B) (by kernel_rfl) ?hi19B ?hw19B ?st19B
      case hi19B => rw [List.getElem?_toArray]; exact rfl
      case hw19B => exact rfl
      intro K hK
      have HK19 : Hid _ := hK
      clear hK
      go_simp
      refine HK19.out _ _ ⟨fun h => absurd h (by decide +kernel), ?_⟩
      clear HK19 K
      try simp only [Act.put, List.setIfInBounds_toArray, List.set_cons_zero, List.set_cons_succ]
      refine wpAnyN_done (by kernel_rfl) ?_ _
      go_wp2_with fail
      go_ret2
      have hb := H2.out
      have fz : ∀ o, w2.frozen? ⟨g, o, none⟩ = false := fun o => (hb.frozen (p := ⟨g, o, none⟩) HH.out.2.2.2.2).trans (HH.out.1 o)
      refine ⟨rfl, ?_, ((But.of_off (Off.of_below hb HH.out.2.2.1)).set _).drew⟩
      have e0 : L.drop q = [] := List.eq_nil_of_length_eq_zero (by rw [HQ.out]; omega)
      rw [e0]
      exact SenderAt.put (m := []) HC.out.1 HC.out.2.1 HC.out.2.2.1 fz HH.out.2.1 (fun k hk => HH.out.2.2.1 k (Nat.le_trans hb.size hk)) ((HH.out.2.2.2.1.call hb).cutE _)
    · have hqn' : q < n := by have := HN.out.2.2.2; omega
      have q3 : (q : Int) < (n : Int) := by omega
      have q4 : ¬ (n - q = 0) := by omega
      go_enter Try.func12, Try.ntmps12
      go_wp2_with fail
      refine (KU.out _).mono ?_
      rintro e w1 ⟨a1, cap1, rfl, -, hb1⟩
      have HS1 : Hid (SenderAt w1 g F life last L) := HS.out.call hb1
      obtain ⟨c0, c1, c2⟩ : w1.cell? ⟨g, 0, none⟩ = some (.int .i64 (life : Nat)) ∧ w1.cell? ⟨g, 1, none⟩ = some (.int .i64 (last : Nat)) ∧ w1.cell? ⟨g, 2, none⟩ = some (.slice (some ⟨b, o, none⟩) n cap) := ⟨(hb1.cell (p := ⟨g, 0, none⟩) HH.out.2.2.2.2).trans HC0.out.1, (hb1.cell (p := ⟨g, 1, none⟩) HH.out.2.2.2.2).trans HC0.out.2.1, (hb1.cell (p := ⟨g, 2, none⟩) HH.out.2.2.2.2).trans HC0.out.2.2⟩
      have H1 : Hid (Below w.heap.size w w1) := hb1
      clear hb1 KU
      go_wp2_with fail
      refine (KC.out _ HS1.out).mono ?_
      rintro e w2 ⟨rfl, hb2⟩
      have H2 : Hid (Below w.heap.size w w2) := below_call0 H1.out hb2
      have HC : Hid (w2.cell? ⟨g, 0, none⟩ = some (.int .i64 (life : Nat)) ∧ w2.cell? ⟨g, 1, none⟩ = some (.int .i64 (last : Nat)) ∧ w2.cell? ⟨g, 2, none⟩ = some (.slice (some ⟨b, o, none⟩) n cap) ∧ g < w2.heap.size) := ⟨(H2.out.cell (p := ⟨g, 0, none⟩) HH.out.2.2.2.2).trans HC0.out.1, (H2.out.cell (p := ⟨g, 1, none⟩) HH.out.2.2.2.2).trans HC0.out.2.1, (H2.out.cell (p := ⟨g, 2, none⟩) HH.out.2.2.2.2).trans HC0.out.2.2, Nat.lt_of_lt_of_le HH.out.2.2.2.2 H2.out.size⟩
      have z2 : w2.frozen? ⟨g, 2, none⟩ = false := (H2.out.frozen (p := ⟨g, 2, none⟩) HH.out.2.2.2.2).trans (HH.out.1 2)
      clear hb2 KC c0 c1 c2
      go_wp2_with fail
      have c2 := HC.out.2.2.1
      refine wp_region_N (fun w' => Below w2.heap.size w2 w') 16 20 rfl (by kernel_rfl) ?_
      refine wpAnyN_takeF (i := 0) (oi := ?o0C) (v := ?v0C) ?hi0C (by kernel_rfl) (by kernel_rfl) (by kernel_rfl) (by decide) ?hQ0C ?hy0C (Below.drew (Below.refl _ _)) ?more0C
      case hi0C => rw [List.getElem?_toArray]; exact rfl
      case hQ0C => exact fun _ _ _ h => h
      case hy0C =>
        refine Or.inl ⟨by rfl, ?_⟩
        intro w' hSw
        clear hSw
        go_simp
        try with_reducible rfl
      simp only [Act.put, List.setIfInBounds_toArray, List.set_cons_zero, List.set_cons_succ]
      refine wpAnyN_takeF (i := 1) (oi := ?o1C) (v := ?v1C) ?hi1C (by kernel_rfl) (by kernel_rfl) (by kernel_rfl) (by decide) ?hQ1C ?hy1C (Below.drew (Below.refl _ _)) ?more1C
      case hi1C => rw [List.getElem?_toArray]; exact rfl
      case hQ1C => exact fun _ _ _ h => h
      case hy1C =>
        refine Or.inl ⟨by rfl, ?_⟩
        intro w' hSw
        clear hSw
        go_simp
        try with_reducible rfl
      simp only [Act.put, List.setIfInBounds_toArray, List.set_cons_zero, List.set_cons_succ]
      refine wpAnyN_takeF (i := 2) (oi := ?o2C) (v := ?v2C) ?hi2C (by kernel_rfl) (by kernel_rfl) (by kernel_rfl) (by decide) ?hQ2C ?hy2C (Below.drew (Below.refl _ _)) ?more2C
      case hi2C => rw [List.getElem?_toArray]; exact rfl
      case hQ2C => exact fun _ _ _ h => h
      case hy2C =>
        refine Or.inl ⟨by rfl, ?_⟩
        intro w' hSw
        clear hSw
        go_simp
        try with_reducible rfl
      simp only [Act.put, List.setIfInBounds_toArray, List.set_cons_zero, List.set_cons_succ]
      refine wpAnyN_takeF (i := 3) (oi := ?o3C) (v := ?v3C) ?hi3C (by kernel_rfl) (by kernel_rfl) (by kernel_rfl) (by decide) ?hQ3C ?hy3C (Below.drew (Below.refl _ _)) ?more3C
      case hi3C => rw [List.getElem?_toArray]; exact rfl
      case hQ3C => exact fun _ _ _ h => h
      case hy3C =>
        refine Or.inl ⟨by rfl, ?_⟩
        intro w' hSw
        clear hSw
        go_simp
        try with_reducible rfl
      simp only [Act.put, List.setIfInBounds_toArray, List.set_cons_zero, List.set_cons_succ]
      refine wpAnyN_take (i := 4) (oi := ?o4C) (v := ?v4C) ?hi4C (by kernel_rfl) (by kernel_rfl) (by kernel_rfl) (by kernel_rfl) (by decide) (by kernel_rfl) ?hQ4C ?hy4C (Below.drew (Below.refl _ _)) ?more4C
      case hi4C => rw [List.getElem?_toArray]; exact rfl
      case hQ4C => exact fun _ _ _ h => h
      case hy4C =>
        refine Or.inl ⟨by rfl, ?_⟩
        intro w' hSw
        have c2 := (hSw.cell (p := ⟨g, 2, none⟩) HC.out.2.2.2).trans HC.out.2.2.1
        clear hSw
        go_simp
        try with_reducible rfl
      simp only [Act.put, List.setIfInBounds_toArray, List.set_cons_zero, List.set_cons_succ]
      refine wpAnyN_take (i := 5) (oi := ?o5C) (v := ?v5C) ?hi5C (by kernel_rfl) (by kernel_rfl) (by kernel_rfl) (by kernel_rfl) (by decide) (by kernel_rfl) ?hQ5C ?hy5C (Below.drew (Below.refl _ _)) ?more5C
      case hi5C => rw [List.getElem?_toArray]; exact rfl
      case hQ5C => exact fun _ _ _ h => h
      case hy5C =>
        refine Or.inl ⟨by rfl, ?_⟩
        intro w' hSw
        have c2 := (hSw.cell (p := ⟨g, 2, none⟩) HC.out.2.2.2).trans HC.out.2.2.1
        clear hSw
        go_simp
        try with_reducible rfl
      simp only [Act.put, List.setIfInBounds_toArray, List.set_cons_zero, List.set_cons_succ]
      refine wpAnyN_takeF (i := 6) (oi := ?o6C) (v := ?v6C) ?hi6C (by kernel_rfl) (by kernel_rfl) (by kernel_rfl) (by decide) ?hQ6C ?hy6C (Below.drew (Below.refl _ _)) ?more6C
      case hi6C => rw [List.getElem?_toArray]; exact rfl
      case hQ6C => exact fun _ _ _ h => h
      case hy6C =>
        refine Or.inl ⟨by rfl, ?_⟩
        intro w' hSw
        clear hSw
        go_simp
        try with_reducible rfl
      simp only [Act.put, List.setIfInBounds_toArray, List.set_cons_zero, List.set_cons_succ]
      refine wpAnyN_takeF (i := 7) (oi := ?o7C) (v := ?v7C) ?hi7C (by kernel_rfl) (by kernel_rfl) (by kernel_rfl) (by decide) ?hQ7C ?hy7C (Below.drew (Below.refl _ _)) ?more7C
      case hi7C => rw [List.getElem?_toArray]; exact rfl
      case hQ7C => exact fun _ _ _ h => h
      case hy7C =>
        refine Or.inl ⟨by rfl, ?_⟩
        intro w' hSw
        clear hSw
        go_simp
        try with_reducible rfl
      simp only [Act.put, List.setIfInBounds_toArray, List.set_cons_zero, List.set_cons_succ]
      refine wpAnyN_takeF (i := 8) (oi := ?o8C) (v := ?v8C) ?hi8C (by kernel_rfl) (by kernel_rfl) (by kernel_rfl) (by decide) ?hQ8C ?hy8C (Below.drew (Below.refl _ _)) ?more8C
      case hi8C => rw [List.getElem?_toArray]; exact rfl
      case hQ8C => exact fun _ _ _ h => h
      case hy8C =>
        refine Or.inl ⟨by rfl, ?_⟩
        intro w' hSw
        clear hSw
        go_simp
        try with_reducible rfl
      simp only [Act.put, List.setIfInBounds_toArray, List.set_cons_zero, List.set_cons_succ]
      refine wpAnyN_takeL (i := 9) (oi := ?o9C) (v := ?v9C) [10, 16] ?hi9C (by kernel_rfl) (by kernel_rfl) (by kernel_rfl) (by kernel_rfl) (by decide) (by decide) (by kernel_rfl) ?hQ9C ?hy9C (Below.drew (Below.refl _ _)) ?more9C
      case hi9C => rw [List.getElem?_toArray]; exact rfl
      case hQ9C => exact fun _ _ _ h => h
      case hy9C =>
        refine Or.inl ⟨by rfl, ?_⟩
        intro w' hSw
        have c2 := (hSw.cell (p := ⟨g, 2, none⟩) HC.out.2.2.2).trans HC.out.2.2.1
        clear hSw
        go_simp
        try with_reducible rfl
      simp only [Act.put, List.setIfInBounds_toArray, List.set_cons_zero, List.set_cons_succ]
      refine wpAnyN_take (i := 10) (oi := ?o10C) (v := ?v10C) ?hi10C (by kernel_rfl) (by kernel_rfl) (by kernel_rfl) (by kernel_rfl) (by decide) (by kernel_rfl) ?hQ10C ?hy10C (Below.drew (Below.refl _ _)) ?more10C
      case hi10C => rw [List.getElem?_toArray]; exact rfl
      case hQ10C => exact fun _ _ _ h => h
      case hy10C =>
        refine Or.inl ⟨by rfl, ?_⟩
        intro w' hSw
        have c2 := (hSw.cell (p := ⟨g, 2, none⟩) HC.out.2.2.2).trans HC.out.2.2.1
        clear hSw
        go_simp
        try with_reducible rfl
      simp only [Act.put, List.setIfInBounds_toArray, List.set_cons_zero, List.set_cons_succ]
      refine wpAnyN_takeF (i := 11) (oi := ?o11C) (v := ?v11C) ?hi11C (by kernel_rfl) (by kernel_rfl) (by kernel_rfl) (by decide) ?hQ11C ?hy11C (Below.drew (Below.refl _ _)) ?more11C
      case hi11C => rw [List.getElem?_toArray]; exact rfl
      case hQ11C => exact fun _ _ _ h => h
      case hy11C =>
        refine Or.inl ⟨by rfl, ?_⟩
        intro w' hSw
        clear hSw
        go_simp
        try with_reducible rfl
      simp only [Act.put, List.setIfInBounds_toArray, List.set_cons_zero, List.set_cons_succ]
      refine wpAnyN_takeF (i := 12) (oi := ?o12C) (v := ?v12C) ?hi12C (by kernel_rfl) (by kernel_rfl) (by kernel_rfl) (by decide) ?hQ12C ?hy12C (Below.drew (Below.refl _ _)) ?more12C
      case hi12C => rw [List.getElem?_toArray]; exact rfl
      case hQ12C => exact fun _ _ _ h => h
      case hy12C =>
        refine Or.inl ⟨by rfl, ?_⟩
        intro w' hSw
        clear hSw
        go_simp
        try with_reducible rfl
      simp only [Act.put, List.setIfInBounds_toArray, List.set_cons_zero, List.set_cons_succ]
      refine wpAnyN_takeF (i := 13) (oi := ?o13C) (v := ?v13C) ?hi13C (by kernel_rfl) (by kernel_rfl) (by kernel_rfl) (by decide) ?hQ13C ?hy13C (Below.drew (Below.refl _ _)) ?more13C
      case hi13C => rw [List.getElem?_toArray]; exact rfl
      case hQ13C => exact fun _ _ _ h => h
      case hy13C =>
        refine Or.inl ⟨by rfl, ?_⟩
        intro w' hSw
        clear hSw
        go_simp
        try with_reducible rfl
      simp only [Act.put, List.setIfInBounds_toArray, List.set_cons_zero, List.set_cons_succ]
      refine wpAnyN_takeL (i := 14) (oi := ?o14C) (v := ?v14C) [15, 16] ?hi14C (by kernel_rfl) (by kernel_rfl) (by kernel_rfl) (by kernel_rfl) (by decide) (by decide) (by kernel_rfl) ?hQ14C ?hy14C (Below.drew (Below.refl _ _)) ?more14C
      case hi14C => rw [List.getElem?_toArray]; exact rfl
      case hQ14C => exact fun _ _ _ h => h
      case hy14C =>
        refine Or.inl ⟨by rfl, ?_⟩
        intro w' hSw
        have c2 := (hSw.cell (p := ⟨g, 2, none⟩) HC.out.2.2.2).trans HC.out.2.2.1
        clear hSw
        go_simp
        try with_reducible rfl
      simp only [Act.put, List.setIfInBounds_toArray, List.set_cons_zero, List.set_cons_succ]
      refine wpAnyN_take (i := 15) (oi := ?o15C) (v := ?v15C) ?hi15C (by kernel_rfl) (by kernel_rfl) (by kernel_rfl) (by kernel_rfl) (by decide) (by kernel_rfl) ?hQ15C ?hy15C (Below.drew (Below.refl _ _)) ?more15C
      case hi15C => rw [List.getElem?_toArray]; exact rfl
      case hQ15C => exact fun _ _ _ h => h
      case hy15C =>
        refine Or.inl ⟨by rfl, ?_⟩
        intro w' hSw
        have c2 := (hSw.cell (p := ⟨g, 2, none⟩) HC.out.2.2.2).trans HC.out.2.2.1
        clear hSw
        go_simp
        try with_reducible rfl
      simp only [Act.put, List.setIfInBounds_toArray, List.set_cons_zero, List.set_cons_succ]
      refine wpAnyN_one (i := 16) (o := ?o16C) (by kernel_rfl) ?hi16C ?hw16C ?st16C
      case hi16C => rw [List.getElem?_toArray]; exact rfl
      case hw16C => exact rfl
      intro K hK
      have HK16 : Hid _ := hK
      clear hK
      go_simp
      refine HK16.out _ _ ⟨fun h => absurd h (by decide +kernel), ?_⟩
      clear HK16 K
      try simp only [Act.put, List.setIfInBounds_toArray, List.set_cons_zero, List.set_cons_succ]
      refine wpAnyN_one (i := 17) (o := ?o17C) (by kernel_rfl) ?hi17C ?hw17C ?st17C
      case hi17C => rw [List.getElem?_toArray]; exact rfl
      case hw17C => exact rfl
      intro K hK
      have HK17 : Hid _ := hK
      clear hK
      go_simp
      refine HK17.out _ _ ⟨fun h => absurd h (by decide +kernel), ?_⟩
      clear HK17 K
      try simp only [Act.put, List.setIfInBounds_toArray, List.set_cons_zero, List.set_cons_succ]
      refine wpAnyN_one (i := 18) (o := ?o18C) (by kernel_rfl) ?hi18C ?hw18C ?st18C
      case hi18C => rw [List.getElem?_toArray]; exact rfl
      case hw18C => exact rfl
      intro K hK
      have HK18 : Hid _ := hK
      clear hK
      go_simp
      refine HK18.out _ _ ⟨fun h => absurd h (by decide +kernel), ?_⟩
      clear HK18 K
      try simp only [Act.put, List.setIfInBounds_toArray, List.set_cons_zero, List.set_cons_succ]
      refine wpAnyN_one (i := 19) (o := ?o19C) (by kernel_rfl) ?hi19C ?hw19C ?st19C
      case hi19C => rw [List.getElem?_toArray]; exact rfl
      case hw19C => exact rfl
      intro K hK
      have HK19 : Hid _ := hK
      clear hK
      go_simp
      refine HK19.out _ _ ⟨fun h => absurd h (by decide +kernel), ?_⟩
      clear HK19 K
      try simp only [Act.put, List.setIfInBounds_toArray, List.set_cons_zero, List.set_cons_succ]
      refine wpAnyN_done (by kernel_rfl) ?_ _
      go_wp2_with fail
      go_ret2
      have hb := H2.out
      have fz : ∀ o, w2.frozen? ⟨g, o, none⟩ = false := fun o => (hb.frozen (p := ⟨g, o, none⟩) HH.out.2.2.2.2).trans (HH.out.1 o)
      refine ⟨rfl, ?_, ((But.of_off (Off.of_below hb HH.out.2.2.1)).set _).drew⟩
      have e1 : (L.map Value.string).length = n := by rw [List.length_map, HN.out.1]
      have hc := (HH.out.2.2.2.1.call hb).cut (n := q) (by rw [e1]; omega)
      rw [e1, ← List.map_drop] at hc
      rw [← HQ.out]
      rw [← HQ.out] at hc
      exact SenderAt.put HC.out.1 HC.out.2.1 HC.out.2.2.1 fz HH.out.2.1 (fun k hk => HH.out.2.2.1 k (Nat.le_trans hb.size hk)) hc
end Go.Proofs.Ytadcjdffjhiniaa
