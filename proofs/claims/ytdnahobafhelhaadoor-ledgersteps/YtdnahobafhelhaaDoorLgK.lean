/- Package ledger: Len where nothing is synced. -/
import Derived.Test.YtdnahobafhelhaaDoorLgS
namespace Go.Proofs.YtdnahobafhelhaaDoor
open Go Go.RowKit Go.Lib Go.Shelf
attribute [local go_sem] Oper.semAt_some

set_option maxRecDepth 20000 in
set_option maxHeartbeats 4000000 in
theorem llen_zero (c : Nat → Nat) (G L : Nat) (bs : ByteArray) (rs : List ByteArray) (w : World) (hF : Fil w c 1 11 G 0 bs) (hD : Led w c G L rs) (hG : Glb w c) :
    Calls Tryd.prog 22 #[.pointer (some ⟨L, 0, none⟩)] w fun e w' => e = .returned (.tuple #[.int .i64 (rs.length : Nat), .int .i64 0]) ∧ Below w.heap.size w w' := by
  obtain ⟨a, cap, hcL, c0, c1, fz, hlt, hRow⟩ := hD
  obtain ⟨n, hn⟩ : ∃ n, n = rs.length := ⟨_, rfl⟩
  rw [← hn] at c1 ⊢
  obtain ⟨A, hA⟩ : ∃ A, A = w.heap.size := ⟨_, rfl⟩
  obtain ⟨w0, hw0⟩ : ∃ y, y = w.alloc (.cells #[.pointer (some ⟨L, 0, none⟩)] 33) := ⟨_, rfl⟩
  have hb0 : Below w.heap.size w w0 := by rw [hw0]; exact below_alloc0 (Below.refl _ _) _
  have H0 : Hid (w0.cell? ⟨A, 0, none⟩ = some (.pointer (some ⟨L, 0, none⟩)) ∧ w0.cell? ⟨L, 0, none⟩ = some (.pointer (some ⟨G, 0, none⟩)) ∧ w0.cell? ⟨L, 1, none⟩ = some (.slice a n cap) ∧ A < w0.heap.size ∧ L < w0.heap.size ∧ Below w.heap.size w w0) :=
    ⟨by rw [hw0, hA]; simp [go_sem], (hb0.cell (p := ⟨L, 0, none⟩) hlt).trans c0, (hb0.cell (p := ⟨L, 1, none⟩) hlt).trans c1, by rw [hw0, hA]; simp, Nat.lt_of_lt_of_le hlt hb0.size, hb0⟩
  have KL : Hid (∀ w' : World, Below w.heap.size w w' → Calls Tryd.prog 14 #[.pointer (some ⟨G, 0, none⟩)] w' fun e w'' => e = .returned (.tuple #[.int .i64 (bs.size : Nat), .int .i64 0]) ∧ Below w'.heap.size w' w'') := fun w' hb => by
    refine (flen_any G _ 0 bs w' (hF.keep 3 (Chg.of_below hb (i := 0) (j := 0)) (by decide) (by decide) (by decide) (by decide)).2.2).mono ?_
    rintro e w'' ⟨e1, _, e3⟩
    exact ⟨e1, e3⟩
  have KB : Hid (∀ w' : World, Below w.heap.size w w' → Calls Tryd.prog 17 #[.pointer (some ⟨G, 0, none⟩)] w' fun e w'' => e = .returned (.string bs) ∧ w'' = w') := fun w' hb =>
    fbytes_any G _ 0 bs w' (hF.keep 3 (Chg.of_below hb (i := 0) (j := 0)) (by decide) (by decide) (by decide) (by decide)).2.2
  have HW : Hid (w0 = w.alloc (.cells #[.pointer (some ⟨L, 0, none⟩)] 33) ∧ A = w.heap.size) := ⟨hw0, hA⟩
  have HG : Hid (Glb w c) := hG
  clear hF hG hcL fz hRow hn hA hw0 hb0
  refine (callsIn_wide (n := 3)).1 ?_
  refine callsIn_of_wp_marks Tryd.func22 rfl trivial ?_
  simp only [Tryd.ntmps22, List.size_toArray, List.length_cons, List.length_nil, Nat.reduceAdd, Nat.reduceSub, Array.replicate_succ, Array.replicate_zero, List.push_toArray, List.append_toArray, List.nil_append, List.cons_append]
  gi_wp2
  refine ⟨trivial, ?_⟩
  rw [← HW.out.1]
  rw [← HW.out.2]
  refine (callsIn_wide.2 (KL.out _ H0.out.2.2.2.2.2)).mono ?_
  rintro e w1 ⟨rfl, hb1⟩
  obtain ⟨E, hE⟩ : ∃ E, E = w1.heap.size := ⟨_, rfl⟩
  obtain ⟨w2, hw2⟩ : ∃ y, y = w1.alloc (.cells #[.int .i64 0] 3) := ⟨_, rfl⟩
  have b0 := (hb1.cell (p := ⟨A, 0, none⟩) H0.out.2.2.2.1).trans H0.out.1
  have b1 := (hb1.cell (p := ⟨L, 0, none⟩) H0.out.2.2.2.2.1).trans H0.out.2.1
  have zA : A < w1.heap.size := Nat.lt_of_lt_of_le H0.out.2.2.2.1 hb1.size
  have zL : L < w1.heap.size := Nat.lt_of_lt_of_le H0.out.2.2.2.2.1 hb1.size
  have H2 : Hid (w2.cell? ⟨A, 0, none⟩ = some (.pointer (some ⟨L, 0, none⟩)) ∧ w2.cell? ⟨L, 1, none⟩ = some (.slice a n cap) ∧ w2.cell? ⟨E, 0, none⟩ = some (.int .i64 0) ∧ A < E ∧ L < E ∧ w2.heap.size = E + 1 ∧ Below w.heap.size w w2 ∧ A = w.heap.size) := by
    have hb2 : Below w1.heap.size w1 w2 := by rw [hw2]; exact below_alloc0 (Below.refl _ _) _
    exact ⟨(hb2.cell (p := ⟨A, 0, none⟩) zA).trans b0, (hb2.cell (p := ⟨L, 1, none⟩) zL).trans ((hb1.cell (p := ⟨L, 1, none⟩) H0.out.2.2.2.2.1).trans H0.out.2.2.1), by rw [hw2, hE]; simp [go_sem], by rw [hE]; exact zA, by rw [hE]; exact zL, by rw [hw2, hE]; simp, below_call0 (below_call0 H0.out.2.2.2.2.2 hb1) hb2, HW.out.2⟩
  have HW2 : Hid (w2 = w1.alloc (.cells #[.int .i64 0] 3) ∧ E = w1.heap.size) := ⟨hw2, hE⟩
  clear hb1 hE hw2 H0 HW KL c0 c1 hlt
  gi_wp2
  refine ⟨trivial, ?_⟩
  rw [← HW2.out.1]
  rw [← HW2.out.2]
  refine (callsIn_wide.2 (KB.out _ H2.out.2.2.2.2.2.2.1)).mono ?_
  rintro e w2' ⟨rfl, rfl⟩
  clear b0 b1 zA zL HW2 KB
  have e00 : bs.extract 0 0 = ByteArray.empty := by simp
  gi_wp2
  refine ⟨trivial, ?_⟩
  refine (callsIn_wide.2 (told_box ByteArray.empty _)).mono ?_
  rintro e w3 ⟨rfl, hw3⟩
  rw [H2.out.2.2.2.2.2.1]
  have H3 : Hid (w3.cell? ⟨A, 0, none⟩ = some (.pointer (some ⟨L, 0, none⟩)) ∧ w3.cell? ⟨L, 1, none⟩ = some (.slice a n cap) ∧ w3.cell? ⟨E, 0, none⟩ = some (.int .i64 0) ∧ A < E ∧ L < E ∧ w3.heap.size = E + 2 ∧ Below w.heap.size w w3 ∧ A = w.heap.size ∧ w3.cell? ⟨E + 1, 0, none⟩ = some (.string ByteArray.empty) ∧ w3.frozen? ⟨E + 1, 0, none⟩ = false) := by
    obtain ⟨d0, d1, d2, d3, d4, d5, d6, d7⟩ := H2.out
    have hb3 : Below w2'.heap.size w2' w3 := by rw [hw3]; exact below_alloc0 (Below.refl _ _) _
    exact ⟨(hb3.cell (p := ⟨A, 0, none⟩) (by show A < _; omega)).trans d0, (hb3.cell (p := ⟨L, 1, none⟩) (by show L < _; omega)).trans d1, (hb3.cell (p := ⟨E, 0, none⟩) (by show E < _; omega)).trans d2, d3, d4, by rw [hw3]; simp; omega, below_call0 d6 hb3, d7, by rw [hw3, ← d5]; simp [go_sem], by rw [hw3, ← d5]; simp [go_sem]⟩
  clear hw3 H2 e00
  gi_wp2
  rename_i Kr hKr
  have HKr : Hid _ := hKr
  clear hKr
  refine wpIn_rangeFunc_box (D := E + 2) H3.out.2.2.2.2.2.1.symm rfl (by decide) (gf := 33) (lb := #[.pointer (some ⟨E + 1, 0, none⟩)]) rfl trivial (enters_of Tryd.func33 (by kernel_rfl) rfl) (encs := fun x : ByteArray => #[.string x]) (fun x => rfl) (c := E + 1) (by omega)
    (told_tells 2 (by decide) (E + 1) ByteArray.empty (by decide) [] (told_empty 0) w3 (HG.out.1.call H3.out.2.2.2.2.2.2.1) (Nat.lt_of_lt_of_le HG.out.2.2.1 H3.out.2.2.2.2.2.2.1.size) H3.out.2.2.2.2.2.2.2.2.1 H3.out.2.2.2.2.2.2.2.2.2 (by have := H3.out.2.2.2.2.2.1; omega) ⟨by have := HG.out.2.1; have := H3.out; omega, by have := HG.out.2.2.1; have := H3.out; omega⟩) (Below.refl _ _)
    (fun _ => False) (fun k hk h => h) (fun h => h) (fun h => h)
    (fun _ W => W.cell? ⟨A, 0, none⟩ = some (.pointer (some ⟨L, 0, none⟩)) ∧ W.cell? ⟨L, 1, none⟩ = some (.slice a n cap) ∧ W.cell? ⟨E, 0, none⟩ = some (.int .i64 0) ∧ E + 2 ≤ W.heap.size ∧ Below w.heap.size w W) (fun _ _ _ => False)
    (fun s V B hs ho => by
      obtain ⟨s0, s1, s2, s3, s4⟩ := hs
      have e1 := H3.out.2.2.2.1
      have e2 := H3.out.2.2.2.2.1
      have e3 := H3.out.2.2.2.2.2.2.2.1
      exact ⟨(ho.cell (p := ⟨A, 0, none⟩) (by show ¬ (A = _ ∨ A = _ ∨ A = _ ∨ _ ≤ A); omega)).trans s0, (ho.cell (p := ⟨L, 1, none⟩) (by show ¬ (L = _ ∨ L = _ ∨ L = _ ∨ _ ≤ L); omega)).trans s1, (ho.cell (p := ⟨E, 0, none⟩) (by show ¬ (E = _ ∨ E = _ ∨ E = _ ∨ _ ≤ E); omega)).trans s2, Nat.le_trans s3 ho.size, s4.trans ⟨ho.os, ho.tape, ho.output, ho.size, fun k hk => ho.block k (by omega)⟩⟩) (fun _ _ _ _ hs _ => hs)
    ⟨H3.out.1, H3.out.2.1, H3.out.2.2.1, by have := H3.out.2.2.2.2.2.1; omega, H3.out.2.2.2.2.2.2.1⟩
    (fun x => { tmps := #[.pointer (some ⟨L, 0, none⟩), .pointer (some ⟨A, 0, none⟩), .int .i64 0, .int .i64 0, .int .i64 (bs.size : Nat), .int .i64 0, .pointer (some ⟨E, 0, none⟩), .string x, .pointer (some ⟨L, 0, none⟩), .bool false, .tuple #[.int .i64 (bs.size : Nat), .int .i64 0], .pointer (some ⟨L, 0, none⟩), .pointer (some ⟨L, 0, none⟩), .pointer (some ⟨L, 0, none⟩), .pointer (some ⟨G, 0, none⟩), .tuple #[.int .i64 (bs.size : Nat), .int .i64 0], .int .i64 (bs.size : Nat), .int .i64 0, .pointer (some ⟨L, 0, none⟩), .pointer (some ⟨L, 0, none⟩), .pointer (some ⟨L, 0, none⟩), .pointer (some ⟨G, 0, none⟩), .string bs, .int .i64 0, .string ByteArray.empty, .func (.func 33) #[] #[.pointer (some ⟨E + 1, 0, none⟩)], .string x, undef, undef, undef, undef, undef, undef, undef, undef, undef, undef, undef, undef, undef, undef, undef, undef, undef, undef, undef, undef, undef, undef, undef, undef, undef, undef], defers := [] }) ?assign ?body ?done ?stop
  case assign =>
    intro x W K hK
    gi_wp2
    exact hK
  case body =>
    rintro pre x W hpre
    obtain ⟨t, ht⟩ := hpre
    exact absurd (congrArg List.length ht) (by simp)
  case done =>
    rintro W ⟨q0, q1, q2, q3, hB⟩ hD
    have HB : Hid (Below w.heap.size w W ∧ W.heap[E + 2]? = some (.deferred (some []))) := ⟨hB, hD⟩
    clear hB hD q3
    refine HKr.out _ _ ?_
    clear HKr
    gi_wp2
    refine wpIn_wide.2 ?_
    go_quiet (fail)
    gi_wp2
    refine ⟨by simp, .inl ⟨_, _, rfl, run_takeDeferred HB.out.2, ?_⟩⟩
    refine ⟨_, results_tmp2 rfl _ _ _, rfl, ?_⟩
    have op := Off.put (W.drewN nq) (E + 2) (.deferred none)
    exact (below_drewN HB.out.1 nq).trans ⟨op.os, op.tape, op.output, op.size, fun k hk => op.block k (fun q => by have := H3.out.2.2.2.1; have := H3.out.2.2.2.2.2.2.2.1; omega)⟩
  case stop =>
    rintro id pre W _ h _
    exact h.elim
end Go.Proofs.YtdnahobafhelhaaDoor
