/- Package ledger: Len. -/
import Derived.Test.YtdnahobafhelhaaDoorLgK
import Derived.Deep.Quiet
namespace Go.Proofs.YtdnahobafhelhaaDoor
open Go Go.RowKit Go.Lib Go.Shelf
attribute [local go_sem] Oper.semAt_some

theorem wpIn_region_Q {P : Program} {Q : Exit → Act → World → Prop} {l' m id : Nat} {a : Act} {w : World} {l : List Oper} (hm : P.follows .mixedOrders = true) (hB : Region.lexB .any l.toArray = true) (hd : noDefer l.toArray = true) (hL : ¬ LetsOut Q)
    (h : wpQuiet P l.toArray (fun w' => ∃ n, w' = w.drewN n) (fun a' => ∀ w', (∃ n, w' = w.drewN n) → Q .normal a' w') l a) : (Code.region id l.toArray true).wpIn (Fence.wide.inRound l') m P Q a w := by
  simp only [Region.lexB, Bool.and_eq_true] at hB
  refine wpIn_region_any hm (wpAnyIn_round hd hL _ _ _ _ (wpAny_of_quiet (C := fun w' => ∃ n, w' = w.drewN n) (Q := fun a' => ∀ w', (∃ n, w' = w.drewN n) → Q .normal a' w') (fun _ w' hw' h => h w' hw') _ _ _ _ ⟨1, rfl⟩ ?_))
  have := wpAnyQ_lex (C := fun w' => ∃ n, w' = w.drewN n) (md := .any) hB.1 l 0 (Array.replicate l.length false) a (by simp) (by simpa using hB.2) h
  simpa using this
set_option maxRecDepth 20000 in
set_option maxHeartbeats 4000000 in
theorem llen_any (c : Nat → Nat) (G L m j : Nat) (bs : ByteArray) (rs : List ByteArray) (hj : j ≤ rs.length) (hrn : rs.length ≤ 1000000) (hbz : bs.size ≤ 1048576) (hm : m ≤ bs.size) (hT : Told 0 (bs.extract 0 m) (rs.take j)) (w : World) (hF : Fil w c 1 11 G m bs) (hD : Led w c G L rs) (hG : Glb w c) :
    Calls Tryd.prog 22 #[.pointer (some ⟨L, 0, none⟩)] w fun e w' => e = .returned (.tuple #[.int .i64 (rs.length : Nat), .int .i64 (j : Nat)]) ∧ Below w.heap.size w w' := by
  obtain ⟨a, cap, hcL, c0, c1, fz, hlt, hRow⟩ := hD
  obtain ⟨n, hn⟩ : ∃ n, n = rs.length := ⟨_, rfl⟩
  have HR : Hid (∀ k r, rs[k]? = some r → ∃ tb tq, a = some ⟨tb, tq, none⟩ ∧ w.cell? ⟨tb, tq + k, none⟩ = some (.string r) ∧ tb < w.heap.size) := fun k r hr => by
    obtain ⟨tb, tq, e1, e2, e3, -⟩ := hRow.at (j := k) (u := .string r) (by rw [List.getElem?_map, hr]; rfl)
    exact ⟨tb, tq, e1, e2, e3⟩
  have HJ : Hid (j ≤ n ∧ n = rs.length ∧ n ≤ 1000000) := ⟨by omega, hn, by omega⟩
  have jb : (j : Int) ≤ 1000000 := by omega
  have nb : (n : Int) ≤ 1000000 := by omega
  obtain ⟨V, hV⟩ : ∃ V, V = bs.extract 0 m := ⟨_, rfl⟩
  have HV : Hid (Told 0 V (rs.take j) ∧ V.size < 4611686018427387904) := ⟨by rw [hV]; exact hT, by rw [hV, ByteArray.size_extract]; omega⟩
  have hV' : bs.extract 0 m = V := hV.symm
  have hmI : (m : Int) ≤ (bs.size : Int) := by omega
  have hbI : (bs.size : Int) ≤ 1048576 := by omega
  rw [← hn] at c1 ⊢
  obtain ⟨A, hA⟩ : ∃ A, A = w.heap.size := ⟨_, rfl⟩
  obtain ⟨w0, hw0⟩ : ∃ y, y = w.alloc (.cells #[.pointer (some ⟨L, 0, none⟩)] 33) := ⟨_, rfl⟩
  have hb0 : Below w.heap.size w w0 := by rw [hw0]; exact below_alloc0 (Below.refl _ _) _
  have H0 : Hid (w0.cell? ⟨A, 0, none⟩ = some (.pointer (some ⟨L, 0, none⟩)) ∧ w0.cell? ⟨L, 0, none⟩ = some (.pointer (some ⟨G, 0, none⟩)) ∧ w0.cell? ⟨L, 1, none⟩ = some (.slice a n cap) ∧ A < w0.heap.size ∧ L < w0.heap.size ∧ Below w.heap.size w w0) :=
    ⟨by rw [hw0, hA]; simp [go_sem], (hb0.cell (p := ⟨L, 0, none⟩) hlt).trans c0, (hb0.cell (p := ⟨L, 1, none⟩) hlt).trans c1, by rw [hw0, hA]; simp, Nat.lt_of_lt_of_le hlt hb0.size, hb0⟩
  have KL : Hid (∀ w' : World, Below w.heap.size w w' → Calls Tryd.prog 14 #[.pointer (some ⟨G, 0, none⟩)] w' fun e w'' => e = .returned (.tuple #[.int .i64 (bs.size : Nat), .int .i64 (m : Nat)]) ∧ Below w'.heap.size w' w'') := fun w' hb => by
    refine (flen_any G _ m bs w' (hF.keep 3 (Chg.of_below hb (i := 0) (j := 0)) (by decide) (by decide) (by decide) (by decide)).2.2).mono ?_
    rintro e w'' ⟨e1, _, e3⟩
    exact ⟨e1, e3⟩
  have KB : Hid (∀ w' : World, Below w.heap.size w w' → Calls Tryd.prog 17 #[.pointer (some ⟨G, 0, none⟩)] w' fun e w'' => e = .returned (.string bs) ∧ w'' = w') := fun w' hb =>
    fbytes_any G _ m bs w' (hF.keep 3 (Chg.of_below hb (i := 0) (j := 0)) (by decide) (by decide) (by decide) (by decide)).2.2
  have HC1 : Hid (w.cell? ⟨L, 1, none⟩ = some (.slice a n cap) ∧ L < w.heap.size) := ⟨c1, hlt⟩
  have HW : Hid (w0 = w.alloc (.cells #[.pointer (some ⟨L, 0, none⟩)] 33) ∧ A = w.heap.size) := ⟨hw0, hA⟩
  have HG : Hid (Glb w c) := hG
  clear hF hG hcL fz hRow hn hA hw0 hb0 hT hV hj hrn hbz hm
  refine (callsIn_wide (n := 3)).1 ?_
  refine callsIn_of_wp_marks Tryd.func22 rfl trivial ?_
  simp only [Tryd.ntmps22, List.size_toArray, List.length_cons, List.length_nil, Nat.reduceAdd, Nat.reduceSub, Array.replicate_succ, Array.replicate_zero, List.push_toArray, List.append_toArray, List.nil_append, List.cons_append]
  gi_wp2
  refine ⟨trivial, ?_⟩
  rw [← HW.out.1]
  rw [← HW.out.2]
  refine (callsIn_wide.2 (KL.out _ H0.out.2.2.2.2.2)).mono ?_
  rintro e w1 ⟨rfl, hb1⟩
  obtain ⟨E, hE⟩ : ∃ E, E = w1.heap.size := ⟨_, rfl⟩
  obtain ⟨w2, hw2⟩ : ∃ y, y = w1.alloc (.cells #[.int .i64 0] 3) := ⟨_, rfl⟩
  have b0 := (hb1.cell (p := ⟨A, 0, none⟩) H0.out.2.2.2.1).trans H0.out.1
  have b1 := (hb1.cell (p := ⟨L, 0, none⟩) H0.out.2.2.2.2.1).trans H0.out.2.1
  have zA : A < w1.heap.size := Nat.lt_of_lt_of_le H0.out.2.2.2.1 hb1.size
  have zL : L < w1.heap.size := Nat.lt_of_lt_of_le H0.out.2.2.2.2.1 hb1.size
  have H2 : Hid (w2.cell? ⟨A, 0, none⟩ = some (.pointer (some ⟨L, 0, none⟩)) ∧ w2.cell? ⟨L, 1, none⟩ = some (.slice a n cap) ∧ w2.cell? ⟨E, 0, none⟩ = some (.int .i64 0) ∧ A < E ∧ L < E ∧ w2.heap.size = E + 1 ∧ Below w.heap.size w w2 ∧ A = w.heap.size ∧ ∀ o, w2.frozen? ⟨E, o, none⟩ = false) := by
    have hb2 : Below w1.heap.size w1 w2 := by rw [hw2]; exact below_alloc0 (Below.refl _ _) _
    exact ⟨(hb2.cell (p := ⟨A, 0, none⟩) zA).trans b0, (hb2.cell (p := ⟨L, 1, none⟩) zL).trans ((hb1.cell (p := ⟨L, 1, none⟩) H0.out.2.2.2.2.1).trans H0.out.2.2.1), by rw [hw2, hE]; simp [go_sem], by rw [hE]; exact zA, by rw [hE]; exact zL, by rw [hw2, hE]; simp, below_call0 (below_call0 H0.out.2.2.2.2.2 hb1) hb2, HW.out.2, fun o => by rw [hw2, hE]; simp [go_sem]⟩
  have HW2 : Hid (w2 = w1.alloc (.cells #[.int .i64 0] 3) ∧ E = w1.heap.size) := ⟨hw2, hE⟩
  clear hb1 hE hw2 H0 HW KL c0 hlt
  gi_wp2
  refine ⟨trivial, ?_⟩
  rw [← HW2.out.1]
  rw [← HW2.out.2]
  refine (callsIn_wide.2 (KB.out _ H2.out.2.2.2.2.2.2.1)).mono ?_
  rintro e w2' ⟨rfl, rfl⟩
  clear b0 b1 zA zL HW2 KB
  gi_wp2
  refine ⟨trivial, ?_⟩
  refine (callsIn_wide.2 (told_box V _)).mono ?_
  rintro e w3 ⟨rfl, hw3⟩
  rw [H2.out.2.2.2.2.2.1]
  have H3 : Hid (w3.cell? ⟨A, 0, none⟩ = some (.pointer (some ⟨L, 0, none⟩)) ∧ w3.cell? ⟨L, 1, none⟩ = some (.slice a n cap) ∧ w3.cell? ⟨E, 0, none⟩ = some (.int .i64 0) ∧ A < E ∧ L < E ∧ w3.heap.size = E + 2 ∧ Below w.heap.size w w3 ∧ A = w.heap.size ∧ w3.cell? ⟨E + 1, 0, none⟩ = some (.string V) ∧ w3.frozen? ⟨E + 1, 0, none⟩ = false ∧ ∀ o, w3.frozen? ⟨E, o, none⟩ = false) := by
    obtain ⟨d0, d1, d2, d3, d4, d5, d6, d7, d8⟩ := H2.out
    have hb3 : Below w2'.heap.size w2' w3 := by rw [hw3]; exact below_alloc0 (Below.refl _ _) _
    exact ⟨(hb3.cell (p := ⟨A, 0, none⟩) (by show A < _; omega)).trans d0, (hb3.cell (p := ⟨L, 1, none⟩) (by show L < _; omega)).trans d1, (hb3.cell (p := ⟨E, 0, none⟩) (by show E < _; omega)).trans d2, d3, d4, by rw [hw3]; simp; omega, below_call0 d6 hb3, d7, by rw [hw3, ← d5]; simp [go_sem], by rw [hw3, ← d5]; simp [go_sem], fun o => (hb3.frozen (p := ⟨E, o, none⟩) (by show E < _; omega)).trans (d8 o)⟩
  clear hw3 H2
  gi_wp2
  rename_i Kr hKr
  have HKr : Hid _ := hKr
  clear hKr
  clear hV' hmI c1
  refine wpIn_rangeFunc_box (D := E + 2) H3.out.2.2.2.2.2.1.symm rfl (by decide) (gf := 33) (lb := #[.pointer (some ⟨E + 1, 0, none⟩)]) rfl trivial (enters_of Tryd.func33 (by kernel_rfl) rfl) (encs := fun x : ByteArray => #[.string x]) (fun x => rfl) (c := E + 1) (by omega)
    (told_tells 2 (by decide) (E + 1) V HV.out.2 (rs.take j) HV.out.1 w3 (HG.out.1.call H3.out.2.2.2.2.2.2.1) (Nat.lt_of_lt_of_le HG.out.2.2.1 H3.out.2.2.2.2.2.2.1.size) H3.out.2.2.2.2.2.2.2.2.1 H3.out.2.2.2.2.2.2.2.2.2.1 (by have := H3.out.2.2.2.2.2.1; omega) ⟨by have := HG.out.2.1; have := H3.out; omega, by have := HG.out.2.2.1; have := H3.out; omega⟩) (Below.refl _ _)
    (fun k => k = E) (fun k hk h => by
      have h1 := HG.out.2.1; have h2 := HG.out.2.2.1; have h3 := H3.out.2.2.2.1; have h4 := H3.out.2.2.2.2.2.2.2.1
      rcases hk with rfl | rfl | rfl <;> omega) (by omega) (by omega)
    (fun pre W => W.cell? ⟨A, 0, none⟩ = some (.pointer (some ⟨L, 0, none⟩)) ∧ W.cell? ⟨E, 0, none⟩ = some (.int .i64 (pre.length : Nat)) ∧ (∀ o, W.frozen? ⟨E, o, none⟩ = false) ∧ E + 2 ≤ W.heap.size ∧ Below w.heap.size w W) (fun _ _ _ => False)
    (fun s V B hs ho => by
      obtain ⟨s0, s2, sf, s3, s4⟩ := hs
      have e1 := H3.out.2.2.2.1
      have e3 := H3.out.2.2.2.2.2.2.2.1
      exact ⟨(ho.cell (p := ⟨A, 0, none⟩) (by show ¬ (A = _ ∨ A = _ ∨ A = _ ∨ _ ≤ A); omega)).trans s0, (ho.cell (p := ⟨E, 0, none⟩) (by show ¬ (E = _ ∨ E = _ ∨ E = _ ∨ _ ≤ E); omega)).trans s2, fun o => (ho.frozen (p := ⟨E, o, none⟩) (by show ¬ (E = _ ∨ E = _ ∨ E = _ ∨ _ ≤ E); omega)).trans (sf o), Nat.le_trans s3 ho.size, s4.trans ⟨ho.os, ho.tape, ho.output, ho.size, fun k hk => ho.block k (by omega)⟩⟩) (fun _ _ _ _ hs _ => hs)
    ⟨H3.out.1, H3.out.2.2.1, H3.out.2.2.2.2.2.2.2.2.2.2, by have := H3.out.2.2.2.2.2.1; omega, H3.out.2.2.2.2.2.2.1⟩
    (fun x => { tmps := #[.pointer (some ⟨L, 0, none⟩), .pointer (some ⟨A, 0, none⟩), .int .i64 0, .int .i64 0, .int .i64 (bs.size : Nat), .int .i64 (m : Nat), .pointer (some ⟨E, 0, none⟩), .string x, .pointer (some ⟨L, 0, none⟩), .bool false, .tuple #[.int .i64 (bs.size : Nat), .int .i64 (m : Nat)], .pointer (some ⟨L, 0, none⟩), .pointer (some ⟨L, 0, none⟩), .pointer (some ⟨L, 0, none⟩), .pointer (some ⟨G, 0, none⟩), .tuple #[.int .i64 (bs.size : Nat), .int .i64 (m : Nat)], .int .i64 (bs.size : Nat), .int .i64 (m : Nat), .pointer (some ⟨L, 0, none⟩), .pointer (some ⟨L, 0, none⟩), .pointer (some ⟨L, 0, none⟩), .pointer (some ⟨G, 0, none⟩), .string bs, .int .i64 (m : Nat), .string V, .func (.func 33) #[] #[.pointer (some ⟨E + 1, 0, none⟩)], .string x, undef, undef, undef, undef, undef, undef, undef, undef, undef, undef, undef, undef, undef, undef, undef, undef, undef, undef, undef, undef, undef, undef, undef, undef, undef, undef], defers := [] }) ?assign ?body ?done ?stop
  case assign =>
    intro x W K hK
    gi_wp2
    exact hK
  case body =>
    rintro pre x W hpre ⟨s0, s2, sf, s3, s4⟩ hlt
    obtain ⟨t, ht⟩ := hpre
    have hxk : rs[pre.length]? = some x ∧ pre.length < j := by
      have h1 : (rs.take j)[pre.length]? = some x := by rw [← ht]; simp
      rw [List.getElem?_take] at h1
      split at h1
      · next q => exact ⟨h1, q⟩
      · cases h1
    obtain ⟨k, hk⟩ : ∃ k, k = pre.length := ⟨_, rfl⟩
    rw [← hk] at hxk s2
    obtain ⟨tb, tq, rfl, hc, htb⟩ := HR.out k x hxk.1
    have c1' : w.cell? ⟨L, 1, none⟩ = some (.slice (some ⟨tb, tq, none⟩) n cap) := HC1.out.1
    have u1 : W.cell? ⟨L, 1, none⟩ = some (.slice (some ⟨tb, tq, none⟩) n cap) := (s4.cell (p := ⟨L, 1, none⟩) HC1.out.2).trans c1'
    have u2 : W.cell? ⟨tb, tq + k, none⟩ = some (.string x) := (s4.cell (p := ⟨tb, tq + k, none⟩) htb).trans hc
    have b1 : ((k : Int) == (n : Int)) = false := beq_eq_false_iff_ne.2 (by have := HJ.out; omega)
    have b2 : (k : Int) < (n : Int) := by have := HJ.out; omega
    have b3 : k < n := by have := HJ.out; omega
    have b4 : (k : Int) ≤ 1000000 := by omega
    have HI : Hid (W.cell? ⟨A, 0, none⟩ = some (.pointer (some ⟨L, 0, none⟩)) ∧ W.cell? ⟨E, 0, none⟩ = some (.int .i64 (k : Nat)) ∧ (∀ o, W.frozen? ⟨E, o, none⟩ = false) ∧ E + 2 ≤ W.heap.size ∧ Below w.heap.size w W ∧ k = pre.length) := ⟨s0, s2, sf, s3, s4, hk⟩
    have f0 := sf 0
    have HLT : Hid (E + 2 + 1 < W.heap.size) := hlt
    clear hxk hk hc htb c1' sf s3 s4 ht hlt
    gi_wp2
    refine wpIn_region_Q (by kernel_rfl) (by kernel_rfl) (by kernel_rfl) (by rintro ⟨a, w, h⟩; exact h) ?_
    repeat (quiet_step (fail))
    refine wpQuiet_nil ?_
    intro _ hw'
    obtain ⟨nq, hw''⟩ := hw'
    subst hw''
    gi_wp2
    have e5 : ((k : Int) + 1) = ((k + 1 : Nat) : Int) := by omega
    rw [e5]
    have oW : Off (fun k => k = E ∨ W.heap.size ≤ k) W ((W.drewN nq).setCell ⟨E, 0, none⟩ (.int .i64 ((k + 1 : Nat) : Int))) := (Off.of_below (below_drewN (Below.refl _ _) nq) (fun k hk => .inr hk)).trans (off_set (W.drewN nq) E 0 _ (fun k hk => .inl hk))
    have e1 := H3.out.2.2.2.1
    have e3 := H3.out.2.2.2.2.2.2.2.1
    refine ⟨oW, ?_, ?_, fun o => ?_, ?_, ?_⟩
    · exact (oW.cell (p := ⟨A, 0, none⟩) (by show ¬ (A = E ∨ W.heap.size ≤ A); have := HI.out.2.2.2.1; omega)).trans HI.out.1
    · have hl : (pre ++ [x]).length = k + 1 := by rw [List.length_append, HI.out.2.2.2.2.2]; rfl
      rw [hl]
      exact World.cell?_setCell_same _ _ _ (u := .int .i64 (k : Nat)) ((World.cell?_drewN W nq _).trans HI.out.2.1)
    · rw [World.frozen?_setCell]; exact HI.out.2.2.1 o
    · rw [World.size_setCell]; exact HI.out.2.2.2.1
    · exact HI.out.2.2.2.2.1.trans ⟨oW.os, oW.tape, oW.output, oW.size, fun b hb => oW.block b (by show ¬ (b = E ∨ W.heap.size ≤ b); have := HI.out.2.2.2.1; omega)⟩
  case done =>
    rintro W ⟨q0, q2, qf, q3, hB⟩ hD
    have q1 : W.cell? ⟨L, 1, none⟩ = some (.slice a n cap) := (hB.cell (p := ⟨L, 1, none⟩) HC1.out.2).trans HC1.out.1
    have hjl : (rs.take j).length = j := by rw [List.length_take]; have := HJ.out; omega
    rw [hjl] at q2
    have HB : Hid (Below w.heap.size w W ∧ W.heap[E + 2]? = some (.deferred (some []))) := ⟨hB, hD⟩
    clear hB hD q3 qf hjl
    refine HKr.out _ _ ?_
    clear HKr
    gi_wp2
    refine wpIn_wide.2 ?_
    go_quiet (fail)
    gi_wp2
    refine ⟨by simp, .inl ⟨_, _, rfl, run_takeDeferred HB.out.2, ?_⟩⟩
    refine ⟨_, results_tmp2 rfl _ _ _, rfl, ?_⟩
    have op := Off.put (W.drewN nq) (E + 2) (.deferred none)
    exact (below_drewN HB.out.1 nq).trans ⟨op.os, op.tape, op.output, op.size, fun k hk => op.block k (fun q => by have := H3.out.2.2.2.1; have := H3.out.2.2.2.2.2.2.2.1; omega)⟩
  case stop =>
    rintro id pre W _ h _
    exact h.elim
end Go.Proofs.YtdnahobafhelhaaDoor
