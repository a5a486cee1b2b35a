/- The reference's watch: Heard, Silent, Check. -/
import Derived.Test.YtpgpbfcomobfkaaBtS
import Derived.Deep.CutBlock
namespace Go.Proofs.Ytpgpbfcomobfkaa
open Go Go.RowKit Go.Lib

theorem cell_neB {w : World} {g r o p : Nat} {v : Value} (h : r ≠ g) : (w.setCell ⟨g, p, none⟩ v).cell? ⟨r, o, none⟩ = w.cell? ⟨r, o, none⟩ := World.cell?_setCell_other _ _ _ _ (by intro c; injection c with c1 _ _; exact h c1.symm)
theorem rheard_no (r q cap : Nat) (x : Wt) (k m : Int) (h : ¬ ((1 ≤ k ∧ k ≤ (x.n : Nat)) ∧ ((x.now : Nat) : Int) ≤ m ∧ m ≤ 1099511627776)) (w : World) (hW : RWatch w r q cap x) : Calls Try.prog 13 #[.pointer (some ⟨r, 0, none⟩), .int .i64 k, .int .i64 m] w fun e w' => e = .returned (.tuple #[.bool false, .int .i64 1]) ∧ w' = w := by
  have c0 := hW.c0
  have c2 := hW.c2
  clear hW
  obtain ⟨n, hn⟩ : ∃ n, n = x.n := ⟨_, rfl⟩
  obtain ⟨t, ht⟩ : ∃ t, t = x.now := ⟨_, rfl⟩
  rw [← hn] at c0 h
  rw [← ht] at c2 h
  clear hn ht
  have hc : k < 1 ∨ (1 ≤ k ∧ (n : Nat) < k) ∨ (1 ≤ k ∧ k ≤ (n : Nat) ∧ m < (t : Nat)) ∨ (1 ≤ k ∧ k ≤ (n : Nat) ∧ (t : Nat) ≤ m ∧ 1099511627776 < m) := by omega
  clear h
  rcases hc with h1 | ⟨h1, h2⟩ | ⟨h1, h2, h3⟩ | ⟨h1, h2, h3, h4⟩
  all_goals
    go_enter Try.func13, Try.ntmps13
    go_wp2_with fail
    go_ret2
    exact ⟨rfl, rfl⟩
theorem RWatch.heard {w w' : World} {r q cap k m : Nat} {x : Wt} (h : RWatch w r q cap x) (hm : m ≤ 1099511627776) (hk : k ≤ x.n) (hz : w'.heap.size = w.heap.size)
    (e2 : w'.cell? ⟨r, 2, none⟩ = some (.int .i64 (m : Nat))) (eh : w'.cell? ⟨q, k * 3, none⟩ = some (.int .i64 (m : Nat))) (et : w'.cell? ⟨q, k * 3 + 1, none⟩ = some (.int .i64 (dbl (x.s k) (x.t k) : Nat))) (es : w'.cell? ⟨q, k * 3 + 2, none⟩ = some (.bool false))
    (er : ∀ o, o ≠ 2 → w'.cell? ⟨r, o, none⟩ = w.cell? ⟨r, o, none⟩) (eq : ∀ o, o ≠ k * 3 → o ≠ k * 3 + 1 → o ≠ k * 3 + 2 → w'.cell? ⟨q, o, none⟩ = w.cell? ⟨q, o, none⟩) (fr : ∀ o, w'.frozen? ⟨r, o, none⟩ = w.frozen? ⟨r, o, none⟩) (fq : ∀ o, w'.frozen? ⟨q, o, none⟩ = w.frozen? ⟨q, o, none⟩) : RWatch w' r q cap (heardW x k m) := by
  refine ⟨heardW_ok h.ok hm, by rw [hz]; exact h.rl, by rw [hz]; exact h.ql, h.ne, (er _ (by omega)).trans h.c0, (er _ (by omega)).trans h.c1, e2, (er _ (by omega)).trans h.c3, fun j hj => ?_, fun j hj => ?_, fun j hj => ?_, fun o => (fr o).trans (h.fr o), fun o => (fq o).trans (h.fq o)⟩
  · by_cases c : j = k
    · subst c; rw [eh]; unfold heardW; simp
    · rw [eq _ (by omega) (by omega) (by omega), h.ch j hj]; unfold heardW; simp [c]
  · by_cases c : j = k
    · subst c; rw [et]; unfold heardW; simp
    · rw [eq _ (by omega) (by omega) (by omega), h.ct j hj]; unfold heardW; simp [c]
  · by_cases c : j = k
    · subst c; rw [es]; unfold heardW; simp
    · rw [eq _ (by omega) (by omega) (by omega), h.cs j hj]; unfold heardW; simp [c]
set_option maxHeartbeats 2000000 in
theorem rheard_ok (r q cap : Nat) (x : Wt) (k m : Nat) (k1 : 1 ≤ k) (kn : k ≤ x.n) (h1 : x.now ≤ m) (h2 : m ≤ 1099511627776) (w : World) (hW : RWatch w r q cap x) : Calls Try.prog 13 #[.pointer (some ⟨r, 0, none⟩), .int .i64 (k : Nat), .int .i64 (m : Nat)] w fun e w' => e = .returned (.tuple #[.bool (x.s k), .int .i64 0]) ∧ RWatch w' r q cap (heardW x k m) ∧ But2 r q (From w.heap.size) w w' := by
  have HW : Hid (RWatch w r q cap x ∧ m ≤ 1099511627776 ∧ k ≤ x.n) := ⟨hW, h2, kn⟩
  have c0 := hW.c0
  have c2 := hW.c2
  have c3 := hW.c3
  have ch := hW.ch k kn
  have ct := hW.ct k kn
  have cs := hW.cs k kn
  have f2 := hW.fr 2
  have fh := hW.fq (k * 3)
  have ft := hW.fq (k * 3 + 1)
  have fs := hW.fq (k * 3 + 2)
  have rq : r ≠ q := hW.ne
  have qr : q ≠ r := hW.ne.symm
  have bt := hW.ok.t k
  obtain ⟨n, hn⟩ : ∃ n, n = x.n := ⟨_, rfl⟩
  obtain ⟨t, ht⟩ : ∃ t, t = x.now := ⟨_, rfl⟩
  obtain ⟨T, hT⟩ : ∃ T, T = x.t k := ⟨_, rfl⟩
  obtain ⟨S1, hS⟩ : ∃ S1, S1 = x.s k := ⟨_, rfl⟩
  obtain ⟨n1, hn1⟩ : ∃ n1, n1 = x.n + 1 := ⟨_, rfl⟩
  rw [← hn] at c0 kn
  rw [← ht] at c2 h1
  rw [← hn1] at c3
  rw [← hT] at ct bt
  rw [← hS] at cs ⊢
  have HT : Hid (T = x.t k ∧ S1 = x.s k) := ⟨hT, hS⟩
  have b1 : ¬ (((k : Nat) : Int) < 1) := by omega
  have b2 : ¬ (((n : Nat) : Int) < ((k : Nat) : Int)) := by omega
  have b3 : ¬ (((m : Nat) : Int) < ((t : Nat) : Int)) := by omega
  have b4 : ¬ ((1099511627776 : Int) < ((m : Nat) : Int)) := by omega
  have b5 : ((k : Nat) : Int) < (n1 : Nat) := by omega
  have b6 : k < n1 := by omega
  have b7 : (T : Int) ≤ 64 := by omega
  have b8 : k ≤ 10 := by have := hW.ok.n10; omega
  have o1 : k * 3 ≠ k * 3 + 1 := by omega
  have o2 : k * 3 ≠ k * 3 + 2 := by omega
  have o3 : k * 3 + 1 ≠ k * 3 + 2 := by omega
  clear hW hn ht hT hS hn1 h1 h2 k1 kn bt
  cases S1 with
  | false =>
    go_enter Try.func13, Try.ntmps13
    go_wp2_with fail
    go_ret2
    refine ⟨rfl, ?_, (((But2.refl _ _ _ _).setR _).setQ _).setQ _⟩
    refine HW.out.1.heard HW.out.2.1 HW.out.2.2 (by simp) ?_ ?_ ?_ ?_ (fun o a1 => ?_) (fun o a1 a2 a3 => ?_) (fun o => by simp only [World.frozen?_setCell]) (fun o => by simp only [World.frozen?_setCell])
    · rw [cell_neB rq, cell_neB rq]; exact cell_eq c2
    · rw [cell_ne (by omega)]; exact cell_eq (by rw [cell_neB qr]; exact ch)
    · rw [cell_ne (by omega), cell_ne (by omega), cell_neB qr, ← HT.out.2, ← HT.out.1]; exact ct
    · exact cell_eq (by rw [cell_ne (by omega), cell_neB qr]; exact cs)
    · rw [cell_neB rq, cell_neB rq, cell_ne a1]
    · rw [cell_ne a3, cell_ne a1, cell_neB qr]
  | true =>
    obtain ⟨U, hU⟩ : ∃ U, U = 2 * T := ⟨_, rfl⟩
    have u1 : (2 : Int) * (T : Int) = (U : Nat) := by omega
    have u2 : IntKind.i64.wrap ((U : Nat) : Int) = (U : Nat) := IntWalk.i64_in _ (by omega)
    have u3 : ((U : Nat) : Int) ≤ 128 := by omega
    have HU : Hid (U = 2 * T) := hU
    have k2 : IntKind.i64.wrap ((k : Nat) : Int) = (k : Nat) := IntWalk.i64_in _ (by omega)
    go_enter Try.func13, Try.ntmps13
    go_upto_region 8 with fail
    obtain ⟨w3, hw3⟩ : ∃ w3, w3 = ((w.setCell ⟨r, 2, none⟩ (.int .i64 (m : Nat))).setCell ⟨q, k * 3, none⟩ (.int .i64 (m : Nat))).setCell ⟨q, k * 3 + 2, none⟩ (.bool false) := ⟨_, rfl⟩
    rw [← hw3]
    have s3 : w3.cell? ⟨r, 3, none⟩ = some (.slice (some ⟨q, 0, none⟩) n1 cap) := by rw [hw3, cell_neB rq, cell_neB rq, cell_ne (by omega)]; exact c3
    have st : w3.cell? ⟨q, k * 3 + 1, none⟩ = some (.int .i64 (T : Nat)) := by rw [hw3, cell_ne (by omega), cell_ne (by omega), cell_neB qr]; exact ct
    have sf : w3.frozen? ⟨q, k * 3 + 1, none⟩ = false := by rw [hw3]; simp only [World.frozen?_setCell]; exact ft
    have HH : Hid (w3.cell? ⟨r, 2, none⟩ = some (.int .i64 (m : Nat)) ∧ w3.cell? ⟨q, k * 3, none⟩ = some (.int .i64 (m : Nat)) ∧ w3.cell? ⟨q, k * 3 + 2, none⟩ = some (.bool false) ∧ (∀ o, o ≠ 2 → w3.cell? ⟨r, o, none⟩ = w.cell? ⟨r, o, none⟩) ∧ (∀ o, o ≠ k * 3 → o ≠ k * 3 + 2 → w3.cell? ⟨q, o, none⟩ = w.cell? ⟨q, o, none⟩) ∧ (∀ b o, w3.frozen? ⟨b, o, none⟩ = w.frozen? ⟨b, o, none⟩) ∧ w3.heap.size = w.heap.size ∧ But2 r q (From w.heap.size) w w3) := by
      rw [hw3]
      refine ⟨?_, ?_, ?_, fun o a1 => ?_, fun o a1 a3 => ?_, fun b o => by simp only [World.frozen?_setCell], by simp, (((But2.refl _ _ _ _).setR _).setQ _).setQ _⟩
      · rw [cell_neB rq, cell_neB rq]; exact cell_eq c2
      · rw [cell_ne (by omega)]; exact cell_eq (by rw [cell_neB qr]; exact ch)
      · exact cell_eq (by rw [cell_ne (by omega), cell_neB qr]; exact cs)
      · rw [cell_neB rq, cell_neB rq, cell_ne a1]
      · rw [cell_ne a3, cell_ne a1, cell_neB qr]
    have HK : Hid (T ≤ 64 ∧ r ≠ q) := ⟨by omega, rq⟩
    clear hw3 c0 c2 c3 ch ct cs f2 fh ft fs b1 b2 b3 b4 o1 o2 o3 hU
    refine wp_region_N (fun w' => w'.cell? ⟨r, 3, none⟩ = some (.slice (some ⟨q, 0, none⟩) n1 cap) ∧ w'.cell? ⟨q, k * 3 + 1, none⟩ = some (.int .i64 (T : Nat))) 16 17 rfl (by kernel_rfl) ?_
    refine wpAnyN_takeF (i := 0) (oi := ?o0) (v := ?v0) ?hi0 (by kernel_rfl) (by kernel_rfl) (by kernel_rfl) (by decide) ?hQ0 ?hy0 ⟨s3, st⟩ ?more0
    case hi0 => rw [List.getElem?_toArray]; exact rfl
    case hQ0 => exact fun _ _ _ h => h
    case hy0 =>
      refine Or.inl ⟨by rfl, ?_⟩
      intro w' hSw
      clear hSw
      go_simp
      try with_reducible rfl
    simp only [Act.put, List.setIfInBounds_toArray, List.set_cons_zero, List.set_cons_succ]
    refine wpAnyN_takeF (i := 1) (oi := ?o1) (v := ?v1) ?hi1 (by kernel_rfl) (by kernel_rfl) (by kernel_rfl) (by decide) ?hQ1 ?hy1 ⟨s3, st⟩ ?more1
    case hi1 => rw [List.getElem?_toArray]; exact rfl
    case hQ1 => exact fun _ _ _ h => h
    case hy1 =>
      refine Or.inl ⟨by rfl, ?_⟩
      intro w' hSw
      clear hSw
      go_simp
      try with_reducible rfl
    simp only [Act.put, List.setIfInBounds_toArray, List.set_cons_zero, List.set_cons_succ]
    refine wpAnyN_takeF (i := 2) (oi := ?o2) (v := ?v2) ?hi2 (by kernel_rfl) (by kernel_rfl) (by kernel_rfl) (by decide) ?hQ2 ?hy2 ⟨s3, st⟩ ?more2
    case hi2 => rw [List.getElem?_toArray]; exact rfl
    case hQ2 => exact fun _ _ _ h => h
    case hy2 =>
      refine Or.inl ⟨by rfl, ?_⟩
      intro w' hSw
      clear hSw
      go_simp
      try with_reducible rfl
    simp only [Act.put, List.setIfInBounds_toArray, List.set_cons_zero, List.set_cons_succ]
    refine wpAnyN_take (i := 3) (oi := ?o3) (v := ?v3) ?hi3 (by kernel_rfl) (by kernel_rfl) (by kernel_rfl) (by kernel_rfl) (by decide) (by kernel_rfl) ?hQ3 ?hy3 ⟨s3, st⟩ ?more3
    case hi3 => rw [List.getElem?_toArray]; exact rfl
    case hQ3 => exact fun _ _ _ h => h
    case hy3 =>
      refine Or.inl ⟨by rfl, ?_⟩
      intro w' hSw
      obtain ⟨z1, z2⟩ := hSw
      go_simp
      try with_reducible rfl
    simp only [Act.put, List.setIfInBounds_toArray, List.set_cons_zero, List.set_cons_succ]
    refine wpAnyN_takeF (i := 4) (oi := ?o4) (v := ?v4) ?hi4 (by kernel_rfl) (by kernel_rfl) (by kernel_rfl) (by decide) ?hQ4 ?hy4 ⟨s3, st⟩ ?more4
    case hi4 => rw [List.getElem?_toArray]; exact rfl
    case hQ4 => exact fun _ _ _ h => h
    case hy4 =>
      refine Or.inl ⟨by rfl, ?_⟩
      intro w' hSw
      clear hSw
      go_simp
      try with_reducible rfl
    simp only [Act.put, List.setIfInBounds_toArray, List.set_cons_zero, List.set_cons_succ]
    refine wpAnyN_takeF (i := 5) (oi := ?o5) (v := ?v5) ?hi5 (by kernel_rfl) (by kernel_rfl) (by kernel_rfl) (by decide) ?hQ5 ?hy5 ⟨s3, st⟩ ?more5
    case hi5 => rw [List.getElem?_toArray]; exact rfl
    case hQ5 => exact fun _ _ _ h => h
    case hy5 =>
      refine Or.inl ⟨by rfl, ?_⟩
      intro w' hSw
      clear hSw
      go_simp
      try with_reducible rfl
    simp only [Act.put, List.setIfInBounds_toArray, List.set_cons_zero, List.set_cons_succ]
    refine wpAnyN_takeF (i := 6) (oi := ?o6) (v := ?v6) ?hi6 (by kernel_rfl) (by kernel_rfl) (by kernel_rfl) (by decide) ?hQ6 ?hy6 ⟨s3, st⟩ ?more6
    case hi6 => rw [List.getElem?_toArray]; exact rfl
    case hQ6 => exact fun _ _ _ h => h
    case hy6 =>
      refine Or.inl ⟨by rfl, ?_⟩
      intro w' hSw
      clear hSw
      go_simp
      try with_reducible rfl
    simp only [Act.put, List.setIfInBounds_toArray, List.set_cons_zero, List.set_cons_succ]
    refine wpAnyN_takeF (i := 7) (oi := ?o7) (v := ?v7) ?hi7 (by kernel_rfl) (by kernel_rfl) (by kernel_rfl) (by decide) ?hQ7 ?hy7 ⟨s3, st⟩ ?more7
    case hi7 => rw [List.getElem?_toArray]; exact rfl
    case hQ7 => exact fun _ _ _ h => h
    case hy7 =>
      refine Or.inl ⟨by rfl, ?_⟩
      intro w' hSw
      clear hSw
      go_simp
      try with_reducible rfl
    simp only [Act.put, List.setIfInBounds_toArray, List.set_cons_zero, List.set_cons_succ]
    refine wpAnyN_take (i := 8) (oi := ?o8) (v := ?v8) ?hi8 (by kernel_rfl) (by kernel_rfl) (by kernel_rfl) (by kernel_rfl) (by decide) (by kernel_rfl) ?hQ8 ?hy8 ⟨s3, st⟩ ?more8
    case hi8 => rw [List.getElem?_toArray]; exact rfl
    case hQ8 => exact fun _ _ _ h => h
    case hy8 =>
      refine Or.inl ⟨by rfl, ?_⟩
      intro w' hSw
      obtain ⟨z1, z2⟩ := hSw
      go_simp
      try with_reducible rfl
    simp only [Act.put, List.setIfInBounds_toArray, List.set_cons_zero, List.set_cons_succ]
    refine wpAnyN_takeF (i := 9) (oi := ?o9) (v := ?v9) ?hi9 (by kernel_rfl) (by kernel_rfl) (by kernel_rfl) (by decide) ?hQ9 ?hy9 ⟨s3, st⟩ ?more9
    case hi9 => rw [List.getElem?_toArray]; exact rfl
    case hQ9 => exact fun _ _ _ h => h
    case hy9 =>
      refine Or.inl ⟨by rfl, ?_⟩
      intro w' hSw
      clear hSw
      go_simp
      try with_reducible rfl
    simp only [Act.put, List.setIfInBounds_toArray, List.set_cons_zero, List.set_cons_succ]
    refine wpAnyN_takeF (i := 10) (oi := ?o10) (v := ?v10) ?hi10 (by kernel_rfl) (by kernel_rfl) (by kernel_rfl) (by decide) ?hQ10 ?hy10 ⟨s3, st⟩ ?more10
    case hi10 => rw [List.getElem?_toArray]; exact rfl
    case hQ10 => exact fun _ _ _ h => h
    case hy10 =>
      refine Or.inl ⟨by rfl, ?_⟩
      intro w' hSw
      clear hSw
      go_simp
      try with_reducible rfl
    simp only [Act.put, List.setIfInBounds_toArray, List.set_cons_zero, List.set_cons_succ]
    refine wpAnyN_takeF (i := 11) (oi := ?o11) (v := ?v11) ?hi11 (by kernel_rfl) (by kernel_rfl) (by kernel_rfl) (by decide) ?hQ11 ?hy11 ⟨s3, st⟩ ?more11
    case hi11 => rw [List.getElem?_toArray]; exact rfl
    case hQ11 => exact fun _ _ _ h => h
    case hy11 =>
      refine Or.inl ⟨by rfl, ?_⟩
      intro w' hSw
      clear hSw
      go_simp
      try with_reducible rfl
    simp only [Act.put, List.setIfInBounds_toArray, List.set_cons_zero, List.set_cons_succ]
    refine wpAnyN_take (i := 12) (oi := ?o12) (v := ?v12) ?hi12 (by kernel_rfl) (by kernel_rfl) (by kernel_rfl) (by kernel_rfl) (by decide) (by kernel_rfl) ?hQ12 ?hy12 ⟨s3, st⟩ ?more12
    case hi12 => rw [List.getElem?_toArray]; exact rfl
    case hQ12 => exact fun _ _ _ h => h
    case hy12 =>
      refine Or.inl ⟨by rfl, ?_⟩
      intro w' hSw
      obtain ⟨z1, z2⟩ := hSw
      go_simp
      try with_reducible rfl
    simp only [Act.put, List.setIfInBounds_toArray, List.set_cons_zero, List.set_cons_succ]
    refine wpAnyN_takeF (i := 13) (oi := ?o13) (v := ?v13) ?hi13 (by kernel_rfl) (by kernel_rfl) (by kernel_rfl) (by decide) ?hQ13 ?hy13 ⟨s3, st⟩ ?more13
    case hi13 => rw [List.getElem?_toArray]; exact rfl
    case hQ13 => exact fun _ _ _ h => h
    case hy13 =>
      refine Or.inl ⟨by rfl, ?_⟩
      intro w' hSw
      clear hSw
      go_simp
      try with_reducible rfl
    simp only [Act.put, List.setIfInBounds_toArray, List.set_cons_zero, List.set_cons_succ]
    refine wpAnyN_takeF (i := 14) (oi := ?o14) (v := ?v14) ?hi14 (by kernel_rfl) (by kernel_rfl) (by kernel_rfl) (by decide) ?hQ14 ?hy14 ⟨s3, st⟩ ?more14
    case hi14 => rw [List.getElem?_toArray]; exact rfl
    case hQ14 => exact fun _ _ _ h => h
    case hy14 =>
      refine Or.inl ⟨by rfl, ?_⟩
      intro w' hSw
      clear hSw
      go_simp
      try with_reducible rfl
    simp only [Act.put, List.setIfInBounds_toArray, List.set_cons_zero, List.set_cons_succ]
    refine wpAnyN_takeF (i := 15) (oi := ?o15) (v := ?v15) ?hi15 (by kernel_rfl) (by kernel_rfl) (by kernel_rfl) (by decide) ?hQ15 ?hy15 ⟨s3, st⟩ ?more15
    case hi15 => rw [List.getElem?_toArray]; exact rfl
    case hQ15 => exact fun _ _ _ h => h
    case hy15 =>
      refine Or.inl ⟨by rfl, ?_⟩
      intro w' hSw
      clear hSw
      go_simp
      try with_reducible rfl
    simp only [Act.put, List.setIfInBounds_toArray, List.set_cons_zero, List.set_cons_succ]
    refine wpAnyN_one (i := 16) (o := ?o16) (by kernel_rfl) ?hi16 ?hw16 ?st16
    case hi16 => rw [List.getElem?_toArray]; exact rfl
    case hw16 => exact rfl
    intro K hK
    have HK16 : Hid _ := hK
    clear hK
    go_simp
    refine HK16.out _ _ ⟨fun h => absurd h (by decide +kernel), ?_⟩
    clear HK16 K
    try simp only [Act.put, List.setIfInBounds_toArray, List.set_cons_zero, List.set_cons_succ]
    refine wpAnyN_done (by kernel_rfl) ?_ _
    obtain ⟨w4, hw4⟩ : ∃ w4, w4 = (w3.setCell ⟨q, k * 3 + 1, none⟩ (.int .i64 (U : Nat))).drew := ⟨_, rfl⟩
    rw [← hw4]
    have s3' : w4.cell? ⟨r, 3, none⟩ = some (.slice (some ⟨q, 0, none⟩) n1 cap) := by rw [hw4]; exact (cell_neB rq).trans s3
    have st' : w4.cell? ⟨q, k * 3 + 1, none⟩ = some (.int .i64 (U : Nat)) := by rw [hw4]; exact cell_eq st
    have sf' : w4.frozen? ⟨q, k * 3 + 1, none⟩ = false := by rw [hw4]; show (w3.setCell _ _).frozen? _ = false; rw [World.frozen?_setCell]; exact sf
    have H4 : Hid (w4.cell? ⟨r, 2, none⟩ = some (.int .i64 (m : Nat)) ∧ w4.cell? ⟨q, k * 3, none⟩ = some (.int .i64 (m : Nat)) ∧ w4.cell? ⟨q, k * 3 + 2, none⟩ = some (.bool false) ∧ (∀ o, o ≠ 2 → w4.cell? ⟨r, o, none⟩ = w.cell? ⟨r, o, none⟩) ∧ (∀ o, o ≠ k * 3 → o ≠ k * 3 + 1 → o ≠ k * 3 + 2 → w4.cell? ⟨q, o, none⟩ = w.cell? ⟨q, o, none⟩) ∧ (∀ b o, w4.frozen? ⟨b, o, none⟩ = w.frozen? ⟨b, o, none⟩) ∧ w4.heap.size = w.heap.size ∧ But2 r q (From w.heap.size) w w4) := by
      obtain ⟨y1, y2, y3, y4, y5, y6, y7, y8⟩ := HH.out
      rw [hw4]
      refine ⟨(cell_neB HK.out.2).trans y1, (cell_ne (by omega)).trans y2, (cell_ne (by omega)).trans y3, fun o a1 => (cell_neB HK.out.2).trans (y4 o a1), fun o a1 a2 a3 => (cell_ne a2).trans (y5 o a1 a3), fun b o => (World.frozen?_setCell _ _ _ _).trans (y6 b o), (World.size_setCell _ _ _).trans y7, (y8.setQ _).drew⟩
    clear hw4 s3 st sf HH
    by_cases h64 : (64 : Int) < (U : Nat)
    · go_wp2_with fail
      go_ret2
      refine ⟨rfl, ?_, H4.out.2.2.2.2.2.2.2.setQ _⟩
      obtain ⟨y1, y2, y3, y4, y5, y6, y7, y8⟩ := H4.out
      refine HW.out.1.heard HW.out.2.1 HW.out.2.2 ((World.size_setCell _ _ _).trans y7) ((cell_neB HK.out.2).trans y1) ((cell_ne (by omega)).trans y2) ?_ ((cell_ne (by omega)).trans y3) (fun o a1 => (cell_neB HK.out.2).trans (y4 o a1)) (fun o a1 a2 a3 => (cell_ne a2).trans (y5 o a1 a2 a3)) (fun o => (World.frozen?_setCell _ _ _ _).trans (y6 _ o)) (fun o => (World.frozen?_setCell _ _ _ _).trans (y6 _ o))
      rw [cell_eq st', ← HT.out.2, ← HT.out.1, show ((dbl true T : Nat) : Int) = 64 by unfold dbl; rw [if_pos rfl]; have := HU.out; omega]
    · go_wp2_with fail
      go_ret2
      refine ⟨rfl, ?_, H4.out.2.2.2.2.2.2.2⟩
      obtain ⟨y1, y2, y3, y4, y5, y6, y7, y8⟩ := H4.out
      refine HW.out.1.heard HW.out.2.1 HW.out.2.2 y7 y1 y2 ?_ y3 y4 y5 (fun o => y6 _ o) (fun o => y6 _ o)
      rw [st', ← HT.out.2, ← HT.out.1, show ((dbl true T : Nat) : Int) = (U : Nat) by unfold dbl; rw [if_pos rfl]; have := HU.out; omega]
end Go.Proofs.Ytpgpbfcomobfkaa
