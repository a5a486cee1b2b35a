/- Package agenda: an agenda in memory; New, Len, place, First. -/
import Derived.Test.YtkgfeiigdhbddaaAgF
import Derived.Test.YtkgfeiigdhbddaaAgP
namespace Go.Proofs.Ytkgfeiigdhbddaa
open Go Go.RowKit Go.Lib Go.WideMaps Go.Maps
/-- An agenda at block g with the entries L, as they are told; l is the last ticket. -/
def AgZ (w : World) (Z : Nat → Prop) (g l : Nat) (L : List En) : Prop := ∃ n f, (PileF w Z g l ∧ n = 0 ∨ PileH w Z g l n f) ∧ Cont L f n ∧ ∀ e ∈ L, 1 ≤ e.t ∧ e.t ≤ l ∧ e.s.size ≤ 140737488351233
theorem AgZ.zg {w : World} {Z : Nat → Prop} {g l : Nat} {L : List En} (h : AgZ w Z g l L) : Z g ∧ g < w.heap.size ∧ w.cell? ⟨g, 2, none⟩ = some (.int .i64 (l : Nat)) := by
  obtain ⟨n, f, ⟨h, _⟩ | ⟨q, cap, B, p, h, _⟩, _⟩ := h
  · exact ⟨h.zg, h.gl, h.c2⟩
  · exact ⟨h.zg, h.gl, h.c2⟩
theorem AgZ.len5 {w : World} {Z : Nat → Prop} {g l : Nat} {L : List En} (h : AgZ w Z g l L) : L.length ≤ 512 := by
  obtain ⟨n, f, ⟨h, h0⟩ | ⟨q, cap, B, p, h, _⟩, hc, _⟩ := h
  · rw [hc.len, h0]; omega
  · rw [hc.len]; exact h.nb
theorem AgZ.srt {w : World} {Z : Nat → Prop} {g l : Nat} {L : List En} (h : AgZ w Z g l L) : Srt L := by
  obtain ⟨n, f, _, hc, _⟩ := h
  exact hc.srt
theorem AgZ.dst {w : World} {Z : Nat → Prop} {g l : Nat} {L : List En} (h : AgZ w Z g l L) : Dst L := by
  obtain ⟨n, f, ⟨h, h0⟩ | ⟨q, cap, B, p, h, _⟩, hc, _⟩ := h
  · subst h0; exact hc.dst (PlIs.zero f)
  · exact hc.dst h.pl
theorem AgZ.mem {w : World} {Z : Nat → Prop} {g l : Nat} {L : List En} (h : AgZ w Z g l L) : ∀ e ∈ L, 1 ≤ e.t ∧ e.t ≤ l ∧ e.s.size ≤ 140737488351233 := by
  obtain ⟨n, f, _, _, h⟩ := h
  exact h
theorem AgZ.mom {w : World} {Z : Nat → Prop} {g l : Nat} {L : List En} (h : AgZ w Z g l L) : ∀ e ∈ L, e.m ≤ 1099511627776 := by
  obtain ⟨n, f, ⟨h, h0⟩ | ⟨q, cap, B, p, h, _⟩, hc, _⟩ := h
  · intro e he
    obtain ⟨k, hk, _⟩ := (hc.mem e).1 he
    omega
  · intro e he
    obtain ⟨k, hk, rfl⟩ := (hc.mem e).1 he
    exact h.mb k hk
theorem PileI.mono {w : World} {Z Z' : Nat → Prop} {g l q cap B n : Nat} {f : Nat → En} {p : Nat → Option Nat} (h : PileI w Z g l q cap B n f p) (hz : ∀ k, k < w.heap.size → Z k → Z' k) : PileI w Z' g l q cap B n f p :=
  ⟨hz g h.gl h.zg, hz q h.rw.lt h.zq, hz B h.mp.lt h.zB, h.gq, h.gB, h.qB, h.gl, h.c0, h.c1, h.fg, h.rw, h.mp, h.pl, h.nb, h.tb, h.mb, h.c2⟩
theorem AgZ.mono {w : World} {Z Z' : Nat → Prop} {g l : Nat} {L : List En} (h : AgZ w Z g l L) (hz : ∀ k, k < w.heap.size → Z k → Z' k) : AgZ w Z' g l L := by
  obtain ⟨n, f, ⟨h, h0⟩ | ⟨q, cap, B, p, h, hh⟩, hc, hm⟩ := h
  · exact ⟨n, f, .inl ⟨⟨hz g h.gl h.zg, h.gl, h.c0, h.c1, h.fg, h.c2⟩, h0⟩, hc, hm⟩
  · exact ⟨n, f, .inr ⟨q, cap, B, p, h.mono hz, hh⟩, hc, hm⟩
theorem AgZ.kept {w w' : World} {Z : Nat → Prop} {g l : Nat} {L : List En} (h : AgZ w Z g l L) (hz : w.heap.size ≤ w'.heap.size) (hb : ∀ k, Z k → k < w.heap.size → w'.heap[k]? = w.heap[k]?) : AgZ w' Z g l L := by
  obtain ⟨n, f, ⟨h, h0⟩ | ⟨q, cap, B, p, h, hh⟩, hc, hm⟩ := h
  · exact ⟨n, f, .inl ⟨h.keep hz (hb g h.zg h.gl), h0⟩, hc, hm⟩
  · exact ⟨n, f, .inr ⟨q, cap, B, p, h.keep hz (hb g h.zg h.gl) (hb q h.zq h.rw.lt) (hb B h.zB h.mp.lt), hh⟩, hc, hm⟩
theorem AgZ.call {w w' : World} {Z : Nat → Prop} {g l : Nat} {L : List En} (h : AgZ w Z g l L) (hb : Below w.heap.size w w') : AgZ w' Z g l L := h.kept hb.size (fun k _ hk => hb.block k hk)
theorem anew_in (Z : Nat → Prop) (w : World) (hZ : ∀ k, w.heap.size ≤ k → Z k) : Calls Try.prog 7 #[] w fun e w' => e = .returned (.pointer (some ⟨w.heap.size, 0, none⟩)) ∧ AgZ w' Z w.heap.size 0 [] ∧ Below w.heap.size w w' := by
  have HZ : Hid (∀ k, w.heap.size ≤ k → Z k) := hZ
  clear hZ
  go_enter Try.func7, Try.ntmps7
  go_wp2_with fail
  go_ret
  refine ⟨rfl, ⟨0, fun _ => zeroE, .inl ⟨⟨HZ.out _ (Nat.le_refl _), by simp, by simp [go_sem], by simp [go_sem], fun o => World.frozen?_alloc_new _ _ _ _, by simp [go_sem]⟩, rfl⟩, Cont.nil _, fun e he => by cases he⟩, below_alloc0 (Below.refl _ _) _⟩
theorem plenF_in (g l : Nat) (Z : Nat → Prop) (w : World) (hP : PileF w Z g l) : Calls Try.prog 22 #[.pointer (some ⟨g, 0, none⟩)] w fun e w' => e = .returned (.int .i64 ((0 : Nat) : Nat)) ∧ w' = w := by
  have c0 := hP.c0
  clear hP
  go_enter Try.func22, Try.ntmps22
  go_wp2
  go_ret
  exact ⟨rfl, rfl⟩
theorem alen0_in (g l n : Nat) (Z : Nat → Prop) (L : List En) (hn : n = L.length) (w : World) (hA : AgZ w Z g l L) : Calls Try.prog 22 #[.pointer (some ⟨g, 0, none⟩)] w fun e w' => e = .returned (.int .i64 (n : Nat)) ∧ w' = w := by
  obtain ⟨n', f, h, hc, _⟩ := hA
  have e : n = n' := by rw [hn, hc.len]
  rcases h with ⟨h, h0⟩ | ⟨q, cap, B, p, h, _⟩
  · rw [e, h0]; exact plenF_in g l Z w h
  · rw [e]; exact plen_in g l q cap B n' Z f p w h
theorem alen_in (g l n : Nat) (Z : Nat → Prop) (L : List En) (hn : n = L.length) (w : World) (hA : AgZ w Z g l L) : Calls Try.prog 11 #[.pointer (some ⟨g, 0, none⟩)] w fun e w' => e = .returned (.int .i64 (n : Nat)) ∧ w' = w := by
  have HA : Hid (n = L.length ∧ AgZ w Z g l L) := ⟨hn, hA⟩
  clear hn hA
  go_enter Try.func11, Try.ntmps11
  go_wp2_with fail
  refine (alen0_in g l n Z L HA.out.1 w HA.out.2).mono ?_
  rintro e w1 ⟨rfl, rfl⟩
  go_wp2_with fail
  go_ret
  exact ⟨rfl, rfl⟩
theorem isMoment_any (n : Int) (w : World) : Calls Try.prog 23 #[.int .i64 n] w fun e w' => e = .returned (.bool (decide (0 ≤ n ∧ n ≤ 1099511627776))) ∧ w' = w := by
  by_cases h1 : 0 ≤ n
  · by_cases h2 : n ≤ 1099511627776
    · rw [decide_eq_true (show 0 ≤ n ∧ n ≤ 1099511627776 from ⟨h1, h2⟩)]
      go_enter Try.func23, Try.ntmps23
      go_wp2
      go_ret
      exact ⟨rfl, rfl⟩
    · rw [decide_eq_false (show ¬ (0 ≤ n ∧ n ≤ 1099511627776) from fun c => h2 c.2)]
      go_enter Try.func23, Try.ntmps23
      go_wp2
      go_ret
      exact ⟨rfl, rfl⟩
  · rw [decide_eq_false (show ¬ (0 ≤ n ∧ n ≤ 1099511627776) from fun c => h1 c.1)]
    go_enter Try.func23, Try.ntmps23
    go_wp2
    go_ret
    exact ⟨rfl, rfl⟩
theorem isTicket_any (n : Int) (w : World) : Calls Try.prog 25 #[.int .i64 n] w fun e w' => e = .returned (.bool (decide (1 ≤ n))) ∧ w' = w := by
  by_cases h1 : 1 ≤ n
  · rw [decide_eq_true h1]
    go_enter Try.func25, Try.ntmps25
    go_wp2
    go_ret
    exact ⟨rfl, rfl⟩
  · rw [decide_eq_false h1]
    go_enter Try.func25, Try.ntmps25
    go_wp2
    go_ret
    exact ⟨rfl, rfl⟩
theorem aplaceF_in (g l t : Nat) (Z : Nat → Prop) (w : World) (hP : PileF w Z g l) (ht : t < 9223372036854775808) : Calls Try.prog 26 #[.pointer (some ⟨g, 0, none⟩), .int .i64 (t : Nat)] w fun e w' => e = .returned (.tuple #[.int .i64 ((0 : Nat) : Nat), .bool false]) ∧ w' = w := by
  have c1 := hP.c1
  have t1 : (t : Int) < 9223372036854775808 := by omega
  have hlk : ∀ w, (Instr.lookup 52 (.map none) (.int .i64 (t : Nat)) true).run Try.prog w = .ok (.tuple #[.int .i64 0, .bool false]) w := fun w => by kernel_rfl
  clear hP ht
  go_enter Try.func26, Try.ntmps26
  go_wp2
  go_ret2
  exact ⟨rfl, rfl⟩
theorem aplace_in (g l q cap B n t : Nat) (Z : Nat → Prop) (f : Nat → En) (p : Nat → Option Nat) (w : World) (hP : PileI w Z g l q cap B n f p) (ht : t < 9223372036854775808) : Calls Try.prog 26 #[.pointer (some ⟨g, 0, none⟩), .int .i64 (t : Nat)] w fun e w' => e = .returned (.tuple #[.int .i64 ((p t).getD 0 : Nat), .bool (p t).isSome]) ∧ w' = w := by
  have c1 := hP.c1
  have hlk := hP.mp.look ht
  generalize (p t).getD 0 = d at *
  generalize (p t).isSome = b at *
  clear hP ht
  go_enter Try.func26, Try.ntmps26
  go_wp2
  go_ret2
  exact ⟨rfl, rfl⟩
def enG (x : En) : Value := .agg #[.int .i64 (x.t : Nat), .int .i64 (x.m : Nat), .string x.s]
theorem afirst_nil (g l : Nat) (Z : Nat → Prop) (w : World) (hA : AgZ w Z g l []) : Calls Try.prog 10 #[.pointer (some ⟨g, 0, none⟩)] w fun e w' => e = .returned (.tuple #[enG zeroE, .bool false]) ∧ Below w.heap.size w w' := by
  have HA : Hid (AgZ w Z g l []) := hA
  clear hA
  go_enter Try.func10, Try.ntmps10
  go_wp2_with fail
  refine (alen_in g l 0 Z [] rfl _ (HA.out.call (below_alloc0 (Below.refl _ _) _))).mono ?_
  rintro e w1 ⟨rfl, rfl⟩
  go_wp2_with fail
  refine bodyPost_ret (v := .tuple #[enG zeroE, .bool false]) ?_ rfl ⟨rfl, below_alloc0 (Below.refl _ _) _⟩
  simp [results, Try.results10, go_sem, enG, zeroE]
set_option maxHeartbeats 1000000 in
theorem afirst_cons (g l : Nat) (Z : Nat → Prop) (x : En) (r : List En) (w : World) (hA : AgZ w Z g l (x :: r)) : Calls Try.prog 10 #[.pointer (some ⟨g, 0, none⟩)] w fun e w' => e = .returned (.tuple #[enG x, .bool true]) ∧ Below w.heap.size w w' := by
  have hx := (hA.mem x (List.mem_cons_self ..)).2.2
  have h5 := hA.len5
  obtain ⟨nn, hnn⟩ : ∃ nn, nn = (x :: r).length := ⟨_, rfl⟩
  have HA : Hid (AgZ w Z g l (x :: r) ∧ nn = (x :: r).length ∧ x.s.size ≤ 281474976710656) := ⟨hA, hnn, by omega⟩
  have n1 : ¬ ((nn : Int) = 0) := by rw [hnn, List.length_cons]; omega
  have n2 : (nn : Int) ≤ 512 := by omega
  obtain ⟨n, f, h, hc, hm⟩ := hA
  have hcl := hc.len
  have hP : PileH w Z g l n f := by
    rcases h with ⟨_, h0⟩ | h
    · rw [h0] at hcl; simp at hcl
    · exact h
  obtain ⟨q, cap, B, p, hP, hh⟩ := hP
  have hn0 : 0 < n := by rw [List.length_cons] at hcl; omega
  obtain ⟨r', hr'⟩ := hc.head hh hn0
  have hx0 : f 0 = x := by injection hr' with a _; exact a.symm
  have e1 : n = nn := by rw [hnn]; exact hcl.symm
  subst e1
  have c0 := hP.c0
  have a0 := hP.rw.c0 0 hn0
  have a1 := hP.rw.c1 0 hn0
  have a2 := hP.rw.c2 0 hn0
  rw [hx0] at a0 a1 a2
  have hl := hP.gl
  have hq := hP.rw.lt
  have i1 : (0 : Int) < (n : Nat) := by omega
  clear h hc hm hcl hP hh hr' hx0 hnn hx h5
  go_enter Try.func10, Try.ntmps10
  go_wp2_with fail
  refine (alen_in g l n Z (x :: r) HA.out.2.1 _ (HA.out.1.call (below_alloc0 (Below.refl _ _) _))).mono ?_
  rintro e w1 ⟨rfl, hw1⟩
  subst hw1
  go_wp2_with fail
  have hb1 : Below w.heap.size w ((w.alloc (.cells #[.int .i64 0, .int .i64 0, .string ⟨#[]⟩] 34)).alloc (.cells #[.int .i64 (x.t : Nat), .int .i64 (x.m : Nat), .string x.s] 34)) := below_alloc0 (below_alloc0 (Below.refl _ _) _) _
  have k1 : ∀ j : Nat, j < 3 → ((w.alloc (.cells #[.int .i64 0, .int .i64 0, .string ⟨#[]⟩] 34)).alloc (.cells #[.int .i64 (x.t : Nat), .int .i64 (x.m : Nat), .string x.s] 34)).cell? ⟨w.heap.size + 1, j, none⟩ = [Value.int .i64 (x.t : Nat), .int .i64 (x.m : Nat), .string x.s][j]? := fun j hj => by
    have : (w.alloc (.cells #[.int .i64 0, .int .i64 0, .string ⟨#[]⟩] 34)).heap.size = w.heap.size + 1 := by simp
    rw [← this, World.cell?_alloc_new, List.getElem?_toArray]
  have k0 : ∀ j : Nat, j < 3 → ((w.alloc (.cells #[.int .i64 0, .int .i64 0, .string ⟨#[]⟩] 34)).alloc (.cells #[.int .i64 (x.t : Nat), .int .i64 (x.m : Nat), .string x.s] 34)).cell? ⟨w.heap.size, j, none⟩ = [Value.int .i64 0, .int .i64 0, .string ⟨#[]⟩][j]? := fun j hj => by
    rw [(below_alloc0 (Below.refl (w.alloc (.cells #[.int .i64 0, .int .i64 0, .string ⟨#[]⟩] 34)).heap.size _) _).cell (p := ⟨w.heap.size, j, none⟩) (by simp), World.cell?_alloc_new, List.getElem?_toArray]
  have f1 : ∀ o, ((w.alloc (.cells #[.int .i64 0, .int .i64 0, .string ⟨#[]⟩] 34)).alloc (.cells #[.int .i64 (x.t : Nat), .int .i64 (x.m : Nat), .string x.s] 34)).frozen? ⟨w.heap.size + 1, o, none⟩ = false := fun o => by
    have : (w.alloc (.cells #[.int .i64 0, .int .i64 0, .string ⟨#[]⟩] 34)).heap.size = w.heap.size + 1 := by simp
    rw [← this]; exact World.frozen?_alloc_new _ _ _ _
  have f0 : ∀ o, ((w.alloc (.cells #[.int .i64 0, .int .i64 0, .string ⟨#[]⟩] 34)).alloc (.cells #[.int .i64 (x.t : Nat), .int .i64 (x.m : Nat), .string x.s] 34)).frozen? ⟨w.heap.size, o, none⟩ = false := fun o => by
    rw [(below_alloc0 (Below.refl (w.alloc (.cells #[.int .i64 0, .int .i64 0, .string ⟨#[]⟩] 34)).heap.size _) _).frozen (p := ⟨w.heap.size, o, none⟩) (by simp)]; exact World.frozen?_alloc_new _ _ _ _
  have hz : ((w.alloc (.cells #[.int .i64 0, .int .i64 0, .string ⟨#[]⟩] 34)).alloc (.cells #[.int .i64 (x.t : Nat), .int .i64 (x.m : Nat), .string x.s] 34)).heap.size = w.heap.size + 2 := by simp
  generalize (w.alloc (.cells #[.int .i64 0, .int .i64 0, .string ⟨#[]⟩] 34)).alloc (.cells #[.int .i64 (x.t : Nat), .int .i64 (x.m : Nat), .string x.s] 34) = W at *
  refine (clone_any x.s W HA.out.2.2).mono ?_
  rintro e w2 ⟨rfl, hb2⟩
  have d0 : w2.cell? ⟨w.heap.size + 1, 0, none⟩ = some (.int .i64 (x.t : Nat)) := (hb2.cell (p := ⟨w.heap.size + 1, 0, none⟩) (by rw [hz]; show w.heap.size + 1 < _; omega)).trans (k1 0 (by omega))
  have d1 : w2.cell? ⟨w.heap.size + 1, 1, none⟩ = some (.int .i64 (x.m : Nat)) := (hb2.cell (p := ⟨w.heap.size + 1, 1, none⟩) (by rw [hz]; show w.heap.size + 1 < _; omega)).trans (k1 1 (by omega))
  have d2 : w2.cell? ⟨w.heap.size + 1, 2, none⟩ = some (.string x.s) := (hb2.cell (p := ⟨w.heap.size + 1, 2, none⟩) (by rw [hz]; show w.heap.size + 1 < _; omega)).trans (k1 2 (by omega))
  have g0 : w2.cell? ⟨w.heap.size, 0, none⟩ = some (.int .i64 0) := (hb2.cell (p := ⟨w.heap.size, 0, none⟩) (by rw [hz]; show w.heap.size < _; omega)).trans (k0 0 (by omega))
  have g1 : w2.cell? ⟨w.heap.size, 1, none⟩ = some (.int .i64 0) := (hb2.cell (p := ⟨w.heap.size, 1, none⟩) (by rw [hz]; show w.heap.size < _; omega)).trans (k0 1 (by omega))
  have g2 : w2.cell? ⟨w.heap.size, 2, none⟩ = some (.string ⟨#[]⟩) := (hb2.cell (p := ⟨w.heap.size, 2, none⟩) (by rw [hz]; show w.heap.size < _; omega)).trans (k0 2 (by omega))
  have z1 : ∀ o, w2.frozen? ⟨w.heap.size + 1, o, none⟩ = false := fun o => (hb2.frozen (p := ⟨w.heap.size + 1, o, none⟩) (by rw [hz]; show w.heap.size + 1 < _; omega)).trans (f1 o)
  have z0 : ∀ o, w2.frozen? ⟨w.heap.size, o, none⟩ = false := fun o => (hb2.frozen (p := ⟨w.heap.size, o, none⟩) (by rw [hz]; show w.heap.size < _; omega)).trans (f0 o)
  have HB : Hid (Below w.heap.size w w2) := hb1.trans (hb2.mono (by rw [hz]; omega))
  obtain ⟨E, hE⟩ : ∃ E, E = w.heap.size := ⟨_, rfl⟩
  obtain ⟨F, hF⟩ : ∃ F, F = E + 1 := ⟨_, rfl⟩
  rw [← hE] at d0 d1 d2 g0 g1 g2 z1 z0 ⊢
  rw [← hF] at d0 d1 d2 z1 ⊢
  have n3 : E ≠ F := by omega
  have n4 : F ≠ E := by omega
  have HE : Hid (E = w.heap.size ∧ F = E + 1) := ⟨hE, hF⟩
  clear hb1 hb2 k0 k1 f0 f1 hz hE hF c0 a0 a1 a2
  go_wp2_with fail
  refine bodyPost_ret (v := .tuple #[enG x, .bool true]) ?_ rfl ⟨rfl, ?_⟩
  · simp [results, Try.results10, go_sem, enG, *]
  · have e := HE.out
    have hB : Below E w w2 := by rw [e.1]; exact HB.out
    rw [← e.1]
    exact (((hB.setCell (p := ⟨F, _, none⟩) (by show E ≤ F; omega) _).setCell (p := ⟨E, _, none⟩) (Nat.le_refl _) _).setCell (p := ⟨E, _, none⟩) (Nat.le_refl _) _).setCell (p := ⟨E, _, none⟩) (Nat.le_refl _) _
end Go.Proofs.Ytkgfeiigdhbddaa
