/- Package agenda: Put. -/
import Derived.Test.YtkgfeiigdhbddaaAgG1
import Derived.Deep.RegionWith
namespace Go.Proofs.Ytkgfeiigdhbddaa
open Go Go.RowKit Go.Lib
theorem agpush_in (g l : Nat) (Z : Nat → Prop) (L : List En) (x : En) (w : World) (hZ : ∀ k, w.heap.size ≤ k → Z k) (hA : AgZ w Z g l L) (hn : L.length < 512) (h1 : 1 ≤ x.t) (hl : x.t ≤ l) (ht : x.t < 4611686018427387904) (hm : x.m ≤ 1099511627776) (hs : x.s.size ≤ 140737488351233) (hx : ∀ e ∈ L, e.t ≠ x.t) :
    Calls Try.prog 24 #[pif g, enA x] w fun e w' => e = .returned (.tuple #[]) ∧ AgZ w' Z g l (insE x L) ∧ Off Z w w' := by
  obtain ⟨n, f, h, hc, hmm⟩ := hA
  have hcl := hc.len
  have hx' : ∀ k, k < n → (f k).t ≠ x.t := fun k hk => hx _ (hc.at hk)
  have hfin : ∀ e ∈ insE x L, 1 ≤ e.t ∧ e.t ≤ l ∧ e.s.size ≤ 140737488351233 := fun e he => by
    rcases (mem_insE x L e).1 he with rfl | he
    · exact ⟨h1, hl, hs⟩
    · exact hmm e he
  have hp : Calls Try.prog 55 #[.pointer (some ⟨g, 0, none⟩), enA x] w fun e w' => e = .returned (.tuple #[]) ∧ (∃ q cap B p', PileI w' Z g l q cap B (n + 1) (putF f n x) p') ∧ Off Z w w' := by
    rcases h with ⟨h, h0⟩ | ⟨q, cap, B, p, h, hh⟩
    · exact ppush_new g l n h0 Z f x w hZ h ht hm
    · exact ppush_in g l q cap B n Z f p x w hZ h (by omega) ht hm hx'
  have hh : Hp f n := by
    rcases h with ⟨h, h0⟩ | ⟨q, cap, B, p, h, hh⟩
    · intro k h1 h2; omega
    · exact hh
  refine (hpush_in g l n Z f x w hZ hh (by omega) hp).mono ?_
  rintro e w' ⟨he, ⟨f', hP', hM'⟩, hO⟩
  exact ⟨he, ⟨n + 1, f', .inr hP', (hc.push hx).pm hM', hfin⟩, hO⟩
theorem AgZ.last {w : World} {Z : Nat → Prop} {g l l' : Nat} {L : List En} (h : AgZ w Z g l L) (hl : l ≤ l') : AgZ (w.setCell ⟨g, 2, none⟩ (.int .i64 (l' : Nat))) Z g l' L := by
  obtain ⟨n, f, h, hc, hm⟩ := h
  refine ⟨n, f, ?_, hc, fun e he => ⟨(hm e he).1, Nat.le_trans (hm e he).2.1 hl, (hm e he).2.2⟩⟩
  have ec : ∀ o, o ≠ 2 → (w.setCell ⟨g, 2, none⟩ (.int .i64 (l' : Nat))).cell? ⟨g, o, none⟩ = w.cell? ⟨g, o, none⟩ := fun o ho => World.cell?_setCell_other _ _ _ _ (by intro c; injection c with _ c _; exact ho c.symm)
  rcases h with ⟨h, h0⟩ | ⟨q, cap, B, p, h, hh⟩
  · exact .inl ⟨⟨h.zg, by rw [World.size_setCell]; exact h.gl, (ec 0 (by decide)).trans h.c0, (ec 1 (by decide)).trans h.c1, fun o => by rw [World.frozen?_setCell]; exact h.fg o, World.cell?_setCell_same _ _ _ h.c2⟩, h0⟩
  · exact .inr ⟨q, cap, B, p, ⟨h.zg, h.zq, h.zB, h.gq, h.gB, h.qB, by rw [World.size_setCell]; exact h.gl, (ec 0 (by decide)).trans h.c0, (ec 1 (by decide)).trans h.c1, fun o => by rw [World.frozen?_setCell]; exact h.fg o, h.rw.block (by rw [World.size_setCell]; exact Nat.le_refl _) (Below.heap_setCell _ _ _ _ h.gq.symm), h.mp.block (Below.heap_setCell _ _ _ _ h.gB.symm), h.pl, h.nb, h.tb, h.mb, World.cell?_setCell_same _ _ _ h.c2⟩, hh⟩
theorem AgZ.fg2 {w : World} {Z : Nat → Prop} {g l : Nat} {L : List En} (h : AgZ w Z g l L) (o : Nat) : w.frozen? ⟨g, o, none⟩ = false := by
  obtain ⟨n, f, ⟨h, _⟩ | ⟨q, cap, B, p, h, _⟩, _⟩ := h
  · exact h.fg o
  · exact h.fg o
theorem aput_arg (v : Option Addr) (at' : Int) (s : ByteArray) (h : ¬ (0 ≤ at' ∧ at' ≤ 1099511627776)) (w : World) : Calls Try.prog 12 #[.pointer v, .int .i64 at', .string s] w fun e w' => e = .returned (.tuple #[.int .i64 0, .int .i64 1]) ∧ w' = w := by
  have HD : Hid (decide (0 ≤ at' ∧ at' ≤ 1099511627776) = false) := decide_eq_false h
  clear h
  go_enter Try.func12, Try.ntmps12
  go_wp2_with fail
  refine (isMoment_any _ _).mono ?_
  rintro e w1 ⟨rfl, rfl⟩
  rw [HD.out]
  go_wp2_with fail
  go_ret2
  exact ⟨rfl, rfl⟩
theorem aput_full (g l m : Nat) (Z : Nat → Prop) (L : List En) (s : ByteArray) (hm : m ≤ 1099511627776) (w : World) (hA : AgZ w Z g l L) (h : 512 ≤ L.length) : Calls Try.prog 12 #[.pointer (some ⟨g, 0, none⟩), .int .i64 (m : Nat), .string s] w fun e w' => e = .returned (.tuple #[.int .i64 0, .int .i64 5]) ∧ w' = w := by
  have HD : Hid (decide (0 ≤ (m : Int) ∧ (m : Int) ≤ 1099511627776) = true) := decide_eq_true ⟨by omega, by omega⟩
  obtain ⟨n, hn⟩ : ∃ n, n = L.length := ⟨_, rfl⟩
  have HA : Hid (AgZ w Z g l L ∧ n = L.length) := ⟨hA, hn⟩
  have i1 : (512 : Int) ≤ (n : Nat) := by omega
  clear hm hA h hn
  go_enter Try.func12, Try.ntmps12
  go_wp2_with fail
  refine (isMoment_any _ _).mono ?_
  rintro e w1 ⟨rfl, rfl⟩
  rw [HD.out]
  go_wp2_with fail
  refine (alen0_in g l n Z L HA.out.2 w1 HA.out.1).mono ?_
  rintro e w2 ⟨rfl, rfl⟩
  go_wp2_with fail
  go_ret2
  exact ⟨rfl, rfl⟩
set_option maxRecDepth 100000 in
set_option maxHeartbeats 2000000 in
theorem aput_ok (g l l1 m : Nat) (hl1 : l1 = l + 1) (Z : Nat → Prop) (L : List En) (s : ByteArray) (hm : m ≤ 1099511627776) (w : World) (hZ : ∀ k, w.heap.size ≤ k → Z k) (hA : AgZ w Z g l L) (h : L.length < 512) (hl : l < 1000000000) (hs : s.size ≤ 140737488351233) : Calls Try.prog 12 #[.pointer (some ⟨g, 0, none⟩), .int .i64 (m : Nat), .string s] w fun e w' => e = .returned (.tuple #[.int .i64 (l1 : Nat), .int .i64 0]) ∧ AgZ w' Z g l1 (insE ⟨l1, m, s⟩ L) ∧ Off Z w w' := by
  have HD : Hid (decide (0 ≤ (m : Int) ∧ (m : Int) ≤ 1099511627776) = true) := decide_eq_true ⟨by omega, by omega⟩
  obtain ⟨n, hn⟩ : ∃ n, n = L.length := ⟨_, rfl⟩
  have HA : Hid (AgZ w Z g l L ∧ n = L.length ∧ (∀ k, w.heap.size ≤ k → Z k) ∧ l1 = l + 1 ∧ l < 1000000000 ∧ s.size ≤ 140737488351233 ∧ m ≤ 1099511627776 ∧ L.length < 512) := ⟨hA, hn, hZ, hl1, hl, hs, hm, h⟩
  have i1 : ¬ ((512 : Int) ≤ (n : Nat)) := by omega
  have c2 := hA.zg.2.2
  have f2 := hA.fg2 2
  have i2 : (l : Int) + 1 = (l1 : Int) := by omega
  have i3 : (l1 : Int) ≤ 2000000000 := by omega
  clear hm hA h hn hZ hl1 hl hs
  go_enter Try.func12, Try.ntmps12
  go_wp2_with fail
  refine (isMoment_any _ _).mono ?_
  rintro e w1 ⟨rfl, rfl⟩
  rw [HD.out]
  go_wp2_with fail
  refine (alen0_in g l n Z L HA.out.2.1 w1 HA.out.1).mono ?_
  rintro e w2 ⟨rfl, rfl⟩
  go_wp2_with fail
  have HV : Hid (AgZ (w2.setCell ⟨g, 2, none⟩ (.int .i64 (l1 : Nat))) Z g l1 L ∧ Off Z w2 (w2.setCell ⟨g, 2, none⟩ (.int .i64 (l1 : Nat)))) := ⟨HA.out.1.last (by have := HA.out.2.2.2.1; omega), ⟨rfl, rfl, rfl, by rw [World.size_setCell]; exact Nat.le_refl _, fun b hb => Below.heap_setCell _ _ _ _ (fun (c : b = g) => hb (by rw [c]; exact HA.out.1.zg.1))⟩⟩
  generalize w2.setCell ⟨g, 2, none⟩ (.int .i64 (l1 : Nat)) = V at *
  have v2 : V.cell? ⟨g, 2, none⟩ = some (.int .i64 (l1 : Nat)) := HV.out.1.zg.2.2
  clear c2 f2
  go_region_with (first
    | (go_at_call 21; refine (clone_any s _ (by have := HA.out.2.2.2.2.2.1; omega)).mono ?_; rintro e w4 ⟨rfl, hb4'⟩; have hb4 : Below V.heap.size V w4 := ⟨hb4'.os, hb4'.tape, hb4'.output, hb4'.size, hb4'.block⟩; clear hb4'; have v4 : w4.cell? ⟨g, 2, none⟩ = some (.int .i64 (l1 : Nat)) := (hb4.cell (p := ⟨g, 2, none⟩) HV.out.1.zg.2.1).trans v2; have H4 : Hid (AgZ w4 Z g l1 L ∧ Off Z w2 w4) := ⟨HV.out.1.call hb4, HV.out.2.trans (Off.of_below hb4 (off_new HV.out.2 HA.out.2.2.1))⟩; clear hb4)
    | (go_at_call 24; refine (agpush_in g l1 Z L ⟨l1, m, s⟩ _ (off_new H4.out.2 HA.out.2.2.1) H4.out.1 HA.out.2.2.2.2.2.2.2 (by have := HA.out; show 1 ≤ l1; omega) (Nat.le_refl _) (by have := HA.out; show l1 < _; omega) HA.out.2.2.2.2.2.2.1 HA.out.2.2.2.2.2.1 (fun e he => by have := (HA.out.1.mem e he).2.1; have := HA.out.2.2.2.1; show e.t ≠ l1; omega)).mono ?_; rintro e w5 ⟨rfl, hA5, hO5⟩; have v5 : w5.cell? ⟨g, 2, none⟩ = some (.int .i64 (l1 : Nat)) := hA5.zg.2.2; have H5 : Hid (AgZ w5 Z g l1 (insE ⟨l1, m, s⟩ L) ∧ Off Z w2 w5) := ⟨hA5, H4.out.2.trans hO5⟩; clear hA5 hO5))
  all_goals
    go_wp2_with fail
    go_ret2
    exact ⟨rfl, H5.out⟩
end Go.Proofs.Ytkgfeiigdhbddaa
