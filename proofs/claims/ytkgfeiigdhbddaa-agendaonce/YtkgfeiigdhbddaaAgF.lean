/- Package agenda: container/heap's Push, Pop, Remove, Fix over a pile. -/
import Derived.Test.YtkgfeiigdhbddaaAgC
import Derived.Test.YtkgfeiigdhbddaaAgE2
namespace Go.Proofs.Ytkgfeiigdhbddaa
open Go Go.RowKit Go.Lib
/-- A pile with a heap of n entries. -/
def PileH (w : World) (Z : Nat → Prop) (g l n : Nat) (f : Nat → En) : Prop := ∃ q cap B p, PileI w Z g l q cap B n f p ∧ Hp f n
set_option maxHeartbeats 1000000 in
theorem hpush_end (g l q cap B n : Nat) (Z : Nat → Prop) (f : Nat → En) (p : Nat → Option Nat) (x : En) (w : World) (hZ : ∀ k, w.heap.size ≤ k → Z k) (hP : PileI w Z g l q cap B (n + 1) (putF f n x) p) (hh : Hp f n) : Calls Try.prog 34 #[pif g, .int .i64 (n : Nat)] w fun e w' => e = .returned (.tuple #[]) ∧ (∃ f', PileH w' Z g l (n + 1) f' ∧ Pm (n + 1) (putF f n x) f') ∧ Off Z w w' := by
  refine (hup_in g l q cap B (n + 1) (n + 1) n Z (putF f n x) p w hZ hP (Nat.le_refl _) (Nat.lt_succ_self _) (hh.upi x)).mono ?_
  rintro e w' ⟨h1, ⟨f', p', h2, h3, h4⟩, h5⟩
  exact ⟨h1, ⟨f', ⟨q, cap, B, p', h2, h3⟩, h4⟩, h5⟩
set_option maxHeartbeats 1000000 in
theorem hpush_in (g l n : Nat) (Z : Nat → Prop) (f : Nat → En) (x : En) (w : World) (hZ : ∀ k, w.heap.size ≤ k → Z k) (hh : Hp f n) (hn : n < 512)
    (hpush : Calls Try.prog 55 #[.pointer (some ⟨g, 0, none⟩), enA x] w fun e w' => e = .returned (.tuple #[]) ∧ (∃ q cap B p', PileI w' Z g l q cap B (n + 1) (putF f n x) p') ∧ Off Z w w') :
    Calls Try.prog 24 #[pif g, enA x] w fun e w' => e = .returned (.tuple #[]) ∧ (∃ f', PileH w' Z g l (n + 1) f' ∧ Pm (n + 1) (putF f n x) f') ∧ Off Z w w' := by
  have HH : Hid (Hp f n ∧ ∀ k, w.heap.size ≤ k → Z k) := ⟨hh, hZ⟩
  have HC : Hid (Calls Try.prog 55 #[.pointer (some ⟨g, 0, none⟩), enA x] w fun e w' => e = .returned (.tuple #[]) ∧ (∃ q cap B p', PileI w' Z g l q cap B (n + 1) (putF f n x) p') ∧ Off Z w w') := hpush
  have hml := meth_push g
  have hmn := meth_len g
  obtain ⟨n1, hn1⟩ : ∃ n1, n1 = n + 1 := ⟨_, rfl⟩
  have i1 : (n1 : Int) - 1 = (n : Int) := by omega
  have i2 : (n1 : Int) ≤ 512 := by omega
  have HN : Hid (n1 = n + 1) := hn1
  clear hh hZ hpush hn hn1
  go_enter Try.func24, Try.ntmps24
  go_wp2_with fail
  refine HC.out.mono ?_
  rintro e w1 ⟨rfl, ⟨q, cap, B, p1, hP1⟩, hO1⟩
  have H1 : Hid (PileI w1 Z g l q cap B (n + 1) (putF f n x) p1 ∧ Off Z w w1) := ⟨hP1, hO1⟩
  clear hP1 hO1
  go_wp2_with fail
  refine (plen_in g l q cap B n1 Z (putF f n x) p1 w1 (by rw [HN.out]; exact H1.out.1)).mono ?_
  rintro e w2 ⟨rfl, rfl⟩
  go_wp2_with fail
  refine (hpush_end g l q cap B n Z f p1 x w2 (off_new H1.out.2 HH.out.2) H1.out.1 HH.out.1).mono ?_
  rintro e w3 ⟨rfl, h3, hO3⟩
  have H3 : Hid ((∃ f', PileH w3 Z g l (n + 1) f' ∧ Pm (n + 1) (putF f n x) f') ∧ Off Z w w3) := ⟨h3, H1.out.2.trans hO3⟩
  clear h3 hO3
  go_wp2_with fail
  go_end0
  exact ⟨rfl, H3.out⟩
/-- What taking the entry at i away answers: that entry, and the rest is a heap. -/
def RmP (g l n i : Nat) (Z : Nat → Prop) (f : Nat → En) (w : World) (e : Ending) (w' : World) : Prop := e = .returned (enA (f i)) ∧ (∃ f', PileH w' Z g l n f' ∧ Pm n (swF f i n) f') ∧ Off Z w w'
theorem RmP.mk {g l n i : Nat} {Z : Nat → Prop} {f : Nat → En} {w : World} {e : Ending} {w' : World} (h : e = .returned (enA (f i)) ∧ (∃ f', PileH w' Z g l n f' ∧ Pm n (swF f i n) f') ∧ Off Z w w') : RmP g l n i Z f w e w' := h
set_option maxHeartbeats 1000000 in
theorem hpop_in (g l n N : Nat) (hN : N = n + 1) (Z : Nat → Prop) (f : Nat → En) (w : World) (hZ : ∀ k, w.heap.size ≤ k → Z k) (hP : PileH w Z g l N f) : Calls Try.prog 29 #[pif g] w fun e w' => RmP g l n 0 Z f w e w' := by
  obtain ⟨q, cap, B, p, hP, hh⟩ := hP
  have HP : Hid (PileI w Z g l q cap B N f p ∧ Hp f N ∧ (∀ k, w.heap.size ≤ k → Z k) ∧ N = n + 1) := ⟨hP, hh, hZ, hN⟩
  have hmn := meth_len g
  have hms := meth_swap g
  have hmp := meth_pop g
  have i1 : (N : Int) - 1 = (n : Int) := by omega
  have i2 : (N : Int) ≤ 512 := by have := hP.nb; omega
  clear hP hh hZ hN
  go_enter Try.func29, Try.ntmps29
  go_wp2_with fail
  refine (plen_in g l q cap B N Z f p w HP.out.1).mono ?_
  rintro e w1 ⟨rfl, rfl⟩
  go_wp2_with fail
  refine (pswap_in g l q cap B N 0 n Z f p w1 HP.out.1 (by have := HP.out.2.2.2; omega) (by have := HP.out.2.2.2; omega)).mono ?_
  rintro e w2 ⟨rfl, ⟨p2, hP2⟩, hO2⟩
  have H2 : Hid (PileI w2 Z g l q cap B N (swF f 0 n) p2 ∧ Off Z w1 w2) := ⟨hP2, hO2⟩
  clear hP2 hO2
  go_wp2_with fail
  refine (hdown_in g l q cap B N n 0 Z (swF f 0 n) p2 w2 (off_new H2.out.2 HP.out.2.2.1) H2.out.1 (by have := HP.out.2.2.2; omega) (by have := HP.out.2.2.2; omega) (by have h := HP.out.2.1; rw [HP.out.2.2.2] at h; exact h.du_sw (Nat.zero_le _))).mono ?_
  rintro e w3 ⟨b, f3, p3, rfl, hP3, hM3, hb, hO3⟩
  have H3 : Hid (PileI w3 Z g l q cap B N f3 p3 ∧ Pm n (swF f 0 n) f3 ∧ Hp f3 n ∧ Off Z w1 w3) := ⟨hP3, hM3, by
    cases b with
    | true => exact hb.1 rfl
    | false => exact up_zero (hb.2 rfl), H2.out.2.trans hO3⟩
  clear hP3 hM3 hb hO3
  go_wp2_with fail
  refine (ppop_in g l q cap B n N HP.out.2.2.2 Z f3 p3 w3 (off_new H3.out.2.2.2 HP.out.2.2.1) H3.out.1).mono ?_
  rintro e w4 ⟨rfl, ⟨p4, hP4⟩, hO4⟩
  have H4 : Hid (PileI w4 Z g l q cap B n f3 p4 ∧ Off Z w1 w4) := ⟨hP4, H3.out.2.2.2.trans hO4⟩
  clear hP4 hO4
  have hv : f3 n = f 0 := (H3.out.2.1.2 n (Nat.le_refl _)).trans (swF_r _ _ _)
  have HV : Hid (f3 n = f 0) := hv
  clear hv
  go_wp2_with fail
  go_ret
  exact RmP.mk ⟨by rw [← HV.out]; rfl, ⟨f3, ⟨q, cap, B, p4, H4.out.1, H3.out.2.2.1⟩, H3.out.2.1⟩, H4.out.2⟩
set_option maxHeartbeats 2000000 in
theorem hremove_in (g l n N i : Nat) (hN : N = n + 1) (hi : i ≤ n) (Z : Nat → Prop) (f : Nat → En) (w : World) (hZ : ∀ k, w.heap.size ≤ k → Z k) (hP : PileH w Z g l N f) : Calls Try.prog 27 #[pif g, .int .i64 (i : Nat)] w fun e w' => RmP g l n i Z f w e w' := by
  obtain ⟨q, cap, B, p, hP, hh⟩ := hP
  have HP : Hid (PileI w Z g l q cap B N f p ∧ Hp f N ∧ (∀ k, w.heap.size ≤ k → Z k) ∧ N = n + 1 ∧ i ≤ n) := ⟨hP, hh, hZ, hN, hi⟩
  have hmn := meth_len g
  have hms := meth_swap g
  have hmp := meth_pop g
  have i1 : (N : Int) - 1 = (n : Int) := by omega
  have i2 : (N : Int) ≤ 512 := by have := hP.nb; omega
  clear hP hh hZ
  by_cases hin : i = n
  · subst hin
    clear hi hN
    go_enter Try.func27, Try.ntmps27
    go_wp2_with fail
    refine (plen_in g l q cap B N Z f p w HP.out.1).mono ?_
    rintro e w1 ⟨rfl, rfl⟩
    go_wp2_with fail
    refine (ppop_in g l q cap B i N HP.out.2.2.2.1 Z f p w1 HP.out.2.2.1 HP.out.1).mono ?_
    rintro e w4 ⟨rfl, ⟨p4, hP4⟩, hO4⟩
    have H4 : Hid (PileI w4 Z g l q cap B i f p4 ∧ Off Z w1 w4) := ⟨hP4, hO4⟩
    clear hP4 hO4
    go_wp2_with fail
    go_ret
    exact RmP.mk ⟨rfl, ⟨f, ⟨q, cap, B, p4, H4.out.1, HP.out.2.1.less (by have := HP.out.2.2.2.1; omega)⟩, by rw [show swF f i i = f from by funext k; unfold swF; by_cases c : k = i <;> simp [c]]; exact Pm.refl _ _⟩, H4.out.2⟩
  · have hne : ¬ ((n : Int) = (i : Int)) := by omega
    have HI : Hid (i < n) := by exact (by omega : i < n)
    clear hi hN hin
    go_enter Try.func27, Try.ntmps27
    go_wp2_with fail
    refine (plen_in g l q cap B N Z f p w HP.out.1).mono ?_
    rintro e w1 ⟨rfl, rfl⟩
    go_wp2_with fail
    refine (pswap_in g l q cap B N i n Z f p w1 HP.out.1 (by have := HP.out.2.2.2; omega) (by have := HP.out.2.2.2; omega)).mono ?_
    rintro e w2 ⟨rfl, ⟨p2, hP2⟩, hO2⟩
    have H2 : Hid (PileI w2 Z g l q cap B N (swF f i n) p2 ∧ Off Z w1 w2) := ⟨hP2, hO2⟩
    clear hP2 hO2
    go_wp2_with fail
    refine (hdown_in g l q cap B N n i Z (swF f i n) p2 w2 (off_new H2.out.2 HP.out.2.2.1) H2.out.1 (by have := HP.out.2.2.2; omega) (by have := HP.out.2.2.2; omega) (by have h := HP.out.2.1; rw [HP.out.2.2.2.1] at h; exact h.du_sw HP.out.2.2.2.2)).mono ?_
    rintro e w3 ⟨b, f3, p3, rfl, hP3, hM3, hb, hO3⟩
    cases b with
    | true =>
      have H3 : Hid (PileI w3 Z g l q cap B N f3 p3 ∧ Pm n (swF f i n) f3 ∧ Hp f3 n ∧ Off Z w1 w3) := ⟨hP3, hM3, hb.1 rfl, H2.out.2.trans hO3⟩
      clear hP3 hM3 hb hO3
      go_wp2_with fail
      refine (ppop_in g l q cap B n N HP.out.2.2.2.1 Z f3 p3 w3 (off_new H3.out.2.2.2 HP.out.2.2.1) H3.out.1).mono ?_
      rintro e w4 ⟨rfl, ⟨p4, hP4⟩, hO4⟩
      have H4 : Hid (PileI w4 Z g l q cap B n f3 p4 ∧ Off Z w1 w4) := ⟨hP4, H3.out.2.2.2.trans hO4⟩
      clear hP4 hO4
      have hv : f3 n = f i := (H3.out.2.1.2 n (Nat.le_refl _)).trans (swF_r _ _ _)
      have HV : Hid (f3 n = f i) := hv
      clear hv
      go_wp2_with fail
      go_ret
      exact RmP.mk ⟨by rw [← HV.out]; rfl, ⟨f3, ⟨q, cap, B, p4, H4.out.1, H3.out.2.2.1⟩, H3.out.2.1⟩, H4.out.2⟩
    | false =>
      have H5 : Hid (PileI w3 Z g l q cap B N f3 p3 ∧ Pm n (swF f i n) f3 ∧ UpI f3 n i ∧ Off Z w1 w3) := ⟨hP3, hM3, hb.2 rfl, H2.out.2.trans hO3⟩
      clear hP3 hM3 hb hO3
      go_wp2_with fail
      refine (hup_in g l q cap B N n i Z f3 p3 w3 (off_new H5.out.2.2.2 HP.out.2.2.1) H5.out.1 (by have := HP.out.2.2.2; omega) HI.out H5.out.2.2.1).mono ?_
      rintro e w6 ⟨rfl, ⟨f6, p6, hP6, hh6, hM6⟩, hO6⟩
      have H3 : Hid (PileI w6 Z g l q cap B N f6 p6 ∧ Pm n (swF f i n) f6 ∧ Hp f6 n ∧ Off Z w1 w6) := ⟨hP6, H5.out.2.1.trans hM6, hh6, H5.out.2.2.2.trans hO6⟩
      clear hP6 hh6 hM6 hO6
      go_wp2_with fail
      refine (ppop_in g l q cap B n N HP.out.2.2.2.1 Z f6 p6 w6 (off_new H3.out.2.2.2 HP.out.2.2.1) H3.out.1).mono ?_
      rintro e w4 ⟨rfl, ⟨p4, hP4⟩, hO4⟩
      have H4 : Hid (PileI w4 Z g l q cap B n f6 p4 ∧ Off Z w1 w4) := ⟨hP4, H3.out.2.2.2.trans hO4⟩
      clear hP4 hO4
      have hv : f6 n = f i := (H3.out.2.1.2 n (Nat.le_refl _)).trans (swF_r _ _ _)
      have HV : Hid (f6 n = f i) := hv
      clear hv
      go_wp2_with fail
      go_ret
      exact RmP.mk ⟨by rw [← HV.out]; rfl, ⟨f6, ⟨q, cap, B, p4, H4.out.1, H3.out.2.2.1⟩, H3.out.2.1⟩, H4.out.2⟩
set_option maxHeartbeats 2000000 in
theorem hfix_in (g l q cap B N i : Nat) (Z : Nat → Prop) (f : Nat → En) (p : Nat → Option Nat) (w : World) (hZ : ∀ k, w.heap.size ≤ k → Z k) (hP : PileI w Z g l q cap B N f p) (hi : i < N) (hd : DU f N i) : Calls Try.prog 28 #[pif g, .int .i64 (i : Nat)] w fun e w' => e = .returned (.tuple #[]) ∧ (∃ f', PileH w' Z g l N f' ∧ Pm N f f') ∧ Off Z w w' := by
  have HP : Hid (PileI w Z g l q cap B N f p ∧ DU f N i ∧ (∀ k, w.heap.size ≤ k → Z k) ∧ i < N) := ⟨hP, hd, hZ, hi⟩
  have hmn := meth_len g
  clear hP hd hZ hi
  go_enter Try.func28, Try.ntmps28
  go_wp2_with fail
  refine (plen_in g l q cap B N Z f p w HP.out.1).mono ?_
  rintro e w1 ⟨rfl, rfl⟩
  go_wp2_with fail
  refine (hdown_in g l q cap B N N i Z f p w1 HP.out.2.2.1 HP.out.1 (Nat.le_refl _) HP.out.2.2.2 HP.out.2.1).mono ?_
  rintro e w3 ⟨b, f3, p3, rfl, hP3, hM3, hb, hO3⟩
  cases b with
  | true =>
    have H3 : Hid (PileI w3 Z g l q cap B N f3 p3 ∧ Pm N f f3 ∧ Hp f3 N ∧ Off Z w1 w3) := ⟨hP3, hM3, hb.1 rfl, hO3⟩
    clear hP3 hM3 hb hO3
    go_wp2_with fail
    go_end0
    exact ⟨rfl, ⟨f3, ⟨q, cap, B, p3, H3.out.1, H3.out.2.2.1⟩, H3.out.2.1⟩, H3.out.2.2.2⟩
  | false =>
    have H5 : Hid (PileI w3 Z g l q cap B N f3 p3 ∧ Pm N f f3 ∧ UpI f3 N i ∧ Off Z w1 w3) := ⟨hP3, hM3, hb.2 rfl, hO3⟩
    clear hP3 hM3 hb hO3
    go_wp2_with fail
    refine (hup_in g l q cap B N N i Z f3 p3 w3 (off_new H5.out.2.2.2 HP.out.2.2.1) H5.out.1 (Nat.le_refl _) HP.out.2.2.2 H5.out.2.2.1).mono ?_
    rintro e w6 ⟨rfl, ⟨f6, p6, hP6, hh6, hM6⟩, hO6⟩
    have H3 : Hid (PileI w6 Z g l q cap B N f6 p6 ∧ Pm N f f6 ∧ Hp f6 N ∧ Off Z w1 w6) := ⟨hP6, H5.out.2.1.trans hM6, hh6, H5.out.2.2.2.trans hO6⟩
    clear hP6 hh6 hM6 hO6
    go_wp2_with fail
    go_end0
    exact ⟨rfl, ⟨f6, ⟨q, cap, B, p6, H3.out.1, H3.out.2.2.1⟩, H3.out.2.1⟩, H3.out.2.2.2⟩
end Go.Proofs.Ytkgfeiigdhbddaa
