/- Package agenda: Drop, Move. -/
import Derived.Test.YtkgfeiigdhbddaaAgG1
namespace Go.Proofs.Ytkgfeiigdhbddaa
open Go Go.RowKit Go.Lib
theorem AgZ.find {w : World} {Z : Nat → Prop} {g l : Nat} {L : List En} {e0 : En} (h : AgZ w Z g l L) (he : e0 ∈ L) : ∃ n f q cap B p i, PileI w Z g l q cap B (n + 1) f p ∧ Hp f (n + 1) ∧ Cont L f (n + 1) ∧ i ≤ n ∧ f i = e0 ∧ p e0.t = some i := by
  obtain ⟨n, f, h, hc, hm⟩ := h
  obtain ⟨i, hi, hfi⟩ := (hc.mem e0).1 he
  rcases h with ⟨h, h0⟩ | ⟨q, cap, B, p, h, hh⟩
  · omega
  · obtain ⟨n', rfl⟩ : ∃ n', n = n' + 1 := ⟨n - 1, by omega⟩
    exact ⟨n', f, q, cap, B, p, i, h, hh, hc, by omega, hfi, (h.pl _ _).2 ⟨hi, by rw [hfi]⟩⟩
theorem agplace_no (g l t : Nat) (Z : Nat → Prop) (L : List En) (w : World) (hA : AgZ w Z g l L) (ht : t < 9223372036854775808) (hx : ∀ e ∈ L, e.t ≠ t) : Calls Try.prog 26 #[.pointer (some ⟨g, 0, none⟩), .int .i64 (t : Nat)] w fun e w' => e = .returned (.tuple #[.int .i64 ((0 : Nat) : Nat), .bool false]) ∧ w' = w := by
  obtain ⟨n, f, h, hc, hm⟩ := hA
  rcases h with ⟨h, h0⟩ | ⟨q, cap, B, p, h, hh⟩
  · exact aplaceF_in g l t Z w h ht
  · have hp : p t = none := by
      cases e : p t with
      | none => rfl
      | some k => have := (h.pl _ _).1 e; exact absurd this.2 (hx _ (hc.at this.1))
    have := aplace_in g l q cap B n t Z f p w h ht
    rw [hp] at this
    exact this
theorem adrop_arg (v : Option Addr) (t : Int) (h : ¬ 1 ≤ t) (w : World) : Calls Try.prog 13 #[.pointer v, .int .i64 t] w fun e w' => e = .returned (.tuple #[.bool false, .int .i64 1]) ∧ w' = w := by
  have HD : Hid (decide (1 ≤ t) = false) := decide_eq_false h
  clear h
  go_enter Try.func13, Try.ntmps13
  go_wp2_with fail
  refine (isTicket_any _ _).mono ?_
  rintro e w1 ⟨rfl, rfl⟩
  rw [HD.out]
  go_wp2_with fail
  go_ret2
  exact ⟨rfl, rfl⟩
theorem adrop_no (g l t : Nat) (Z : Nat → Prop) (L : List En) (w : World) (hA : AgZ w Z g l L) (h1 : 1 ≤ t) (ht : t < 9223372036854775808) (hx : ∀ e ∈ L, e.t ≠ t) : Calls Try.prog 13 #[.pointer (some ⟨g, 0, none⟩), .int .i64 (t : Nat)] w fun e w' => e = .returned (.tuple #[.bool false, .int .i64 0]) ∧ w' = w := by
  have HD : Hid (decide (1 ≤ (t : Int)) = true) := decide_eq_true (by omega)
  have HA : Hid (AgZ w Z g l L ∧ t < 9223372036854775808 ∧ ∀ e ∈ L, e.t ≠ t) := ⟨hA, ht, hx⟩
  clear hA h1 ht hx
  go_enter Try.func13, Try.ntmps13
  go_wp2_with fail
  refine (isTicket_any _ _).mono ?_
  rintro e w1 ⟨rfl, rfl⟩
  rw [HD.out]
  go_wp2_with fail
  refine (agplace_no g l t Z L w1 HA.out.1 HA.out.2.1 HA.out.2.2).mono ?_
  rintro e w2 ⟨rfl, rfl⟩
  go_wp2_with fail
  go_ret2
  exact ⟨rfl, rfl⟩
set_option maxHeartbeats 1000000 in
theorem adrop_yes (g l t : Nat) (Z : Nat → Prop) (L : List En) (x : En) (w : World) (hZ : ∀ k, w.heap.size ≤ k → Z k) (hA : AgZ w Z g l L) (hx : x ∈ L) (hxt : x.t = t) (ht : t < 9223372036854775808) : Calls Try.prog 13 #[.pointer (some ⟨g, 0, none⟩), .int .i64 (t : Nat)] w fun e w' => e = .returned (.tuple #[.bool true, .int .i64 0]) ∧ AgZ w' Z g l (rmE t L) ∧ Off Z w w' := by
  have hm := hA.mem
  have HD : Hid (decide (1 ≤ (t : Int)) = true) := decide_eq_true (by have := (hm x hx).1; omega)
  obtain ⟨n, f, q, cap, B, p, i, hP, hh, hc, hi, hfi, hpi⟩ := hA.find hx
  rw [hxt] at hpi
  have HP : Hid (PileI w Z g l q cap B (n + 1) f p ∧ Hp f (n + 1) ∧ (∀ k, w.heap.size ≤ k → Z k) ∧ i ≤ n ∧ t < 9223372036854775808 ∧ p t = some i) := ⟨hP, hh, hZ, hi, ht, hpi⟩
  have HF : Hid (∀ f', Pm n (swF f i n) f' → Cont (rmE t L) f' n ∧ ∀ e ∈ rmE t L, 1 ≤ e.t ∧ e.t ≤ l ∧ e.s.size ≤ 140737488351233) := fun f' hM => by
    have := hc.drop hP.pl hi hM
    rw [hfi, hxt] at this
    exact ⟨this, fun e he => hm e (mem_rmE.1 he).1⟩
  have i1 : (i : Int) ≤ 512 := by have := hP.nb; omega
  clear hm hP hh hc hi hfi hpi hZ hA hx hxt ht
  go_enter Try.func13, Try.ntmps13
  go_wp2_with fail
  refine (isTicket_any _ _).mono ?_
  rintro e w1 ⟨rfl, rfl⟩
  rw [HD.out]
  go_wp2_with fail
  refine (aplace_in g l q cap B (n + 1) t Z f p w1 HP.out.1 HP.out.2.2.2.2.1).mono ?_
  rintro e w2 ⟨rfl, rfl⟩
  rw [HP.out.2.2.2.2.2]
  go_wp2_with fail
  refine (hremove_in g l n (n + 1) i rfl HP.out.2.2.2.1 Z f w2 HP.out.2.2.1 ⟨q, cap, B, p, HP.out.1, HP.out.2.1⟩).mono ?_
  rintro e w3 ⟨rfl, ⟨f3, hP3, hM3⟩, hO3⟩
  have H3 : Hid (AgZ w3 Z g l (rmE t L) ∧ Off Z w2 w3) := ⟨⟨n, f3, .inr hP3, HF.out f3 hM3⟩, hO3⟩
  clear hP3 hM3 hO3
  go_wp2_with fail
  go_ret2
  exact ⟨rfl, H3.out⟩
theorem PileI.at {w : World} {Z : Nat → Prop} {g l q cap B n i m : Nat} {f : Nat → En} {p : Nat → Option Nat} (h : PileI w Z g l q cap B n f p) (hi : i < n) (hm : m ≤ 1099511627776) : PileI (w.setCell ⟨q, i * 3 + 1, none⟩ (.int .i64 (m : Nat))) Z g l q cap B n (putF f i ⟨(f i).t, m, (f i).s⟩) p := by
  have kb : ∀ b, b ≠ q → (w.setCell ⟨q, i * 3 + 1, none⟩ (.int .i64 (m : Nat))).heap[b]? = w.heap[b]? := fun b hb => Below.heap_setCell _ _ _ _ hb
  have kc : ∀ o, (w.setCell ⟨q, i * 3 + 1, none⟩ (.int .i64 (m : Nat))).cell? ⟨g, o, none⟩ = w.cell? ⟨g, o, none⟩ := fun o => World.cell?_of_block (w := w) (a := ⟨g, o, none⟩) (kb g h.gq)
  have ko : ∀ o, o ≠ i * 3 + 1 → (w.setCell ⟨q, i * 3 + 1, none⟩ (.int .i64 (m : Nat))).cell? ⟨q, o, none⟩ = w.cell? ⟨q, o, none⟩ := fun o ho => World.cell?_setCell_other _ _ _ _ (by intro c; injection c with _ c _; exact ho c.symm)
  refine ⟨h.zg, h.zq, h.zB, h.gq, h.gB, h.qB, by rw [World.size_setCell]; exact h.gl, (kc 0).trans h.c0, (kc 1).trans h.c1, fun o => by rw [World.frozen?_setCell]; exact h.fg o, ⟨by rw [World.size_setCell]; exact h.rw.lt, h.rw.nc, h.rw.cl, fun k hk => ?_, fun k hk => ?_, fun k hk => ?_, fun k hk => ?_, fun o => by rw [World.frozen?_setCell]; exact h.rw.fz o⟩, h.mp.block (kb B h.qB.symm), h.pl.put rfl, h.nb, fun k hk => ?_, fun k hk => ?_, (kc 2).trans h.c2⟩
  · rw [ko _ (by omega), h.rw.c0 k hk]
    by_cases c : k = i
    · subst c; rw [putF_s]
    · rw [putF_o c]
  · by_cases c : k = i
    · subst c; rw [putF_s]; exact World.cell?_setCell_same _ _ _ (h.rw.c1 k hk)
    · rw [putF_o c, ko _ (by omega)]; exact h.rw.c1 k hk
  · rw [ko _ (by omega), h.rw.c2 k hk]
    by_cases c : k = i
    · subst c; rw [putF_s]
    · rw [putF_o c]
  · by_cases c : k = i * 3 + 1
    · subst c; rw [World.cell?_setCell_same _ _ _ (h.rw.c1 i hi)]; rfl
    · rw [ko _ c]; exact h.rw.cs k hk
  · by_cases c : k = i
    · subst c; rw [putF_s]; exact h.tb k hk
    · rw [putF_o c]; exact h.tb k hk
  · by_cases c : k = i
    · subst c; rw [putF_s]; exact hm
    · rw [putF_o c]; exact h.mb k hk
theorem amove_arg (v : Option Addr) (t m : Int) (h : ¬ (1 ≤ t ∧ 0 ≤ m ∧ m ≤ 1099511627776)) (w : World) : Calls Try.prog 14 #[.pointer v, .int .i64 t, .int .i64 m] w fun e w' => e = .returned (.int .i64 1) ∧ w' = w := by
  by_cases h1 : 1 ≤ t
  · have HD : Hid (decide (1 ≤ t) = true) := decide_eq_true h1
    have HE : Hid (decide (0 ≤ m ∧ m ≤ 1099511627776) = false) := decide_eq_false (fun c => h ⟨h1, c⟩)
    clear h h1
    go_enter Try.func14, Try.ntmps14
    go_wp2_with fail
    refine (isTicket_any _ _).mono ?_
    rintro e w1 ⟨rfl, rfl⟩
    rw [HD.out]
    go_wp2_with fail
    refine (isMoment_any _ _).mono ?_
    rintro e w2 ⟨rfl, rfl⟩
    rw [HE.out]
    go_wp2_with fail
    go_ret
    exact ⟨rfl, rfl⟩
  · have HD : Hid (decide (1 ≤ t) = false) := decide_eq_false h1
    clear h h1
    go_enter Try.func14, Try.ntmps14
    go_wp2_with fail
    refine (isTicket_any _ _).mono ?_
    rintro e w1 ⟨rfl, rfl⟩
    rw [HD.out]
    go_wp2_with fail
    go_ret
    exact ⟨rfl, rfl⟩
theorem amove_no (g l t m : Nat) (Z : Nat → Prop) (L : List En) (w : World) (hA : AgZ w Z g l L) (h1 : 1 ≤ t) (ht : t < 9223372036854775808) (hm : m ≤ 1099511627776) (hx : ∀ e ∈ L, e.t ≠ t) : Calls Try.prog 14 #[.pointer (some ⟨g, 0, none⟩), .int .i64 (t : Nat), .int .i64 (m : Nat)] w fun e w' => e = .returned (.int .i64 6) ∧ w' = w := by
  have HD : Hid (decide (1 ≤ (t : Int)) = true) := decide_eq_true (by omega)
  have HE : Hid (decide (0 ≤ (m : Int) ∧ (m : Int) ≤ 1099511627776) = true) := decide_eq_true ⟨by omega, by omega⟩
  have HA : Hid (AgZ w Z g l L ∧ t < 9223372036854775808 ∧ ∀ e ∈ L, e.t ≠ t) := ⟨hA, ht, hx⟩
  clear hA h1 ht hx hm
  go_enter Try.func14, Try.ntmps14
  go_wp2_with fail
  refine (isTicket_any _ _).mono ?_
  rintro e w1 ⟨rfl, rfl⟩
  rw [HD.out]
  go_wp2_with fail
  refine (isMoment_any _ _).mono ?_
  rintro e w2 ⟨rfl, rfl⟩
  rw [HE.out]
  go_wp2_with fail
  refine (agplace_no g l t Z L w2 HA.out.1 HA.out.2.1 HA.out.2.2).mono ?_
  rintro e w3 ⟨rfl, rfl⟩
  go_wp2_with fail
  go_ret
  exact ⟨rfl, rfl⟩
set_option maxHeartbeats 1000000 in
theorem amove_yes (g l t m : Nat) (Z : Nat → Prop) (L : List En) (x : En) (w : World) (hZ : ∀ k, w.heap.size ≤ k → Z k) (hA : AgZ w Z g l L) (hx : x ∈ L) (hxt : x.t = t) (ht : t < 9223372036854775808) (hm : m ≤ 1099511627776) : Calls Try.prog 14 #[.pointer (some ⟨g, 0, none⟩), .int .i64 (t : Nat), .int .i64 (m : Nat)] w fun e w' => e = .returned (.int .i64 0) ∧ AgZ w' Z g l (insE ⟨t, m, x.s⟩ (rmE t L)) ∧ Off Z w w' := by
  have hmm := hA.mem
  have HD : Hid (decide (1 ≤ (t : Int)) = true) := decide_eq_true (by have := (hmm x hx).1; omega)
  have HE : Hid (decide (0 ≤ (m : Int) ∧ (m : Int) ≤ 1099511627776) = true) := decide_eq_true ⟨by omega, by omega⟩
  obtain ⟨n, f, q, cap, B, p, i, hP, hh, hc, hi, hfi, hpi⟩ := hA.find hx
  rw [hxt] at hpi
  obtain ⟨N, hN⟩ : ∃ N, N = n + 1 := ⟨_, rfl⟩
  rw [← hN] at hP hh hc
  have HP : Hid (PileI w Z g l q cap B N f p ∧ Hp f N ∧ (∀ k, w.heap.size ≤ k → Z k) ∧ i < N ∧ t < 9223372036854775808 ∧ p t = some i ∧ m ≤ 1099511627776 ∧ f i = x ∧ x.t = t) := ⟨hP, hh, hZ, by omega, ht, hpi, hm, hfi, hxt⟩
  have HF : Hid (∀ f', Pm N (putF f i ⟨t, m, x.s⟩) f' → Cont (insE ⟨t, m, x.s⟩ (rmE t L)) f' N ∧ ∀ e ∈ insE ⟨t, m, x.s⟩ (rmE t L), 1 ≤ e.t ∧ e.t ≤ l ∧ e.s.size ≤ 140737488351233) := fun f' hM => by
    refine ⟨hc.move hP.pl (by omega) (by rw [hfi]; exact hxt.symm) hM, fun e he => ?_⟩
    rcases (mem_insE _ _ e).1 he with rfl | he
    · have := hmm x hx
      rw [hxt] at this
      exact this
    · exact hmm e (mem_rmE.1 he).1
  have i1 : (i : Int) < (N : Nat) := by omega
  have i2 : (N : Int) ≤ 512 := by have := hP.nb; omega
  have c0 := hP.c0
  have a1 := hP.rw.c1 i (by omega)
  have fz := hP.rw.fz
  have gq := hP.gq
  clear hmm hP hh hc hi hfi hpi hZ hA hx hxt ht hN hm
  go_enter Try.func14, Try.ntmps14
  go_wp2_with fail
  refine (isTicket_any _ _).mono ?_
  rintro e w1 ⟨rfl, rfl⟩
  rw [HD.out]
  go_wp2_with fail
  refine (isMoment_any _ _).mono ?_
  rintro e w2 ⟨rfl, rfl⟩
  rw [HE.out]
  go_wp2_with fail
  refine (aplace_in g l q cap B N t Z f p w2 HP.out.1 HP.out.2.2.2.2.1).mono ?_
  rintro e w3 ⟨rfl, rfl⟩
  rw [HP.out.2.2.2.2.2.1]
  go_wp2_with fail
  have hPi := HP.out.1.at HP.out.2.2.2.1 HP.out.2.2.2.2.2.2.1
  rw [HP.out.2.2.2.2.2.2.2.1, HP.out.2.2.2.2.2.2.2.2] at hPi
  have HO : Hid (Off Z w3 (w3.setCell ⟨q, i * 3 + 1, none⟩ (.int .i64 (m : Nat)))) := ⟨rfl, rfl, rfl, by rw [World.size_setCell]; exact Nat.le_refl _, fun b hb => Below.heap_setCell _ _ _ _ (fun (c : b = q) => hb (by rw [c]; exact HP.out.1.zq))⟩
  refine (hfix_in g l q cap B N i Z _ p _ (off_new HO.out HP.out.2.2.1) hPi HP.out.2.2.2.1 (HP.out.2.1.du_put _)).mono ?_
  rintro e w4 ⟨rfl, ⟨f4, hP4, hM4⟩, hO4⟩
  have H4 : Hid (AgZ w4 Z g l (insE ⟨t, m, x.s⟩ (rmE t L)) ∧ Off Z w3 w4) := ⟨⟨N, f4, .inr hP4, HF.out f4 hM4⟩, HO.out.trans hO4⟩
  clear hP4 hM4 hO4 hPi HO
  go_wp2_with fail
  go_ret
  exact ⟨rfl, H4.out⟩
end Go.Proofs.Ytkgfeiigdhbddaa
