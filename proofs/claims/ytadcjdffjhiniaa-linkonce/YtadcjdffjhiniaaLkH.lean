/- What every statement of layer 12 asks besides: two texts, the second of which comes first. -/
import Derived.Test.YtadcjdffjhiniaaLkG
namespace Go.Proofs.Ytadcjdffjhiniaa
open Go Go.RowKit Go.Lib

theorem rdF_let {l n : Nat} {t : ByteArray} (hl : 1 ≤ l ∧ l ≤ 1099511627776) (hn : 1 ≤ n ∧ n ≤ 1099511627776) (ht : t.size ≤ 7900) : rdF (letS 1 l n [t]) = some (l, n, t) := by
  have h := lkU_let (k := 1) (l := l) (n := n) (r := [t]) (by decide) (by simp) (fun s hs => by simp at hs; subst hs; omega) ⟨hl.1, hl.2, hn.2⟩
  unfold rdF
  have h' : lkU 1 1 (letS 1 l n [t]) = some (l, n, [t]) := h
  rw [h']
  simp only []
  rw [if_neg (by omega)]
theorem let_size {k l n : Nat} {r : List ByteArray} : (letS k l n r).size < 140737488351233 := by
  unfold letS pkS
  split
  · next c =>
    simp only [Bool.and_eq_true] at c
    have h2 := c.2
    unfold fitB at h2
    simp only [Bool.and_eq_true, decide_eq_true_eq] at h2
    rw [ofL_size]
    unfold packL
    simp only [List.length_cons, itemsL_length]
    omega
  · decide
theorem Strs.off {w w' : World} {b o : Nat} {l : List ByteArray} {P : Nat → Prop} (h : Strs w (some ⟨b, o, none⟩) l) (hb : Off P w w') (hP : ¬ P b) : Strs w' (some ⟨b, o, none⟩) l := fun j s hj => by
  obtain ⟨p, o', h1, h2, h3⟩ := h j s hj
  cases h1
  exact ⟨b, o, rfl, (hb.cell (p := ⟨b, o + j, none⟩) hP).trans h2, Nat.lt_of_lt_of_le h3 hb.size⟩
/-- What others made since is not the end's. -/
theorem SenderAt.others {w w' : World} {g life last : Nat} {F : Nat → Prop} {l : List ByteArray} (h : SenderAt w g F life last l) (hb : Below w.heap.size w w') : SenderAt w' g (fun k => F k ∧ (k < w.heap.size ∨ w'.heap.size ≤ k)) life last l := by
  have h' := h.call hb
  obtain ⟨a, cap, c0, c1, c2, fz, hg, hB, hR⟩ := h
  obtain ⟨a', cap', d0, d1, d2, fz', hg', hB', hR'⟩ := h'
  have e2 := (hb.cell (p := ⟨g, 2, none⟩) (Nat.lt_of_not_le fun c => hg (hB g c))).trans c2
  refine ⟨a, cap, d0, d1, e2, fz', fun c => hg c.1, fun k hk => ⟨hB k (Nat.le_trans hb.size hk), .inr hk⟩, ?_⟩
  exact (hR.mono (Q := fun k => F k ∧ (k < w.heap.size ∨ w'.heap.size ≤ k)) (fun k hk hF => ⟨hF, .inl hk⟩)).call hb
theorem frL_two (a b : ByteArray) : frL 5 0 [a, b] = [letS 1 5 1 [a], letS 1 5 2 [b]] := rfl
theorem SenderAt.keep {w w' : World} {g life last : Nat} {F : Nat → Prop} {l : List ByteArray} {T : Nat} (h : SenderAt w g F life last l) (hb : But T (From w.heap.size) w w') (hT : T ≠ g) (hF : ¬ F T) : SenderAt w' g F life last l := by
  have hlt := h.lt
  refine h.off (Off.of_but hb) (fun c => c.elim (fun c => absurd hlt (Nat.not_lt_of_le c)) (fun c => hT c.symm)) (fun k hk hFk c => c.elim (fun c => absurd hk (Nat.not_lt_of_le c)) (fun c => hF (c ▸ hFk)))
theorem Strs.keep {w w' : World} {b o : Nat} {l : List ByteArray} {T : Nat} (h : Strs w (some ⟨b, o, none⟩) l) (hlt : b < w.heap.size) (hb : But T (From w.heap.size) w w') (hT : T ≠ b) : Strs w' (some ⟨b, o, none⟩) l :=
  h.off (Off.of_but hb) (fun c => c.elim (fun c => absurd hlt (Nat.not_lt_of_le c)) (fun c => hT c.symm))
theorem But.under {g G : Nat} {P : Nat → Prop} {w w' : World} (h : But g P w w') (hg : G ≤ g) (hP : ∀ k, P k → G ≤ k) : Below G w w' :=
  ⟨h.os, h.tape, h.output, h.size, fun k hk => h.block k (fun c => absurd (hP k c) (Nat.not_le_of_lt hk)) (by omega)⟩
set_option maxRecDepth 100000 in
set_option maxHeartbeats 4000000 in
theorem ltwo_any (w : World) : Calls Try.prog 9 #[] w fun e w' => e = .returned (.bool true) ∧ Below w.heap.size w w' := by
  obtain ⟨A, hA⟩ : ∃ A : ByteArray, A = ⟨#[97]⟩ := ⟨_, rfl⟩
  obtain ⟨B, hB⟩ : ∃ B : ByteArray, B = ⟨#[98]⟩ := ⟨_, rfl⟩
  have az : ¬ 7900 < A.size := by rw [hA]; decide
  have bz : ¬ 7900 < B.size := by rw [hB]; decide
  obtain ⟨f0, hf0⟩ : ∃ f, f = letS 1 5 1 [A] := ⟨_, rfl⟩
  obtain ⟨f1, hf1⟩ : ∃ f, f = letS 1 5 2 [B] := ⟨_, rfl⟩
  obtain ⟨ak, hak⟩ : ∃ f, f = letS 2 5 2 [] := ⟨_, rfl⟩
  have r0 : rdF f0 = some (5, 1, A) := by rw [hf0]; exact rdF_let (by omega) (by omega) (by omega)
  have r1 : rdF f1 = some (5, 2, B) := by rw [hf1]; exact rdF_let (by omega) (by omega) (by omega)
  have z0 : f0.size < 140737488351233 := by rw [hf0]; exact let_size
  have z1 : f1.size < 140737488351233 := by rw [hf1]; exact let_size
  have z2 : ak.size < 140737488351233 := by rw [hak]; exact let_size
  have u2 : lkU 2 0 ak = some (5, 2, []) := by rw [hak]; exact lkU_let (k := 2) (r := []) (by decide) (by simp) (by simp) (by omega)
  have t1 : tkR f1 0 0 = (⟨#[]⟩, false, 0, 5, 0) := by unfold tkR; rw [r1]; rfl
  have t2 : tkR f0 5 0 = (A, true, 0, 5, 1) := by unfold tkR; rw [r0]; rfl
  have t3 : tkR f1 5 1 = (B, true, 0, 5, 2) := by unfold tkR; rw [r1]; rfl
  have hfr : frL 5 (2 - 2) [A, B] = [f0, f1] := by rw [hf0, hf1]; rfl
  have hack : akS 5 2 = ak := by rw [hak]; rfl
  have K1 : Hid _ := fun w : World => newSender_in 5 (by omega) w
  have K2 : Hid _ := fun w : World => newTaker_any w
  have K3 : Hid _ := fun (g : Nat) (F : Nat → Prop) (w : World) (h : SenderAt w g F 5 0 []) => push_ok g F 5 0 [] A az (by decide) (by decide) w h
  have K4 : Hid _ := fun (g : Nat) (F : Nat → Prop) (w : World) (h : SenderAt w g F 5 1 [A]) => push_ok g F 5 1 [A] B bz (by simp) (by decide) w h
  have K5 : Hid (∀ (g : Nat) (F : Nat → Prop) (w : World), SenderAt w g F 5 2 [A, B] → Calls Try.prog 16 #[.pointer (some ⟨g, 0, none⟩)] w fun e w' => e = .returned (.slice (some ⟨w.heap.size, 0, none⟩) 2 2) ∧ Strs w' (some ⟨w.heap.size, 0, none⟩) [f0, f1] ∧ Below w.heap.size w w') := fun g F w h => by
    have := frames_any g F 5 2 [A, B] (by simp) (by decide) (by decide) (fun s hs => by simp at hs; rcases hs with rfl | rfl <;> omega) w h
    rw [show ([A, B] : List ByteArray).length = 2 from rfl, hfr] at this
    exact this
  have K6 : Hid _ := fun (g : Nat) (w : World) (h : TakerAt w g 0 0) => take_any g 0 0 (by decide) f1 z1 w h
  have K7 : Hid _ := fun (g : Nat) (w : World) (h : TakerAt w g 5 0) => take_any g 5 0 (by decide) f0 z0 w h
  have K8 : Hid _ := fun (g : Nat) (w : World) (h : TakerAt w g 5 1) => take_any g 5 1 (by decide) f1 z1 w h
  unfold takePost at K6 K7 K8
  rw [t1] at K6
  rw [t2] at K7
  rw [t3] at K8
  have K9 : Hid _ := fun (g : Nat) (w : World) (h : TakerAt w g 5 2) => ack_any g 5 2 (by decide) (by decide) w h
  rw [hack] at K9
  have K10 : Hid _ := fun (g : Nat) (F : Nat → Prop) (w : World) (h : SenderAt w g F 5 2 [A, B]) => heard_in g F 5 2 [A, B] (by simp) (by decide) ak z2 u2 (by decide) w h
  have K11 : Hid _ := fun (g : Nat) (F : Nat → Prop) (w : World) (h : SenderAt w g F 5 2 []) => waiting_any g F 5 2 [] w h
  have tb1 : (A.toList == (⟨#[97]⟩ : ByteArray).toList) = true := by rw [hA]; simp only [BEq.rfl]
  have tb2 : (B.toList == (⟨#[98]⟩ : ByteArray).toList) = true := by rw [hB]; simp only [BEq.rfl]
  rw [hA] at K3
  rw [hB] at K4
  clear az bz r0 r1 z0 z1 z2 u2 t1 t2 t3 hfr hack hf0 hf1 hak
  go_enter Try.func9, Try.ntmps9
  go_wp2_with fail
  refine (K1.out _).mono ?_
  rintro e w1 ⟨rfl, hS1, hb1, hs1⟩
  have H1 : Hid (SenderAt w1 w.heap.size (From (w.heap.size + 1)) 5 0 [] ∧ Below w.heap.size w w1 ∧ w1.heap.size = w.heap.size + 1) := ⟨hS1, hb1, hs1⟩
  clear hS1 hb1 hs1 K1
  go_wp2_with fail
  refine (K2.out _).mono ?_
  rintro e w2 ⟨rfl, hT2, hb2, hs2⟩
  obtain ⟨T, hT⟩ : ∃ T, T = w1.heap.size := ⟨_, rfl⟩
  obtain ⟨G, hG⟩ : ∃ G, G = w.heap.size := ⟨_, rfl⟩
  obtain ⟨F, hF⟩ : ∃ F : Nat → Prop, F = fun k => From (w.heap.size + 1) k ∧ (k < w1.heap.size ∨ w2.heap.size ≤ k) := ⟨_, rfl⟩
  have H2 : Hid (SenderAt w2 G F 5 0 [] ∧ TakerAt w2 T 0 0 ∧ Below G w w2 ∧ ¬ F T ∧ T ≠ G ∧ (∀ k, F k → G ≤ k) ∧ G ≤ T) := by
    rw [hF, hT, hG]
    refine ⟨H1.out.1.others hb2, hT2, below_call0 H1.out.2.1 hb2, fun c => c.2.elim (fun c => absurd c (Nat.lt_irrefl _)) (fun c => by omega), by have := H1.out.2.2; omega, fun k hk => ?_, H1.out.2.1.size⟩
    have : w.heap.size + 1 ≤ k := hk.1
    omega
  have HG : Hid (G = w.heap.size) := hG
  rw [← hT, ← hG]
  clear hT2 hb2 hs2 K2 H1 hT hG hF
  go_wp2_with fail
  refine (K3.out _ F _ H2.out.1).mono ?_
  rintro e w3 ⟨rfl, hS3, hb3⟩
  have H3 : Hid (SenderAt w3 G F 5 1 [⟨#[97]⟩] ∧ TakerAt w3 T 0 0 ∧ Below G w w3) := ⟨hS3, H2.out.2.1.off (Off.of_but hb3) (fun c => c.elim H2.out.2.2.2.1 H2.out.2.2.2.2.1), H2.out.2.2.1.trans (hb3.under (Nat.le_refl _) H2.out.2.2.2.2.2.1)⟩
  rw [← hA] at H3
  clear hS3 hb3 K3
  go_wp2_with fail
  refine (K4.out _ F _ H3.out.1).mono ?_
  rintro e w4 ⟨rfl, hS4, hb4⟩
  have H4 : Hid (SenderAt w4 G F 5 2 [A, ⟨#[98]⟩] ∧ TakerAt w4 T 0 0 ∧ Below G w w4) := ⟨hS4, H3.out.2.1.off (Off.of_but hb4) (fun c => c.elim H2.out.2.2.2.1 H2.out.2.2.2.2.1), H3.out.2.2.trans (hb4.under (Nat.le_refl _) H2.out.2.2.2.2.2.1)⟩
  rw [← hB] at H4
  clear hS4 hb4 K4 H3
  go_wp2_with fail
  refine (K5.out _ F _ H4.out.1).mono ?_
  rintro e w5 ⟨rfl, hR5, hb5⟩
  obtain ⟨p, hp⟩ : ∃ p, p = w4.heap.size := ⟨_, rfl⟩
  have H5 : Hid (SenderAt w5 G F 5 2 [A, B] ∧ TakerAt w5 T 0 0 ∧ Below G w w5 ∧ Strs w5 (some ⟨p, 0, none⟩) [f0, f1] ∧ p < w5.heap.size ∧ T ≠ p) := by
    rw [hp]
    obtain ⟨_, _, _, _, hlt⟩ := hR5 0 f0 rfl
    refine ⟨H4.out.1.call hb5, H4.out.2.1.call hb5, H4.out.2.2.trans (hb5.mono (Nat.le_of_lt H4.out.1.lt)), hR5, ?_, Nat.ne_of_lt H4.out.2.1.2.2.2⟩
    obtain ⟨_, _, h1, _, h3⟩ := hR5 0 f0 rfl
    cases h1
    exact h3
  rw [← hp]
  clear hR5 hb5 hp K5 H4
  obtain ⟨_, _, he, hc0, -⟩ := H5.out.2.2.2.1 0 f0 rfl
  cases he
  obtain ⟨_, _, he, hc1, -⟩ := H5.out.2.2.2.1 1 f1 rfl
  cases he
  rw [Nat.add_zero] at hc0
  rw [Nat.zero_add] at hc1
  go_wp2_with fail
  refine (K6.out _ _ H5.out.2.1).mono ?_
  rintro e w6 ⟨rfl, hT6, hb6⟩
  have H6 : Hid (SenderAt w6 G F 5 2 [A, B] ∧ TakerAt w6 T 5 0 ∧ Below G w w6 ∧ Strs w6 (some ⟨p, 0, none⟩) [f0, f1] ∧ p < w6.heap.size ∧ T ≠ p) :=
    ⟨H5.out.1.keep hb6 H2.out.2.2.2.2.1 H2.out.2.2.2.1, hT6, H5.out.2.2.1.trans (hb6.under H2.out.2.2.2.2.2.2 (fun k hk => Nat.le_trans (Nat.le_of_lt H5.out.1.lt) hk)), H5.out.2.2.2.1.keep H5.out.2.2.2.2.1 hb6 H5.out.2.2.2.2.2, Nat.lt_of_lt_of_le H5.out.2.2.2.2.1 hb6.size, H5.out.2.2.2.2.2⟩
  clear hT6 hb6 hc0 hc1 H5
  obtain ⟨_, _, he, hc0, -⟩ := H6.out.2.2.2.1 0 f0 rfl
  cases he
  obtain ⟨_, _, he, hc1, -⟩ := H6.out.2.2.2.1 1 f1 rfl
  cases he
  rw [Nat.add_zero] at hc0
  rw [Nat.zero_add] at hc1
  go_wp2_with fail
  refine (K7.out _ _ H6.out.2.1).mono ?_
  rintro e w7 ⟨rfl, hT7, hb7⟩
  have H7 : Hid (SenderAt w7 G F 5 2 [A, B] ∧ TakerAt w7 T 5 1 ∧ Below G w w7 ∧ Strs w7 (some ⟨p, 0, none⟩) [f0, f1] ∧ p < w7.heap.size ∧ T ≠ p) :=
    ⟨H6.out.1.keep hb7 H2.out.2.2.2.2.1 H2.out.2.2.2.1, hT7, H6.out.2.2.1.trans (hb7.under H2.out.2.2.2.2.2.2 (fun k hk => Nat.le_trans (Nat.le_of_lt H6.out.1.lt) hk)), H6.out.2.2.2.1.keep H6.out.2.2.2.2.1 hb7 H6.out.2.2.2.2.2, Nat.lt_of_lt_of_le H6.out.2.2.2.2.1 hb7.size, H6.out.2.2.2.2.2⟩
  clear hT7 hb7 hc0 hc1 H6
  obtain ⟨_, _, he, hc0, -⟩ := H7.out.2.2.2.1 0 f0 rfl
  cases he
  obtain ⟨_, _, he, hc1, -⟩ := H7.out.2.2.2.1 1 f1 rfl
  cases he
  rw [Nat.add_zero] at hc0
  rw [Nat.zero_add] at hc1
  go_wp2_with fail
  refine (K8.out _ _ H7.out.2.1).mono ?_
  rintro e w8 ⟨rfl, hT8, hb8⟩
  have H8 : Hid (SenderAt w8 G F 5 2 [A, B] ∧ TakerAt w8 T 5 2 ∧ Below G w w8 ∧ Strs w8 (some ⟨p, 0, none⟩) [f0, f1] ∧ p < w8.heap.size ∧ T ≠ p) :=
    ⟨H7.out.1.keep hb8 H2.out.2.2.2.2.1 H2.out.2.2.2.1, hT8, H7.out.2.2.1.trans (hb8.under H2.out.2.2.2.2.2.2 (fun k hk => Nat.le_trans (Nat.le_of_lt H7.out.1.lt) hk)), H7.out.2.2.2.1.keep H7.out.2.2.2.2.1 hb8 H7.out.2.2.2.2.2, Nat.lt_of_lt_of_le H7.out.2.2.2.2.1 hb8.size, H7.out.2.2.2.2.2⟩
  clear hT8 hb8 hc0 hc1 H7
  obtain ⟨_, _, he, hc0, -⟩ := H8.out.2.2.2.1 0 f0 rfl
  cases he
  obtain ⟨_, _, he, hc1, -⟩ := H8.out.2.2.2.1 1 f1 rfl
  cases he
  rw [Nat.add_zero] at hc0
  rw [Nat.zero_add] at hc1
  go_wp2_with fail
  refine (K9.out _ _ H8.out.2.1).mono ?_
  rintro e w9 ⟨rfl, hb9⟩
  have H9 : Hid (SenderAt w9 G F 5 2 [A, B] ∧ Below G w w9) := ⟨H8.out.1.call hb9, H8.out.2.2.1.trans (hb9.mono (Nat.le_of_lt H8.out.1.lt))⟩
  clear hb9 hc0 hc1
  go_wp2_with fail
  refine (K10.out _ F _ H9.out.1).mono ?_
  rintro e w10 ⟨rfl, hS10, hb10⟩
  have H10 : Hid (SenderAt w10 G F 5 2 [] ∧ Below G w w10) := ⟨hS10, H9.out.2.trans (hb10.under (Nat.le_refl _) H2.out.2.2.2.2.2.1)⟩
  clear hS10 hb10
  go_wp2_with fail
  refine (K11.out _ F _ H10.out.1).mono ?_
  rintro e w11 ⟨rfl, rfl⟩
  go_wp2_with fail
  go_ret
  exact ⟨rfl, by rw [← HG.out]; exact H10.out.2⟩
end Go.Proofs.Ytadcjdffjhiniaa
