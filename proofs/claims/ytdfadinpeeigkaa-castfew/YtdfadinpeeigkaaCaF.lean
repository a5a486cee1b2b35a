/- The laws CastOne and CastReady: what quorums say; the walks. -/
import Derived.Test.YtdfadinpeeigkaaCaE
namespace Go.Proofs.Ytdfadinpeeigkaa
open Go Go.RowKit Go.Lib

/-- How many that do as told tell a text. -/
def hcs (fl : Nat → Bool) (H : List ByteArray) (n : Nat) (x : ByteArray) : Nat := (List.range n).countP (fun i => !fl i && decide (H.getD i ⟨#[]⟩ = x))
theorem cs_vL (fl : Nat → Bool) (H O : List ByteArray) (n : Nat) (x : ByteArray) : hcs fl H n x ≤ cs (vL fl H O n) x ∧ cs (vL fl H O n) x ≤ hcs fl H n x + fcn fl n := by
  unfold cs vL hcs fcn
  rw [List.countP_map]
  constructor
  · refine List.countP_mono_left fun i _ h => ?_
    rw [Bool.and_eq_true, Bool.not_eq_true', decide_eq_true_eq] at h
    simp only [Function.comp_apply, decide_eq_true_eq]
    rw [h.1]
    simpa using h.2
  · refine countP_le_add _ fun i _ h => ?_
    simp only [Function.comp_apply, decide_eq_true_eq] at h
    cases hf : fl i
    · left
      rw [hf] at h
      rw [Bool.and_eq_true, Bool.not_eq_true', decide_eq_true_eq]
      exact ⟨rfl, by simpa using h⟩
    · right; rfl
theorem hcs_two (fl : Nat → Bool) (H : List ByteArray) (n : Nat) {x y : ByteArray} (h : x ≠ y) : hcs fl H n x + hcs fl H n y + fcn fl n ≤ n := by
  have key : ∀ (g : Nat → ByteArray) (L : List Nat), L.countP (fun i => !fl i && decide (g i = x)) + L.countP (fun i => !fl i && decide (g i = y)) + L.countP fl ≤ L.length := by
    intro g L
    induction L with
    | nil => exact Nat.le_refl _
    | cons a L ih =>
      simp only [List.countP_cons, List.length_cons]
      cases hf : fl a
      · by_cases q : g a = x
        · have q2 : ¬ (g a = y) := fun c => h (q.symm.trans c)
          rw [decide_eq_true q, decide_eq_false q2]
          simp; omega
        · rw [decide_eq_false q]
          by_cases q2 : g a = y
          · rw [decide_eq_true q2]; simp; omega
          · rw [decide_eq_false q2]; simp; omega
      · simp; omega
  have := key (fun i => H.getD i ⟨#[]⟩) (List.range n)
  rw [List.length_range] at this
  exact this
theorem hcs_pos {fl : Nat → Bool} {H : List ByteArray} {n : Nat} {x : ByteArray} (h : 0 < hcs fl H n x) : ∃ i, i < n ∧ fl i = false ∧ H.getD i ⟨#[]⟩ = x := by
  obtain ⟨i, hi, hp⟩ := List.countP_pos_iff.1 h
  rw [Bool.and_eq_true, Bool.not_eq_true', decide_eq_true_eq] at hp
  exact ⟨i, List.mem_range.1 hi, hp.1, hp.2⟩
theorem one_text {n f : Nat} {fl : Nat → Bool} {H A B : List ByteArray} (hF : fcn fl n ≤ f) (hf : 3 * f < n) {a b : ByteArray} (h1 : pick (n - f) (vL fl H A n) = some a) (h2 : pick (n - f) (vL fl H B n) = some b) : a = b := by
  refine Classical.byContradiction fun q => ?_
  have e1 := (pick_some (by omega) h1).1.2
  have e2 := (pick_some (by omega) h2).1.2
  have c1 := (cs_vL fl H A n a).2
  have c2 := (cs_vL fl H B n b).2
  have := hcs_two fl H n q
  omega
theorem all_ready {n f : Nat} {fl : Nat → Bool} {H A B : List ByteArray} (hF : fcn fl n ≤ f) (hf : 3 * f < n) {a o : ByteArray} (hone : ∀ i, i < n → fl i = false → H.getD i ⟨#[]⟩ ≠ ⟨#[]⟩ → H.getD i ⟨#[]⟩ = o) (h1 : pick (n - f) (vL fl H A n) = some a) : a = o ∧ pick (f + 1) (vL fl H B n) = some o := by
  obtain ⟨⟨ha, hc⟩, _⟩ := pick_some (by omega) h1
  have c1 := (cs_vL fl H A n a).2
  obtain ⟨i, hi, hfl, hv⟩ := hcs_pos (fl := fl) (H := H) (n := n) (x := a) (by omega)
  have hao : a = o := by have := hone i hi hfl (by rw [hv]; exact ha); rw [← hv]; exact this
  refine ⟨hao, pick_of (by omega) ⟨by rw [← hao]; exact ha, ?_⟩ (fun t ht => ?_)⟩
  · have := (cs_vL fl H B n o).1
    rw [← hao] at this ⊢
    omega
  · have c2 := (cs_vL fl H B n t).2
    have := ht.2
    obtain ⟨j, hj, hfj, hvj⟩ := hcs_pos (fl := fl) (H := H) (n := n) (x := t) (by omega)
    have := hone j hj hfj (by rw [hvj]; exact ht.1)
    rw [← hvj]; exact this
theorem castOne_no (n f : Int) (s : Int) (v1 v2 v3 : Value) (h : ¬ TabOk n f) (w : World) : Calls Try.prog 4 #[.int .i64 n, .int .i64 f, .agg #[.int .i64 s, v1, v2, v3]] w fun e w' => e = .returned (.bool true) ∧ Below w.heap.size w w' := by
  have HD : Hid (decide (1 ≤ n ∧ n ≤ 10 ∧ 0 ≤ f ∧ 3 * f < n) = false) := decide_eq_false h
  clear h
  go_enter Try.func4, Try.ntmps4
  go_wp2_with fail
  refine (crtable_any _ _ _).mono ?_
  rintro e w1 ⟨rfl, rfl⟩
  rw [HD.out]
  go_wp2_with fail
  refine (four_any _).mono ?_
  rintro e w2 ⟨rfl, hb⟩
  have HB : Hid (Below w.heap.size w w2) := below_call0 (below_alloc0 (Below.refl _ _) _) hb
  clear hb
  go_wp2_with fail
  go_ret
  exact ⟨rfl, HB.out⟩
theorem castReady_no (n f : Int) (s : Int) (v1 v2 v3 : Value) (h : ¬ TabOk n f) (w : World) : Calls Try.prog 5 #[.int .i64 n, .int .i64 f, .agg #[.int .i64 s, v1, v2, v3]] w fun e w' => e = .returned (.bool true) ∧ Below w.heap.size w w' := by
  have HD : Hid (decide (1 ≤ n ∧ n ≤ 10 ∧ 0 ≤ f ∧ 3 * f < n) = false) := decide_eq_false h
  clear h
  go_enter Try.func5, Try.ntmps5
  go_wp2_with fail
  refine (crtable_any _ _ _).mono ?_
  rintro e w1 ⟨rfl, rfl⟩
  rw [HD.out]
  go_wp2_with fail
  refine (four_any _).mono ?_
  rintro e w2 ⟨rfl, hb⟩
  have HB : Hid (Below w.heap.size w w2) := below_call0 (below_alloc0 (Below.refl _ _) _) hb
  clear hb
  go_wp2_with fail
  go_ret
  exact ⟨rfl, HB.out⟩
/-- What is handed in: a table, three lists of texts. -/
structure TIn (w : World) (n f : Nat) (ha aa ba : Option Addr) (H A B : List ByteArray) (hl al bl : Nat) : Prop where
  n1 : 1 ≤ n
  n10 : n ≤ 10
  hf : 3 * f < n
  lh : hl = H.length
  la : al = A.length
  lb : bl = B.length
  sh : Strs w ha H
  sa : Strs w aa A
  sb : Strs w ba B
  zh : ∀ s ∈ H, s.size < 140737488351233
  za : ∀ s ∈ A, s.size < 140737488351233
  zb : ∀ s ∈ B, s.size < 140737488351233
theorem TIn.call {w w' : World} {n f : Nat} {ha aa ba : Option Addr} {H A B : List ByteArray} {hl al bl : Nat} (h : TIn w n f ha aa ba H A B hl al bl) (hb : Below w.heap.size w w') : TIn w' n f ha aa ba H A B hl al bl :=
  ⟨h.n1, h.n10, h.hf, h.lh, h.la, h.lb, h.sh.call hb, h.sa.call hb, h.sb.call hb, h.zh, h.za, h.zb⟩
set_option maxHeartbeats 4000000 in
theorem castOne_ok (n f : Nat) (s : Int) (ha aa ba : Option Addr) (H A B : List ByteArray) (hl hc al ac bl bc : Nat) (w : World) (hT : TIn w n f ha aa ba H A B hl al bl) :
    Calls Try.prog 4 #[.int .i64 (n : Nat), .int .i64 (f : Nat), .agg #[.int .i64 s, .slice ha hl hc, .slice aa al ac, .slice ba bl bc]] w fun e w' => e = .returned (.bool true) ∧ Below w.heap.size w w' := by
  have HD : Hid (decide (1 ≤ (n : Int) ∧ (n : Int) ≤ 10 ∧ 0 ≤ (f : Int) ∧ 3 * (f : Int) < (n : Int)) = true) := decide_eq_true (by have := hT.n1; have := hT.n10; have := hT.hf; omega)
  obtain ⟨w1, hw1⟩ : ∃ w1, w1 = w.alloc (.cells #[.int .i64 s, .slice ha hl hc, .slice aa al ac, .slice ba bl bc] 32) := ⟨_, rfl⟩
  obtain ⟨p0, p1, p2, p3, hz1, hB1⟩ := told_world hw1
  obtain ⟨Q, hQ⟩ : ∃ Q, Q = w.heap.size := ⟨_, rfl⟩
  rw [← hQ] at p0 p1 p2 p3
  have HT : Hid (TIn w1 n f ha aa ba H A B hl al bl ∧ Below w.heap.size w w1 ∧ w1.heap.size = Q + 1) := ⟨hT.call hB1, hB1, by omega⟩
  obtain ⟨P1, hP1⟩ : ∃ P1, P1 = pick (n - f) (vL (flB s f) H A n) := ⟨_, rfl⟩
  obtain ⟨P2, hP2⟩ : ∃ P2, P2 = pick (n - f) (vL (flB s f) H B n) := ⟨_, rfl⟩
  have HP : Hid (∀ a b, P1 = some a → P2 = some b → a = b) := fun a b e1 e2 => one_text (flB_le s f n) hT.hf (hP1.symm.trans e1) (hP2.symm.trans e2)
  have K1 : Hid (∀ w' ra rc, Strs w' ra (vL (flB s f) H A n) → Calls Try.prog 8 #[.int .i64 (n : Nat), .int .i64 (f : Nat), .slice ra n rc] w' fun e w'' => e = .returned (.tuple #[.string (pikS P1), .bool (pikB P1), .int .i64 0]) ∧ Below w'.heap.size w' w'') := fun w' ra rc h => by rw [hP1]; exact echoed_ok n f ra _ rc (vL_ok hT.n1 hT.n10 hT.hf hT.zh hT.za) w' h
  have K2 : Hid (∀ w' ra rc, Strs w' ra (vL (flB s f) H B n) → Calls Try.prog 8 #[.int .i64 (n : Nat), .int .i64 (f : Nat), .slice ra n rc] w' fun e w'' => e = .returned (.tuple #[.string (pikS P2), .bool (pikB P2), .int .i64 0]) ∧ Below w'.heap.size w' w'') := fun w' ra rc h => by rw [hP2]; exact echoed_ok n f ra _ rc (vL_ok hT.n1 hT.n10 hT.hf hT.zh hT.zb) w' h
  clear hz1 hB1 hT hP1 hP2
  go_enter Try.func4, Try.ntmps4
  go_wp2_with fail
  refine (crtable_any _ _ _).mono ?_
  rintro e w2 ⟨rfl, hw2⟩
  rw [HD.out]
  obtain rfl : w2 = w1 := hw2.trans hw1.symm
  rw [← hQ]
  clear hw1 hQ hw2
  go_wp2_with fail
  refine (votes_any n f HT.out.1.n10 (by have := HT.out.1.hf; have := HT.out.1.n10; omega) s ha aa ba aa hc al ac bl bc ac H A hl al HT.out.1.lh HT.out.1.la _ HT.out.1.sh HT.out.1.sa).mono ?_
  rintro e w3 ⟨ra, rc, rfl, hS3, hb3⟩
  have H3 : Hid (Strs w3 ra (vL (flB s f) H A n) ∧ TIn w3 n f ha aa ba H A B hl al bl ∧ Below w2.heap.size w2 w3) := ⟨hS3, HT.out.1.call hb3, hb3⟩
  clear hS3 hb3
  go_wp2_with fail
  refine (K1.out _ ra rc H3.out.1).mono ?_
  rintro e w4 ⟨rfl, hb4⟩
  have H4 : Hid (TIn w4 n f ha aa ba H A B hl al bl ∧ Below w2.heap.size w2 w4) := ⟨H3.out.2.1.call hb4, below_call0 H3.out.2.2 hb4⟩
  have ec : ∀ o, w4.cell? ⟨Q, o, none⟩ = w2.cell? ⟨Q, o, none⟩ := fun o => H4.out.2.cell (p := ⟨Q, o, none⟩) (by have := HT.out.2.2; show Q < _; omega)
  have r0 := (ec 0).trans p0
  have r1 := (ec 1).trans p1
  have r2 := (ec 2).trans p2
  have r3 := (ec 3).trans p3
  clear hb4 ec p0 p1 p2 p3
  go_wp2_with fail
  refine (votes_any n f HT.out.1.n10 (by have := HT.out.1.hf; have := HT.out.1.n10; omega) s ha aa ba ba hc al ac bl bc bc H B hl bl HT.out.1.lh HT.out.1.lb _ H4.out.1.sh H4.out.1.sb).mono ?_
  rintro e w5 ⟨rb, rd, rfl, hS5, hb5⟩
  have H5 : Hid (Strs w5 rb (vL (flB s f) H B n) ∧ Below w2.heap.size w2 w5) := ⟨hS5, below_call0 H4.out.2 hb5⟩
  clear hS5 hb5 r0 r1 r2 r3
  go_wp2_with fail
  refine (K2.out _ rb rd H5.out.1).mono ?_
  rintro e w6 ⟨rfl, hb6⟩
  have H6 : Hid (Below w.heap.size w w6) := below_call0 HT.out.2.1 (below_call0 H5.out.2 hb6)
  clear hb6
  cases P1 with
  | none =>
    cases P2 with
    | none =>
      simp only [pikB, pikS]
      go_wp2_with fail
      refine (four_any _).mono ?_
      rintro e w7 ⟨rfl, hb⟩
      have HB : Hid (Below w.heap.size w w7) := below_call0 H6.out hb
      clear hb
      go_wp2_with fail
      go_ret
      exact ⟨rfl, HB.out⟩
    | some b =>
      simp only [pikB, pikS]
      go_wp2_with fail
      refine (four_any _).mono ?_
      rintro e w7 ⟨rfl, hb⟩
      have HB : Hid (Below w.heap.size w w7) := below_call0 H6.out hb
      clear hb
      go_wp2_with fail
      go_ret
      exact ⟨rfl, HB.out⟩
  | some a =>
    cases P2 with
    | none =>
      simp only [pikB, pikS]
      go_wp2_with fail
      refine (four_any _).mono ?_
      rintro e w7 ⟨rfl, hb⟩
      have HB : Hid (Below w.heap.size w w7) := below_call0 H6.out hb
      clear hb
      go_wp2_with fail
      go_ret
      exact ⟨rfl, HB.out⟩
    | some b =>
      have q : a = b := HP.out a b rfl rfl
      subst q
      have qa : (a.toList == a.toList) = true := by simp only [BEq.rfl]
      simp only [pikB, pikS]
      go_wp2_with fail
      refine (four_any _).mono ?_
      rintro e w7 ⟨rfl, hb⟩
      have HB : Hid (Below w.heap.size w w7) := below_call0 H6.out hb
      clear hb
      go_wp2_with fail
      go_ret
      exact ⟨rfl, HB.out⟩
theorem castOne_any (n f : Int) (s : Int) (ha aa ba : Option Addr) (H A B : List ByteArray) (hc ac bc : Nat) (zh : ∀ s ∈ H, s.size < 140737488351233) (za : ∀ s ∈ A, s.size < 140737488351233) (zb : ∀ s ∈ B, s.size < 140737488351233) (w : World) (sh : Strs w ha H) (sa : Strs w aa A) (sb : Strs w ba B) :
    Calls Try.prog 4 #[.int .i64 n, .int .i64 f, .agg #[.int .i64 s, .slice ha H.length hc, .slice aa A.length ac, .slice ba B.length bc]] w fun e w' => e = .returned (.bool true) ∧ Below w.heap.size w w' := by
  by_cases h : TabOk n f
  · have ht := h
    unfold TabOk at ht
    obtain ⟨N, rfl⟩ : ∃ N : Nat, n = N := ⟨n.toNat, by omega⟩
    obtain ⟨F, rfl⟩ : ∃ F : Nat, f = F := ⟨f.toNat, by omega⟩
    exact castOne_ok N F s ha aa ba H A B _ hc _ ac _ bc w ⟨by omega, by omega, by omega, rfl, rfl, rfl, sh, sa, sb, zh, za, zb⟩
  · exact castOne_no n f s _ _ _ h w
end Go.Proofs.Ytdfadinpeeigkaa
