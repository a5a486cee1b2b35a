/- Package wardmotelaw07: FeldAdds. -/
import Derived.Test.YtfkpbcionlidaaaDoorFsX
import Derived.Test.YtfkpbcionlidaaaDoorShX2
import Derived.Test.YtfkpbcionlidaaaDoorFuC
namespace Go.Proofs.YtfkpbcionlidaaaDoor
open Go Go.RowKit Go.Lib
def smL (L : List (List Nat)) : List Nat := if alikeB L = true ∧ allB L = true then suL L L.length else []
def smE (L : List (List Nat)) : Int := if alikeB L = true then (if allB L = true then 0 else 20) else 1
theorem smL_len (L : List (List Nat)) : (smL L).length ≤ 10 := by
  unfold smL
  split
  · next h => rw [suL_length, len0_eq (alike_ok h.1).2]; exact ((alike_ok h.1).1 _ (List.getElem_mem _)).1.2
  · exact Nat.zero_le _
theorem sum_all (a : Option Addr) (L : List (List Nat)) (c : Nat) (hl : L.length ≤ 17592186044416) (hR : ∀ row ∈ L, ∀ n ∈ row, n < R256) (w : World) (hG : GlobQ w) (hN : Rows2 w a L) :
    Calls Tryd.prog 9 #[.slice a L.length c] w fun e w' => ∃ qa qc, e = .returned (.tuple #[.slice qa (smL L).length qc, .int .i64 (smE L)]) ∧ Nums w' qa (smL L) ∧ Below w.heap.size w w' := by
  unfold smL smE
  by_cases h1 : alikeB L = true
  · refine (sum_any a L c hl h1 hR w hG hN).mono fun e w' h => ?_
    rcases h with ⟨h2, h3, h4⟩ | ⟨h2, b, h3, h4, h5⟩
    · rw [if_neg (fun q => by rw [h2] at q; exact absurd q.2 (by decide)), if_pos h1, if_neg (by rw [h2]; decide)]
      exact ⟨none, 0, h3, Nums.nil _ _, h4⟩
    · rw [if_pos ⟨h1, h2⟩, if_pos h1, if_pos h2, suL_length]
      exact ⟨_, _, h3, h4, h5⟩
  · rw [if_neg (fun q => h1 q.1), if_neg h1]
    exact (sum_bad a L c hl (by simpa using h1) w hN).mono fun e w' ⟨h, k⟩ => ⟨none, 0, h, Nums.nil _ _, k⟩
theorem numsA_of {w : World} {a : Option Addr} {l : List Nat} (h : NumsAt w a l) : Nums w a l := fun j n hj => by
  obtain ⟨b, o, h1, h2⟩ := h j n hj
  refine ⟨b, o, h1, fun i hi => ?_, h2.lt⟩
  have : i = 0 ∨ i = 1 ∨ i = 2 ∨ i = 3 := by omega
  rcases this with rfl | rfl | rfl | rfl
  · exact h2.c0
  · exact h2.c1
  · exact h2.c2
  · exact h2.c3
theorem com_ok (l : List Nat) (n : Nat) (a : Option Addr) (kc : Nat) (hn : n = l.length) (h1 : 1 ≤ n ∧ n ≤ 10) (hq : allQ l = true) (w : World) (hG : GA w) (hN : Nums w a l) :
    Calls Tryd.prog 11 #[.slice a n kc] w fun e w' => ∃ b, e = .returned (.tuple #[.slice b n n, .int .i64 0]) ∧ PtsAt w' b (l.map fun k => gr.mul k gG) ∧ Below w.heap.size w w' := by
  have hE : atE l 0 = 0 := by unfold atE; rw [← hn, if_pos h1, if_pos ⟨hq, QQ_pos⟩]
  refine (fcom_any l n a kc hn (fun k hk => Nat.lt_trans (allQ_mem hq hk) FM_Q.2.1) w hG hN).mono ?_
  rintro e w' ⟨⟨b, c, he, hp, -⟩, hb⟩
  obtain ⟨rfl, hp2⟩ := hp hE
  rw [hE] at he
  exact ⟨b, he, hp2, hb⟩
theorem rows_two {w : World} (a0 a1 : Option Addr) (l0 l1 : List Nat) (n0 n1 c0 c1 : Nat) (t : TypeId) (h0 : n0 = l0.length) (h1 : n1 = l1.length) (k0 : Nums w a0 l0) (k1 : Nums w a1 l1) : Rows2 (w.alloc (.cells #[.slice a0 n0 c0, .slice a1 n1 c1] t)) (some ⟨w.heap.size, 0, none⟩) [l0, l1] := fun j row hj => by
  have hb : Below w.heap.size w (w.alloc (.cells #[.slice a0 n0 c0, .slice a1 n1 c1] t)) := below_alloc0 (Below.refl _ _) _
  match j, hj with
  | 0, hj =>
    simp at hj
    subst hj
    exact ⟨w.heap.size, 0, a0, c0, rfl, by rw [← h0]; simp [go_sem], k0.call hb, by simp⟩
  | 1, hj =>
    simp at hj
    subst hj
    exact ⟨w.heap.size, 0, a1, c1, rfl, by rw [← h1]; simp [go_sem], k1.call hb, by simp⟩
  | j + 2, hj => simp at hj
theorem rowsP_two {w : World} (a0 a1 : Option Addr) (l0 l1 : List Pts) (n c0 c1 : Nat) (t : TypeId) (h0 : n = l0.length) (h1 : n = l1.length) (k0 : PtsAt w a0 l0) (k1 : PtsAt w a1 l1) : RowsP (w.alloc (.cells #[.slice a0 n c0, .slice a1 n c1] t)) (some ⟨w.heap.size, 0, none⟩) [l0, l1] := fun j row hj => by
  have hb : Below w.heap.size w (w.alloc (.cells #[.slice a0 n c0, .slice a1 n c1] t)) := below_alloc0 (Below.refl _ _) _
  match j, hj with
  | 0, hj =>
    simp at hj
    subst hj
    exact ⟨w.heap.size, 0, a0, c0, rfl, by rw [← h0]; simp [go_sem], k0.call hb, by simp⟩
  | 1, hj =>
    simp at hj
    subst hj
    exact ⟨w.heap.size, 0, a1, c1, rfl, by rw [← h1]; simp [go_sem], k1.call hb, by simp⟩
  | j + 2, hj => simp at hj
theorem totC_two (A B : List Pts) (i : Nat) : totC [A, B] i = gr.add (A.getD i gr.z) (B.getD i gr.z) := by
  show gr.add (gr.mul 1 gr.z) (gr.add (gr.mul 1 (A.getD i gr.z)) (gr.add (gr.mul 1 (B.getD i gr.z)) gr.z)) = _
  rw [gr.one, gr.one, gr.one, gr.zero, gr.zero']
theorem map_getD (l : List Nat) (i : Nat) (h : i < l.length) : (l.map fun k => gr.mul k gG).getD i gr.z = gr.mul (l[i]?.getD 0) gG := by
  rw [List.getD_eq_getElem?_getD, List.getElem?_map, List.getElem?_eq_getElem h]
  rfl
/-- The commitments of a sum are the sums of the commitments. -/
theorem adds_eq (l0 l1 : List Nat) (h : l0.length = l1.length) : (suL [l0, l1] 2).map (fun k => gr.mul k gG) = (List.range l0.length).map fun i => totC [l0.map fun k => gr.mul k gG, l1.map fun k => gr.mul k gG] i := by
  unfold suL
  rw [List.map_map]
  refine List.map_congr_left fun i hi => ?_
  have hi' : i < l0.length := List.mem_range.1 hi
  rw [totC_two, map_getD l0 i hi', map_getD l1 i (by rw [← h]; exact hi')]
  show gr.mul (((0 + l0[i]?.getD 0) % QQ + l1[i]?.getD 0) % QQ) gG = _
  rw [fmod, gr.mul_add, fmod, Nat.zero_add]
theorem sm_three (L : List (List Nat)) : smE L = 0 ∨ smE L = 1 ∨ smE L = 20 := by
  unfold smE
  split
  · split
    · exact .inl rfl
    · exact .inr (.inr rfl)
  · exact .inr (.inl rfl)
set_option maxRecDepth 100000 in
set_option maxHeartbeats 4000000 in
theorem adds_err (l0 l1 : List Nat) (a0 a1 : Option Addr) (n0 n1 c0 c1 : Nat) (E : Int) (h0 : n0 = l0.length) (h1 : n1 = l1.length) (hR : ∀ row ∈ [l0, l1], ∀ n ∈ row, n < R256) (hE : smE [l0, l1] = E) (hE0 : E ≠ 0) (w : World) (hG : GA w) (k0 : Nums w a0 l0) (k1 : Nums w a1 l1) :
    Calls Tryd.prog 4 #[.slice a0 n0 c0, .slice a1 n1 c1] w fun e w' => e = .returned (.bool true) ∧ Below w.heap.size w w' := by
  have KS : Hid (∀ (b : Nat) (w : World), GlobQ w → Rows2 w (some ⟨b, 0, none⟩) [l0, l1] → Calls Tryd.prog 9 #[.slice (some ⟨b, 0, none⟩) 2 2] w fun e w' => ∃ qa qn qc, e = .returned (.tuple #[.slice qa qn qc, .int .i64 E]) ∧ Below w.heap.size w w') := fun b w g h => by
    have k := sum_all (some ⟨b, 0, none⟩) [l0, l1] 2 (by simp) hR w g h
    rw [hE] at k
    refine k.mono ?_
    rintro e w' ⟨qa, qc, h1, -, h3⟩
    exact ⟨qa, _, qc, h1, h3⟩
  have KL : Hid _ := line_ok
  have HB : Hid (Rows2 (w.alloc (.cells #[.slice a0 n0 c0, .slice a1 n1 c1] 32)) (some ⟨w.heap.size, 0, none⟩) [l0, l1] ∧ GA w) := ⟨rows_two a0 a1 l0 l1 n0 n1 c0 c1 _ h0 h1 k0 k1, hG⟩
  have e1 : (E != 0) = true := by simpa using hE0
  have e2 : (E == 0) = false := by simpa using hE0
  have e3 : decide (E = 0) = false := decide_eq_false hE0
  clear h0 h1 hR hE hE0 hG k0 k1
  go_enter Tryd.func4, Tryd.ntmps4
  go_wp2_with fail
  refine (KS.out _ _ (HB.out.2.call (below_alloc0 (Below.refl _ _) _)).2.1 HB.out.1).mono ?_
  rintro e w2 ⟨qa, qn, qc, rfl, hb2⟩
  have H2 : Hid (Below w.heap.size w w2 ∧ GA w2) := ⟨below_call0 (below_alloc0 (Below.refl _ _) _) hb2, HB.out.2.call (below_call0 (below_alloc0 (Below.refl _ _) _) hb2)⟩
  clear hb2 HB KS
  go_wp2_with fail
  refine (KL.out _ H2.out.2).mono ?_
  rintro e w3 ⟨rfl, hb3⟩
  have H3 : Hid (Below w.heap.size w w3) := below_call0 H2.out.1 hb3
  clear hb3 KL H2
  go_wp2_with fail
  go_ret
  exact ⟨rfl, H3.out⟩
set_option maxRecDepth 100000 in
set_option maxHeartbeats 4000000 in
theorem adds_in (l0 l1 : List Nat) (a0 a1 : Option Addr) (n c0 c1 : Nat) (h0 : n = l0.length) (h1 : n = l1.length) (h10 : 1 ≤ n ∧ n ≤ 10) (q0 : allQ l0 = true) (q1 : allQ l1 = true) (hE : smE [l0, l1] = 0) (hL : smL [l0, l1] = suL [l0, l1] 2) (w : World) (hG : GA w) (k0 : Nums w a0 l0) (k1 : Nums w a1 l1) :
    Calls Tryd.prog 4 #[.slice a0 n c0, .slice a1 n c1] w fun e w' => e = .returned (.bool true) ∧ Below w.heap.size w w' := by
  obtain ⟨P, hP⟩ : ∃ P, P = suL [l0, l1] 2 := ⟨_, rfl⟩
  have hPl : n = P.length := by rw [hP, suL_length]; exact h0
  have hPq : allQ P = true := by rw [hP]; exact suL_all _ _
  have hR : ∀ row ∈ [l0, l1], ∀ n ∈ row, n < R256 := fun row hrow n hn => by
    have hq : allQ row = true := by
      simp only [List.mem_cons, List.not_mem_nil, or_false] at hrow
      rcases hrow with rfl | rfl
      · exact q0
      · exact q1
    exact Nat.lt_trans (allQ_mem hq hn) FM_Q.2.1
  have KS : Hid (∀ (b : Nat) (w : World), GlobQ w → Rows2 w (some ⟨b, 0, none⟩) [l0, l1] → Calls Tryd.prog 9 #[.slice (some ⟨b, 0, none⟩) 2 2] w fun e w' => ∃ qa qc, e = .returned (.tuple #[.slice qa n qc, .int .i64 0]) ∧ Nums w' qa P ∧ Below w.heap.size w w') := fun b w g h => by
    have k := sum_all (some ⟨b, 0, none⟩) [l0, l1] 2 (by simp) hR w g h
    rw [hE, hL, ← hP, ← hPl] at k
    exact k
  have KQ : Hid (∀ w, Nums w a0 l0 → Calls Tryd.prog 10 #[.slice a0 n c0] w fun e w' => e = .returned (.bool true) ∧ Below w.heap.size w w') := fun w h => by
    have k := scal2_all a0 l0 c0 (by omega) (hR l0 (by simp)) w h
    rw [q0, ← h0] at k
    exact k
  have KA : Hid _ := com_ok l0 n a0 c0 h0 h10 q0
  have KB : Hid _ := com_ok l1 n a1 c1 h1 h10 q1
  have KP : Hid (∀ (a : Option Addr) (c : Nat) (w : World), GA w → Nums w a P → Calls Tryd.prog 11 #[.slice a n c] w fun e w' => ∃ b, e = .returned (.tuple #[.slice b n n, .int .i64 0]) ∧ PtsAt w' b (P.map fun k => gr.mul k gG) ∧ Below w.heap.size w w') := fun a c w h2 h3 => com_ok P n a c hPl h10 hPq w h2 h3
  obtain ⟨A, hA⟩ : ∃ A, A = l0.map fun k => gr.mul k gG := ⟨_, rfl⟩
  obtain ⟨B, hB⟩ : ∃ B, B = l1.map fun k => gr.mul k gG := ⟨_, rfl⟩
  obtain ⟨S, hS⟩ : ∃ S, S = P.map fun k => gr.mul k gG := ⟨_, rfl⟩
  have hAl : n = A.length := by rw [hA, List.length_map]; exact h0
  have hBl : n = B.length := by rw [hB, List.length_map]; exact h1
  have KT : Hid (∀ (b : Nat) (w : World), GA w → RowsP w (some ⟨b, 0, none⟩) [A, B] → Calls Tryd.prog 6 #[.slice (some ⟨b, 0, none⟩) 2 2] w fun e w' => ∃ q, e = .returned (.tuple #[.slice (some ⟨q, 0, none⟩) n n, .int .i64 0]) ∧ PtsAt w' (some ⟨q, 0, none⟩) S ∧ Below w.heap.size w w') := fun b w g h => by
    have k := fsum_ok [A, B] 2 n b 0 2 rfl (by decide) (by decide) (by decide) (fun s hs => by
      simp only [List.mem_cons, List.not_mem_nil, or_false] at hs
      rcases hs with rfl | rfl
      · exact hAl.symm
      · exact hBl.symm) h10 w g h
    have e : ((List.range n).map fun i => totC [A, B] i) = S := by
      rw [hS, hP, adds_eq l0 l1 (by omega), hA, hB, ← h0]
    rw [e] at k
    exact k
  have KE : Hid (∀ (a b : Option Addr) (w : World), PtsAt w a S → PtsAt w b S → Calls Tryd.prog 8 #[.slice a n n, .slice b n n] w fun e w' => e = .returned (.bool true) ∧ Below w.heap.size w w') := fun a b w h2 h3 => points_same a b S n n n (by rw [hS, List.length_map]; exact hPl) h10.2 w h2 h3
  have KL : Hid _ := line_ok
  rw [← hA] at KA
  rw [← hB] at KB
  rw [← hS] at KP
  have HB : Hid (Rows2 (w.alloc (.cells #[.slice a0 n c0, .slice a1 n c1] 32)) (some ⟨w.heap.size, 0, none⟩) [l0, l1] ∧ GA w ∧ Nums w a0 l0 ∧ Nums w a1 l1 ∧ n = A.length ∧ n = B.length) := ⟨rows_two a0 a1 l0 l1 n n c0 c1 _ h0 h1 k0 k1, hG, k0, k1, hAl, hBl⟩
  clear h0 h1 hR hE hG k0 k1 hL hP hPl hPq hA hB hS hAl hBl q0 q1 h10
  go_enter Tryd.func4, Tryd.ntmps4
  go_wp2_with fail
  refine (KS.out _ _ (HB.out.2.1.call (below_alloc0 (Below.refl _ _) _)).2.1 HB.out.1).mono ?_
  rintro e w2 ⟨qa, qc, rfl, hp2, hb2⟩
  have hbb : Below w.heap.size w w2 := below_call0 (below_alloc0 (Below.refl _ _) _) hb2
  have H2 : Hid (Below w.heap.size w w2 ∧ GA w2 ∧ Nums w2 a0 l0 ∧ Nums w2 a1 l1 ∧ Nums w2 qa P ∧ n = A.length ∧ n = B.length) := ⟨hbb, HB.out.2.1.call hbb, HB.out.2.2.1.call hbb, HB.out.2.2.2.1.call hbb, hp2, HB.out.2.2.2.2⟩
  clear hb2 hbb hp2 HB KS
  go_wp2_with fail
  refine (KQ.out _ H2.out.2.2.1).mono ?_
  rintro e w3 ⟨rfl, hb3⟩
  have H3 : Hid (Below w.heap.size w w3 ∧ GA w3 ∧ Nums w3 a0 l0 ∧ Nums w3 a1 l1 ∧ Nums w3 qa P ∧ n = A.length ∧ n = B.length) := ⟨below_call0 H2.out.1 hb3, H2.out.2.1.call hb3, H2.out.2.2.1.call hb3, H2.out.2.2.2.1.call hb3, H2.out.2.2.2.2.1.call hb3, H2.out.2.2.2.2.2⟩
  clear hb3 H2 KQ
  go_wp2_with fail
  refine (KA.out _ H3.out.2.1 H3.out.2.2.1).mono ?_
  rintro e w4 ⟨b0, rfl, hp4, hb4⟩
  have H4 : Hid (Below w.heap.size w w4 ∧ GA w4 ∧ PtsAt w4 b0 A ∧ Nums w4 a1 l1 ∧ Nums w4 qa P ∧ n = A.length ∧ n = B.length) := ⟨below_call0 H3.out.1 hb4, H3.out.2.1.call hb4, hp4, H3.out.2.2.2.1.call hb4, H3.out.2.2.2.2.1.call hb4, H3.out.2.2.2.2.2⟩
  clear hb4 hp4 H3 KA
  go_wp2_with fail
  refine (KB.out _ H4.out.2.1 H4.out.2.2.2.1).mono ?_
  rintro e w5 ⟨b1, rfl, hp5, hb5⟩
  have H5 : Hid (Below w.heap.size w w5 ∧ GA w5 ∧ PtsAt w5 b0 A ∧ PtsAt w5 b1 B ∧ Nums w5 qa P ∧ n = A.length ∧ n = B.length) := ⟨below_call0 H4.out.1 hb5, H4.out.2.1.call hb5, H4.out.2.2.1.call hb5, hp5, H4.out.2.2.2.2.1.call hb5, H4.out.2.2.2.2.2⟩
  clear hb5 hp5 H4 KB
  go_wp2_with fail
  refine (KP.out _ _ _ H5.out.2.1 H5.out.2.2.2.2.1).mono ?_
  rintro e w6 ⟨b2, rfl, hp6, hb6⟩
  have H6 : Hid (Below w.heap.size w w6 ∧ GA w6 ∧ PtsAt w6 b2 S ∧ RowsP (w6.alloc (.cells #[.slice b0 n n, .slice b1 n n] 24)) (some ⟨w6.heap.size, 0, none⟩) [A, B]) := ⟨below_call0 H5.out.1 hb6, H5.out.2.1.call hb6, hp6, rowsP_two b0 b1 A B n n n _ H5.out.2.2.2.2.2.1 H5.out.2.2.2.2.2.2 (H5.out.2.2.1.call hb6) (H5.out.2.2.2.1.call hb6)⟩
  clear hb6 hp6 H5 KP
  go_wp2_with fail
  refine (KT.out _ _ (H6.out.2.1.call (below_alloc0 (Below.refl _ _) _)) H6.out.2.2.2).mono ?_
  rintro e w7 ⟨q, rfl, hp7, hb7⟩
  have hbb : Below w6.heap.size w6 w7 := below_call0 (below_alloc0 (Below.refl _ _) _) hb7
  have H7 : Hid (Below w.heap.size w w7 ∧ GA w7 ∧ PtsAt w7 b2 S ∧ PtsAt w7 (some ⟨q, 0, none⟩) S) := ⟨below_call0 H6.out.1 hbb, H6.out.2.1.call hbb, H6.out.2.2.1.call hbb, hp7⟩
  clear hb7 hbb hp7 H6 KT
  go_wp2_with fail
  refine (KE.out _ _ _ H7.out.2.2.1 H7.out.2.2.2).mono ?_
  rintro e w8 ⟨rfl, hb8⟩
  have H8 : Hid (Below w.heap.size w w8 ∧ GA w8) := ⟨below_call0 H7.out.1 hb8, H7.out.2.1.call hb8⟩
  clear hb8 H7 KE
  go_wp2_with fail
  refine (KL.out _ H8.out.2).mono ?_
  rintro e w9 ⟨rfl, hb9⟩
  have H9 : Hid (Below w.heap.size w w9) := below_call0 H8.out.1 hb9
  clear hb9 H8 KL
  go_wp2_with fail
  go_ret
  exact ⟨rfl, H9.out⟩
theorem feldAdds_any (l0 l1 : List Nat) (a0 a1 : Option Addr) (c0 c1 : Nat) (hR0 : ∀ k ∈ l0, k < R256) (hR1 : ∀ k ∈ l1, k < R256) (w : World) (hG : GA w) (k0 : NumsAt w a0 l0) (k1 : NumsAt w a1 l1) :
    Calls Tryd.prog 4 #[.slice a0 l0.length c0, .slice a1 l1.length c1] w fun e w' => e = .returned (.bool true) ∧ Below w.heap.size w w' := by
  have m0 := numsA_of k0
  have m1 := numsA_of k1
  have hR : ∀ row ∈ [l0, l1], ∀ n ∈ row, n < R256 := fun row hrow n hn => by
    simp only [List.mem_cons, List.not_mem_nil, or_false] at hrow
    rcases hrow with rfl | rfl
    · exact hR0 n hn
    · exact hR1 n hn
  rcases sm_three [l0, l1] with hE | hE | hE
  · have h1 : alikeB [l0, l1] = true := by
      by_cases c : alikeB [l0, l1] = true
      · exact c
      · unfold smE at hE
        rw [if_neg c] at hE
        cases hE
    have h2 : allB [l0, l1] = true := by
      by_cases c : allB [l0, l1] = true
      · exact c
      · unfold smE at hE
        rw [if_pos h1, if_neg c] at hE
        cases hE
    have hA := (alike_ok h1).1
    have a0' := hA l0 (by simp)
    have a1' := hA l1 (by simp)
    have e : l1.length = l0.length := by rw [a1'.2, ← a0'.2]
    have q0 : allQ l0 = true := List.all_eq_true.1 h2 l0 (by simp)
    have q1 : allQ l1 = true := List.all_eq_true.1 h2 l1 (by simp)
    rw [e]
    exact adds_in l0 l1 a0 a1 l0.length c0 c1 rfl e.symm a0'.1 q0 q1 hE (by unfold smL; rw [if_pos ⟨h1, h2⟩]; rfl) w hG m0 m1
  · exact adds_err l0 l1 a0 a1 _ _ c0 c1 1 rfl rfl hR hE (by decide) w hG m0 m1
  · exact adds_err l0 l1 a0 a1 _ _ c0 c1 20 rfl rfl hR hE (by decide) w hG m0 m1
end Go.Proofs.YtfkpbcionlidaaaDoor
