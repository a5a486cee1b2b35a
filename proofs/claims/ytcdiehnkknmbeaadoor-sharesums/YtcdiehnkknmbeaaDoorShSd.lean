/- Share: the law ShareSums. -/
import Derived.Test.YtcdiehnkknmbeaaDoorShSc
import Derived.Test.YtcdiehnkknmbeaaDoorHeldN
namespace Go.Proofs.YtcdiehnkknmbeaaDoor
open Go Go.RowKit Go.Lib

attribute [local go_sem] run_eq4
theorem evI_addm (q : Nat) (x : Int) (a b : Nat → Nat) : ∀ is : List Nat, CZ q (evI (ints (is.map fun i => (a i + b i) % q)) x) (evI (ints (is.map a)) x + evI (ints (is.map b)) x)
  | [] => CZ.of_eq (by simp [ints, evI])
  | i :: is => by
    have ih := evI_addm q x a b is
    show CZ q (((a i + b i) % q : Nat) + x * evI (ints (is.map fun i => (a i + b i) % q)) x) (((a i : Nat) : Int) + x * evI (ints (is.map a)) x + (((b i : Nat) : Int) + x * evI (ints (is.map b)) x))
    refine CZ.trans ((cz_mod (a i + b i) q).add ((CZ.refl q x).mul ih)) (CZ.of_eq ?_)
    rw [Int.natCast_add]
    generalize evI (ints (is.map a)) x = A
    generalize evI (ints (is.map b)) x = B
    grind
theorem row_map (row : List Nat) : (List.range row.length).map (fun i => row[i]?.getD 0) = row := by
  refine List.ext_getElem (by simp) fun i h1 h2 => ?_
  simp [List.getElem?_eq_getElem h2]
/-- The sum of the values. -/
def suE (L : List (List Nat)) (y : Nat) : Nat → Nat
  | 0 => 0
  | k + 1 => (suE L y k + hoN QQ y (L[k]?.getD [])) % QQ
theorem suE_lt (L : List (List Nat)) (y k : Nat) : suE L y k < QQ := by
  cases k with
  | zero => exact QQ_pos
  | succ k => exact Nat.mod_lt _ QQ_pos
theorem suE_cz {L : List (List Nat)} (hA : AlikeP (len0 L) L) (y : Nat) : ∀ k, k ≤ L.length → CZ QQ (suE L y k : Nat) (evI (ints (suL L k)) (y : Nat))
  | 0, _ => by
    refine CZ.of_eq ?_
    have e : ∀ is : List Nat, evI (ints (is.map fun i => suC L i 0)) (y : Nat) = 0 := by
      intro is
      induction is with
      | nil => rfl
      | cons i is ih =>
        show ((0 : Nat) : Int) + (y : Int) * evI (ints (is.map fun i => suC L i 0)) (y : Nat) = 0
        rw [ih, Int.mul_zero]
        rfl
    exact (e _).symm
  | k + 1, hk => by
    have ih := suE_cz hA y k (by omega)
    have hkl : k < L.length := by omega
    have e1 : L[k]?.getD [] = (L[k]'hkl) := by rw [List.getElem?_eq_getElem hkl]; rfl
    have hlen : len0 L = (L[k]'hkl).length := ((hA _ (List.getElem_mem hkl)).2).symm
    have h2 := evI_addm QQ (y : Nat) (fun i => suC L i k) (fun i => (L[k]'hkl)[i]?.getD 0) (List.range (len0 L))
    have e2 : (List.range (len0 L)).map (fun i => (L[k]'hkl)[i]?.getD 0) = (L[k]'hkl) := by rw [hlen]; exact row_map _
    have e3 : suL L (k + 1) = (List.range (len0 L)).map fun i => (suC L i k + (L[k]'hkl)[i]?.getD 0) % QQ := by
      unfold suL
      refine List.map_congr_left fun i _ => ?_
      show (suC L i k + (L[k]?.getD [])[i]?.getD 0) % QQ = _
      rw [e1]
    rw [e2] at h2
    rw [e3]
    refine CZ.trans ?_ h2.symm
    show CZ QQ ((suE L y k + hoN QQ y (L[k]?.getD [])) % QQ : Nat) _
    rw [e1]
    refine (cz_mod _ QQ).trans ?_
    rw [Int.natCast_add]
    exact ih.add (hoN_cz QQ y _)
theorem suE_eq {L : List (List Nat)} (hA : AlikeP (len0 L) L) (y : Nat) : suE L y L.length = hoN QQ y (suL L L.length) :=
  cz_eq (suE_lt _ _ _) (hoN_lt _ _ QQ_pos _) ((suE_cz hA y _ (Nat.le_refl _)).trans (hoN_cz QQ y _).symm)
def smL (L : List (List Nat)) : List Nat := if alikeB L = true ∧ allB L = true then suL L L.length else []
def smE (L : List (List Nat)) : Int := if alikeB L = true then (if allB L = true then 0 else 20) else 1
theorem smL_len (L : List (List Nat)) : (smL L).length ≤ 10 := by
  unfold smL
  split
  · next h => rw [suL_length, len0_eq (alike_ok h.1).2]; exact ((alike_ok h.1).1 _ (List.getElem_mem _)).1.2
  · exact Nat.zero_le _
theorem sum_all (a : Option Addr) (L : List (List Nat)) (c : Nat) (hl : L.length ≤ 17592186044416) (hR : ∀ row ∈ L, ∀ n ∈ row, n < R256) (w : World) (hG : GlobQ w) (hN : Rows2 w a L) :
    Calls Tryd.prog 20 #[.slice a L.length c] w fun e w' => ∃ qa qc, e = .returned (.tuple #[.slice qa (smL L).length qc, .int .i64 (smE L)]) ∧ Nums w' qa (smL L) ∧ Below w.heap.size w w' := by
  unfold smL smE
  by_cases h1 : alikeB L = true
  · refine (sum_any a L c hl h1 hR w hG hN).mono fun e w' h => ?_
    rcases h with ⟨h2, h3, h4⟩ | ⟨h2, b, h3, h4, h5⟩
    · rw [if_neg (fun q => by rw [h2] at q; exact absurd q.2 (by decide)), if_pos h1, if_neg (by rw [h2]; decide)]
      exact ⟨none, 0, h3, Nums.nil _ _, h4⟩
    · rw [if_pos ⟨h1, h2⟩, if_pos h1, if_pos h2, suL_length]
      exact ⟨_, _, h3, h4, h5⟩
  · rw [if_neg (fun q => h1 q.1), if_neg h1]
    exact (sum_bad a L c hl (by simpa using h1) w hN).mono fun e w' ⟨h, k⟩ => ⟨none, 0, h, Nums.nil _ _, k⟩
theorem ref_sum_all (a : Option Addr) (L : List (List Nat)) (c : Nat) (hl : L.length ≤ 17592186044416) (hR : ∀ row ∈ L, ∀ n ∈ row, n < R256) (w : World) (hN : Rows2 w a L) :
    Calls Tryd.prog 21 #[.slice a L.length c] w fun e w' => ∃ qa qc, e = .returned (.tuple #[.slice qa (smL L).length qc, .int .i64 (smE L)]) ∧ Nums w' qa (smL L) ∧ Below w.heap.size w w' := by
  by_cases h0 : 0 < L.length
  · unfold smL smE
    refine (ref_sum_any a L c hl h0 hR w hN).mono fun e w' h => ?_
    rcases h with ⟨h1, h3, h4⟩ | ⟨h1, h2, h3, h4⟩ | ⟨h1, h2, b, h3, h4, h5⟩
    · rw [if_neg (fun q => by rw [h1] at q; exact absurd q.1 (by decide)), if_neg (by rw [h1]; decide)]
      exact ⟨none, 0, h3, Nums.nil _ _, h4⟩
    · rw [if_neg (fun q => by rw [h2] at q; exact absurd q.2 (by decide)), if_pos h1, if_neg (by rw [h2]; decide)]
      exact ⟨none, 0, h3, Nums.nil _ _, h4⟩
    · rw [if_pos ⟨h1, h2⟩, if_pos h1, if_pos h2, suL_length]
      exact ⟨_, _, h3, h4, h5⟩
  · obtain rfl : L = [] := List.eq_nil_of_length_eq_zero (by omega)
    have e1 : smL [] = [] := by decide
    have e2 : smE [] = 1 := by decide
    rw [e1, e2]
    exact (ref_sum_nil a c w).mono fun e w' ⟨h, k⟩ => ⟨none, 0, h, Nums.nil _ _, k⟩
set_option maxRecDepth 100000 in
set_option maxHeartbeats 8000000 in
theorem ss_long (a : Option Addr) (n c : Nat) (x : Int) (h : 40 < n) (w : World) (hG : GlobQ w) :
    Calls Tryd.prog 6 #[.slice a n c, .int .i64 x] w fun e w' => e = .returned (.bool true) ∧ Below w.heap.size w w' := by
  have KL : Hid (∀ w, GlobQ w → Calls Tryd.prog 13 #[] w fun e w' => e = .returned (.bool true) ∧ Below w.heap.size w w') := fun w h => line_any w h
  have H0 : Hid (GlobQ w) := hG
  have h' : (40 : Int) < (n : Int) := by omega
  clear hG h
  go_enter Tryd.func6, Tryd.ntmps6
  go_wp2_with fail
  refine (KL.out _ H0.out).mono ?_
  rintro e w30 ⟨rfl, hb30⟩
  have H30 : Hid (Below w.heap.size w w30) := hb30
  clear hb30
  go_wp2_with fail
  go_ret
  exact ⟨rfl, H30.out⟩
set_option maxRecDepth 100000 in
set_option maxHeartbeats 16000000 in
theorem ss_err20 (a : Option Addr) (L : List (List Nat)) (c : Nat) (x : Int) (h40 : L.length ≤ 40) (hR : ∀ row ∈ L, ∀ n ∈ row, n < R256) (hE : smE L = 20) (w : World) (hG : GlobQ w) (hN : Rows2 w a L) :
    Calls Tryd.prog 6 #[.slice a L.length c, .int .i64 x] w fun e w' => e = .returned (.bool true) ∧ Below w.heap.size w w' := by
  obtain ⟨n, hn⟩ : ∃ n, n = L.length := ⟨_, rfl⟩
  obtain ⟨s, hs⟩ : ∃ s, s = (smL L).length := ⟨_, rfl⟩
  have K1 : Hid (∀ w, GlobQ w → Rows2 w a L → Calls Tryd.prog 20 #[.slice a n c] w fun e w' => ∃ qa qc, e = .returned (.tuple #[.slice qa s qc, .int .i64 20]) ∧ Nums w' qa (smL L) ∧ Below w.heap.size w w') := fun w h1 h2 => by rw [hn, hs, ← hE]; exact sum_all a L c (by omega) hR w h1 h2
  have K2 : Hid (∀ w, Rows2 w a L → Calls Tryd.prog 21 #[.slice a n c] w fun e w' => ∃ qa qc, e = .returned (.tuple #[.slice qa s qc, .int .i64 20]) ∧ Nums w' qa (smL L) ∧ Below w.heap.size w w') := fun w h2 => by rw [hn, hs, ← hE]; exact ref_sum_all a L c (by omega) hR w h2
  have K3 : Hid (∀ (a b : Option Addr) (ca cb : Nat) (w : World), Nums w a (smL L) → Nums w b (smL L) → Calls Tryd.prog 17 #[.slice a s ca, .slice b s cb] w fun e w' => e = .returned (.bool true) ∧ Below w.heap.size w w') := fun a b ca cb w h1 h2 => by rw [hs]; exact nums_same a b _ ca cb (Nat.le_trans (smL_len L) (by decide)) w h1 h2
  have KL : Hid (∀ w, GlobQ w → Calls Tryd.prog 13 #[] w fun e w' => e = .returned (.bool true) ∧ Below w.heap.size w w') := fun w h => line_any w h
  have H0 : Hid (GlobQ w ∧ Rows2 w a L ∧ n = L.length ∧ s = (smL L).length) := ⟨hG, hN, hn, hs⟩
  have n40 : (n : Int) ≤ 40 := by omega
  have n40' : ¬ ((40 : Int) < (n : Int)) := by omega

  rw [← hn]
  clear hn hs h40 hR hG hN hE
  go_enter Tryd.func6, Tryd.ntmps6
  go_wp2_with fail
  refine (K1.out _ H0.out.1 H0.out.2.1).mono ?_
  rintro e w1 ⟨qa, qc, rfl, hq, hb1⟩
  have H1 : Hid (Below w.heap.size w w1 ∧ Nums w1 qa (smL L)) := ⟨hb1, hq⟩
  clear hb1 hq K1
  go_wp2_with fail
  refine (K2.out _ (H0.out.2.1.call H1.out.1)).mono ?_
  rintro e w2 ⟨ra, rc, rfl, hq, hb2⟩
  have H2 : Hid (Below w.heap.size w w2 ∧ Nums w2 qa (smL L) ∧ Nums w2 ra (smL L)) := ⟨below_call0 H1.out.1 hb2, H1.out.2.call hb2, hq⟩
  clear hb2 hq K2 H1
  go_wp2_with fail
  refine (K3.out _ _ _ _ _ H2.out.2.1 H2.out.2.2).mono ?_
  rintro e w3 ⟨rfl, hb3⟩
  have H3 : Hid (Below w.heap.size w w3 ∧ Nums w3 qa (smL L)) := ⟨below_call0 H2.out.1 hb3, H2.out.2.1.call hb3⟩
  clear hb3 K3 H2
  go_wp2_with fail
  refine (KL.out _ (H0.out.1.call H3.out.1)).mono ?_
  rintro e w30 ⟨rfl, hb30⟩
  have H30 : Hid (Below w.heap.size w w30) := below_call0 H3.out.1 hb30
  clear hb30
  go_wp2_with fail
  go_ret
  exact ⟨rfl, H30.out⟩
set_option maxRecDepth 100000 in
set_option maxHeartbeats 16000000 in
theorem ss_err1 (a : Option Addr) (L : List (List Nat)) (c : Nat) (x : Int) (h40 : L.length ≤ 40) (hR : ∀ row ∈ L, ∀ n ∈ row, n < R256) (hE : smE L = 1) (w : World) (hG : GlobQ w) (hN : Rows2 w a L) :
    Calls Tryd.prog 6 #[.slice a L.length c, .int .i64 x] w fun e w' => e = .returned (.bool true) ∧ Below w.heap.size w w' := by
  obtain ⟨n, hn⟩ : ∃ n, n = L.length := ⟨_, rfl⟩
  obtain ⟨s, hs⟩ : ∃ s, s = (smL L).length := ⟨_, rfl⟩
  have K1 : Hid (∀ w, GlobQ w → Rows2 w a L → Calls Tryd.prog 20 #[.slice a n c] w fun e w' => ∃ qa qc, e = .returned (.tuple #[.slice qa s qc, .int .i64 1]) ∧ Nums w' qa (smL L) ∧ Below w.heap.size w w') := fun w h1 h2 => by rw [hn, hs, ← hE]; exact sum_all a L c (by omega) hR w h1 h2
  have K2 : Hid (∀ w, Rows2 w a L → Calls Tryd.prog 21 #[.slice a n c] w fun e w' => ∃ qa qc, e = .returned (.tuple #[.slice qa s qc, .int .i64 1]) ∧ Nums w' qa (smL L) ∧ Below w.heap.size w w') := fun w h2 => by rw [hn, hs, ← hE]; exact ref_sum_all a L c (by omega) hR w h2
  have K3 : Hid (∀ (a b : Option Addr) (ca cb : Nat) (w : World), Nums w a (smL L) → Nums w b (smL L) → Calls Tryd.prog 17 #[.slice a s ca, .slice b s cb] w fun e w' => e = .returned (.bool true) ∧ Below w.heap.size w w') := fun a b ca cb w h1 h2 => by rw [hs]; exact nums_same a b _ ca cb (Nat.le_trans (smL_len L) (by decide)) w h1 h2
  have KL : Hid (∀ w, GlobQ w → Calls Tryd.prog 13 #[] w fun e w' => e = .returned (.bool true) ∧ Below w.heap.size w w') := fun w h => line_any w h
  have H0 : Hid (GlobQ w ∧ Rows2 w a L ∧ n = L.length ∧ s = (smL L).length) := ⟨hG, hN, hn, hs⟩
  have n40 : (n : Int) ≤ 40 := by omega
  have n40' : ¬ ((40 : Int) < (n : Int)) := by omega

  rw [← hn]
  clear hn hs h40 hR hG hN hE
  go_enter Tryd.func6, Tryd.ntmps6
  go_wp2_with fail
  refine (K1.out _ H0.out.1 H0.out.2.1).mono ?_
  rintro e w1 ⟨qa, qc, rfl, hq, hb1⟩
  have H1 : Hid (Below w.heap.size w w1 ∧ Nums w1 qa (smL L)) := ⟨hb1, hq⟩
  clear hb1 hq K1
  go_wp2_with fail
  refine (K2.out _ (H0.out.2.1.call H1.out.1)).mono ?_
  rintro e w2 ⟨ra, rc, rfl, hq, hb2⟩
  have H2 : Hid (Below w.heap.size w w2 ∧ Nums w2 qa (smL L) ∧ Nums w2 ra (smL L)) := ⟨below_call0 H1.out.1 hb2, H1.out.2.call hb2, hq⟩
  clear hb2 hq K2 H1
  go_wp2_with fail
  refine (K3.out _ _ _ _ _ H2.out.2.1 H2.out.2.2).mono ?_
  rintro e w3 ⟨rfl, hb3⟩
  have H3 : Hid (Below w.heap.size w w3 ∧ Nums w3 qa (smL L)) := ⟨below_call0 H2.out.1 hb3, H2.out.2.1.call hb3⟩
  clear hb3 K3 H2
  go_wp2_with fail
  refine (KL.out _ (H0.out.1.call H3.out.1)).mono ?_
  rintro e w30 ⟨rfl, hb30⟩
  have H30 : Hid (Below w.heap.size w w30) := below_call0 H3.out.1 hb30
  clear hb30
  go_wp2_with fail
  go_ret
  exact ⟨rfl, H30.out⟩
set_option maxRecDepth 100000 in
set_option maxHeartbeats 16000000 in
theorem ss_low (a : Option Addr) (L : List (List Nat)) (c : Nat) (x : Int) (h40 : L.length ≤ 40) (hR : ∀ row ∈ L, ∀ n ∈ row, n < R256) (hE : smE L = 0) (hx : x < 0) (w : World) (hG : GlobQ w) (hN : Rows2 w a L) :
    Calls Tryd.prog 6 #[.slice a L.length c, .int .i64 x] w fun e w' => e = .returned (.bool true) ∧ Below w.heap.size w w' := by
  obtain ⟨n, hn⟩ : ∃ n, n = L.length := ⟨_, rfl⟩
  obtain ⟨s, hs⟩ : ∃ s, s = (smL L).length := ⟨_, rfl⟩
  have K1 : Hid (∀ w, GlobQ w → Rows2 w a L → Calls Tryd.prog 20 #[.slice a n c] w fun e w' => ∃ qa qc, e = .returned (.tuple #[.slice qa s qc, .int .i64 0]) ∧ Nums w' qa (smL L) ∧ Below w.heap.size w w') := fun w h1 h2 => by rw [hn, hs, ← hE]; exact sum_all a L c (by omega) hR w h1 h2
  have K2 : Hid (∀ w, Rows2 w a L → Calls Tryd.prog 21 #[.slice a n c] w fun e w' => ∃ qa qc, e = .returned (.tuple #[.slice qa s qc, .int .i64 0]) ∧ Nums w' qa (smL L) ∧ Below w.heap.size w w') := fun w h2 => by rw [hn, hs, ← hE]; exact ref_sum_all a L c (by omega) hR w h2
  have K3 : Hid (∀ (a b : Option Addr) (ca cb : Nat) (w : World), Nums w a (smL L) → Nums w b (smL L) → Calls Tryd.prog 17 #[.slice a s ca, .slice b s cb] w fun e w' => e = .returned (.bool true) ∧ Below w.heap.size w w') := fun a b ca cb w h1 h2 => by rw [hs]; exact nums_same a b _ ca cb (Nat.le_trans (smL_len L) (by decide)) w h1 h2
  have KL : Hid (∀ w, GlobQ w → Calls Tryd.prog 13 #[] w fun e w' => e = .returned (.bool true) ∧ Below w.heap.size w w') := fun w h => line_any w h
  have H0 : Hid (GlobQ w ∧ Rows2 w a L ∧ n = L.length ∧ s = (smL L).length) := ⟨hG, hN, hn, hs⟩
  have n40 : (n : Int) ≤ 40 := by omega
  have n40' : ¬ ((40 : Int) < (n : Int)) := by omega

  rw [← hn]
  clear hn hs h40 hR hG hN hE
  go_enter Tryd.func6, Tryd.ntmps6
  go_wp2_with fail
  refine (K1.out _ H0.out.1 H0.out.2.1).mono ?_
  rintro e w1 ⟨qa, qc, rfl, hq, hb1⟩
  have H1 : Hid (Below w.heap.size w w1 ∧ Nums w1 qa (smL L)) := ⟨hb1, hq⟩
  clear hb1 hq K1
  go_wp2_with fail
  refine (K2.out _ (H0.out.2.1.call H1.out.1)).mono ?_
  rintro e w2 ⟨ra, rc, rfl, hq, hb2⟩
  have H2 : Hid (Below w.heap.size w w2 ∧ Nums w2 qa (smL L) ∧ Nums w2 ra (smL L)) := ⟨below_call0 H1.out.1 hb2, H1.out.2.call hb2, hq⟩
  clear hb2 hq K2 H1
  go_wp2_with fail
  refine (K3.out _ _ _ _ _ H2.out.2.1 H2.out.2.2).mono ?_
  rintro e w3 ⟨rfl, hb3⟩
  have H3 : Hid (Below w.heap.size w w3 ∧ Nums w3 qa (smL L)) := ⟨below_call0 H2.out.1 hb3, H2.out.2.1.call hb3⟩
  clear hb3 K3 H2
  go_wp2_with fail
  refine (KL.out _ (H0.out.1.call H3.out.1)).mono ?_
  rintro e w30 ⟨rfl, hb30⟩
  have H30 : Hid (Below w.heap.size w w30) := below_call0 H3.out.1 hb30
  clear hb30
  go_wp2_with fail
  go_ret
  exact ⟨rfl, H30.out⟩
set_option maxRecDepth 100000 in
set_option maxHeartbeats 16000000 in
theorem ss_high (a : Option Addr) (L : List (List Nat)) (c : Nat) (x : Int) (h40 : L.length ≤ 40) (hR : ∀ row ∈ L, ∀ n ∈ row, n < R256) (hE : smE L = 0) (hx : 10 < x) (w : World) (hG : GlobQ w) (hN : Rows2 w a L) :
    Calls Tryd.prog 6 #[.slice a L.length c, .int .i64 x] w fun e w' => e = .returned (.bool true) ∧ Below w.heap.size w w' := by
  obtain ⟨n, hn⟩ : ∃ n, n = L.length := ⟨_, rfl⟩
  obtain ⟨s, hs⟩ : ∃ s, s = (smL L).length := ⟨_, rfl⟩
  have K1 : Hid (∀ w, GlobQ w → Rows2 w a L → Calls Tryd.prog 20 #[.slice a n c] w fun e w' => ∃ qa qc, e = .returned (.tuple #[.slice qa s qc, .int .i64 0]) ∧ Nums w' qa (smL L) ∧ Below w.heap.size w w') := fun w h1 h2 => by rw [hn, hs, ← hE]; exact sum_all a L c (by omega) hR w h1 h2
  have K2 : Hid (∀ w, Rows2 w a L → Calls Tryd.prog 21 #[.slice a n c] w fun e w' => ∃ qa qc, e = .returned (.tuple #[.slice qa s qc, .int .i64 0]) ∧ Nums w' qa (smL L) ∧ Below w.heap.size w w') := fun w h2 => by rw [hn, hs, ← hE]; exact ref_sum_all a L c (by omega) hR w h2
  have K3 : Hid (∀ (a b : Option Addr) (ca cb : Nat) (w : World), Nums w a (smL L) → Nums w b (smL L) → Calls Tryd.prog 17 #[.slice a s ca, .slice b s cb] w fun e w' => e = .returned (.bool true) ∧ Below w.heap.size w w') := fun a b ca cb w h1 h2 => by rw [hs]; exact nums_same a b _ ca cb (Nat.le_trans (smL_len L) (by decide)) w h1 h2
  have KL : Hid (∀ w, GlobQ w → Calls Tryd.prog 13 #[] w fun e w' => e = .returned (.bool true) ∧ Below w.heap.size w w') := fun w h => line_any w h
  have H0 : Hid (GlobQ w ∧ Rows2 w a L ∧ n = L.length ∧ s = (smL L).length) := ⟨hG, hN, hn, hs⟩
  have n40 : (n : Int) ≤ 40 := by omega
  have n40' : ¬ ((40 : Int) < (n : Int)) := by omega
  have hx0 : ¬ (x < 0) := by omega
  rw [← hn]
  clear hn hs h40 hR hG hN hE
  go_enter Tryd.func6, Tryd.ntmps6
  go_wp2_with fail
  refine (K1.out _ H0.out.1 H0.out.2.1).mono ?_
  rintro e w1 ⟨qa, qc, rfl, hq, hb1⟩
  have H1 : Hid (Below w.heap.size w w1 ∧ Nums w1 qa (smL L)) := ⟨hb1, hq⟩
  clear hb1 hq K1
  go_wp2_with fail
  refine (K2.out _ (H0.out.2.1.call H1.out.1)).mono ?_
  rintro e w2 ⟨ra, rc, rfl, hq, hb2⟩
  have H2 : Hid (Below w.heap.size w w2 ∧ Nums w2 qa (smL L) ∧ Nums w2 ra (smL L)) := ⟨below_call0 H1.out.1 hb2, H1.out.2.call hb2, hq⟩
  clear hb2 hq K2 H1
  go_wp2_with fail
  refine (K3.out _ _ _ _ _ H2.out.2.1 H2.out.2.2).mono ?_
  rintro e w3 ⟨rfl, hb3⟩
  have H3 : Hid (Below w.heap.size w w3 ∧ Nums w3 qa (smL L)) := ⟨below_call0 H2.out.1 hb3, H2.out.2.1.call hb3⟩
  clear hb3 K3 H2
  go_wp2_with fail
  refine (KL.out _ (H0.out.1.call H3.out.1)).mono ?_
  rintro e w30 ⟨rfl, hb30⟩
  have H30 : Hid (Below w.heap.size w w30) := below_call0 H3.out.1 hb30
  clear hb30
  go_wp2_with fail
  go_ret
  exact ⟨rfl, H30.out⟩
set_option maxRecDepth 100000 in
set_option maxHeartbeats 16000000 in
theorem ss_in (a : Option Addr) (L : List (List Nat)) (c : Nat) (x : Nat) (h40 : L.length ≤ 40) (hR : ∀ row ∈ L, ∀ n ∈ row, n < R256) (hE : smE L = 0) (hx : x ≤ 10) (ha : alikeB L = true) (hq : allB L = true) (w : World) (hG : GlobQ w) (hN : Rows2 w a L) :
    Calls Tryd.prog 6 #[.slice a L.length c, .int .i64 (x : Nat)] w fun e w' => e = .returned (.bool true) ∧ Below w.heap.size w w' := by
  obtain ⟨n, hn⟩ : ∃ n, n = L.length := ⟨_, rfl⟩
  obtain ⟨s, hs⟩ : ∃ s, s = (smL L).length := ⟨_, rfl⟩
  have K1 : Hid (∀ w, GlobQ w → Rows2 w a L → Calls Tryd.prog 20 #[.slice a n c] w fun e w' => ∃ qa qc, e = .returned (.tuple #[.slice qa s qc, .int .i64 0]) ∧ Nums w' qa (smL L) ∧ Below w.heap.size w w') := fun w h1 h2 => by rw [hn, hs, ← hE]; exact sum_all a L c (by omega) hR w h1 h2
  have K2 : Hid (∀ w, Rows2 w a L → Calls Tryd.prog 21 #[.slice a n c] w fun e w' => ∃ qa qc, e = .returned (.tuple #[.slice qa s qc, .int .i64 0]) ∧ Nums w' qa (smL L) ∧ Below w.heap.size w w') := fun w h2 => by rw [hn, hs, ← hE]; exact ref_sum_all a L c (by omega) hR w h2
  have K3 : Hid (∀ (a b : Option Addr) (ca cb : Nat) (w : World), Nums w a (smL L) → Nums w b (smL L) → Calls Tryd.prog 17 #[.slice a s ca, .slice b s cb] w fun e w' => e = .returned (.bool true) ∧ Below w.heap.size w w') := fun a b ca cb w h1 h2 => by rw [hs]; exact nums_same a b _ ca cb (Nat.le_trans (smL_len L) (by decide)) w h1 h2
  have KL : Hid (∀ w, GlobQ w → Calls Tryd.prog 13 #[] w fun e w' => e = .returned (.bool true) ∧ Below w.heap.size w w') := fun w h => line_any w h
  have H0 : Hid (GlobQ w ∧ Rows2 w a L ∧ n = L.length ∧ s = (smL L).length) := ⟨hG, hN, hn, hs⟩
  have n40 : (n : Int) ≤ 40 := by omega
  have n40' : ¬ ((40 : Int) < (n : Int)) := by omega
  have x1 : ¬ ((x : Int) < 0) := by omega
  have x2 : ¬ ((10 : Int) < (x : Int)) := by omega
  have xq : x < QQ := Nat.lt_of_le_of_lt hx (by decide)
  have hS : smL L = suL L L.length := if_pos ⟨ha, hq⟩
  have hA := alike_ok ha
  have hl0 : 1 ≤ len0 L ∧ len0 L ≤ 10 := by rw [len0_eq hA.2]; exact (hA.1 _ (List.getElem_mem hA.2)).1
  obtain ⟨V, hV⟩ : ∃ V, V = hoN QQ x (suL L L.length) := ⟨_, rfl⟩
  have KE : Hid (∀ (b : Option Addr) (d : Nat) (w : World), GlobQ w → Nums w b (smL L) → Calls Tryd.prog 11 #[.slice b s d, .int .i64 (x : Nat)] w fun e w' => e = .returned (.tuple #[.agg #[.int .u64 (limb (V) 0 : Nat), .int .u64 (limb (V) 1 : Nat), .int .u64 (limb (V) 2 : Nat), .int .u64 (limb (V) 3 : Nat)], .int .i64 0]) ∧ Below w.heap.size w w') := fun b d w h1 h2 => by
    have hl : 1 ≤ (suL L L.length).length ∧ (suL L L.length).length ≤ 10 := by rw [suL_length]; exact hl0
    rw [hS] at h2
    have h := eval_in b (suL L L.length) d x hl hx (fun n hn => Nat.lt_trans (allQ_mem (suL_all _ _) hn) FM_Q.2.1) w h1 h2
    have e1 : atV (suL L L.length) x = hoN QQ x (suL L L.length) := if_pos ⟨hl.1, hl.2, suL_all _ _, xq⟩
    have e2 : atE (suL L L.length) x = 0 := by unfold atE; rw [if_pos hl, if_pos ⟨suL_all _ _, xq⟩]
    rw [e1, e2, ← hV] at h
    rw [hs, hS]
    exact h
  have HI : Hid (AlikeP (len0 L) L ∧ allB L = true ∧ V = hoN QQ x (suL L L.length) ∧ x ≤ 10 ∧ x < QQ) := ⟨hA.1, hq, hV, hx, xq⟩
  have KQ : Hid (∀ w, GlobQ w → Calls Tryd.prog 22 #[] w fun e w' => ∃ g, e = .returned (.pointer (some ⟨g, 0, none⟩)) ∧ FieldB w' g QQ ∧ Below w.heap.size w w') := fun w h => scalars_any w h
  clear xq hS hA hl0 hV hq ha hx
  rw [← hn]
  clear hn hs h40 hR hG hN hE
  go_enter Tryd.func6, Tryd.ntmps6
  go_wp2_with fail
  refine (K1.out _ H0.out.1 H0.out.2.1).mono ?_
  rintro e w1 ⟨qa, qc, rfl, hq, hb1⟩
  have H1 : Hid (Below w.heap.size w w1 ∧ Nums w1 qa (smL L)) := ⟨hb1, hq⟩
  clear hb1 hq K1
  go_wp2_with fail
  refine (K2.out _ (H0.out.2.1.call H1.out.1)).mono ?_
  rintro e w2 ⟨ra, rc, rfl, hq, hb2⟩
  have H2 : Hid (Below w.heap.size w w2 ∧ Nums w2 qa (smL L) ∧ Nums w2 ra (smL L)) := ⟨below_call0 H1.out.1 hb2, H1.out.2.call hb2, hq⟩
  clear hb2 hq K2 H1
  go_wp2_with fail
  refine (K3.out _ _ _ _ _ H2.out.2.1 H2.out.2.2).mono ?_
  rintro e w3 ⟨rfl, hb3⟩
  have H3 : Hid (Below w.heap.size w w3 ∧ Nums w3 qa (smL L)) := ⟨below_call0 H2.out.1 hb3, H2.out.2.1.call hb3⟩
  clear hb3 K3 H2
  go_wp2_with fail
  refine (KE.out _ _ _ (H0.out.1.call H3.out.1) H3.out.2).mono ?_
  rintro e w7 ⟨rfl, hb7⟩
  obtain ⟨w8, hw8⟩ : ∃ y, y = w7.alloc (.cells #[.int .u64 (limb V 0 : Nat), .int .u64 (limb V 1 : Nat), .int .u64 (limb V 2 : Nat), .int .u64 (limb V 3 : Nat)] 25) := ⟨_, rfl⟩
  have H8 : Hid (Below w.heap.size w w8 ∧ Own4 w8 w7.heap.size V ∧ w7.heap.size + 1 = w8.heap.size ∧ w8 = w7.alloc (.cells #[.int .u64 (limb V 0 : Nat), .int .u64 (limb V 1 : Nat), .int .u64 (limb V 2 : Nat), .int .u64 (limb V 3 : Nat)] 25)) := by
    refine ⟨?_, ?_, ?_, hw8⟩
    · rw [hw8]; exact below_alloc0 (below_call0 H3.out.1 hb7) _
    · rw [hw8]; exact Own4.new _ _ _
    · rw [hw8]; simp
  clear hb7 hw8 KE H3
  go_wp2_with fail
  rw [← H8.out.2.2.2]
  try rw [H8.out.2.2.1]
  obtain ⟨w9, hw9⟩ : ∃ y, y = w8.alloc (.cells #[.int .u64 0, .int .u64 0, .int .u64 0, .int .u64 0] 25) := ⟨_, rfl⟩
  have H9 : Hid (Below w8.heap.size w8 w9 ∧ Own4 w9 w8.heap.size 0) := by
    rw [hw9]
    have h := Own4.new w8 0 25
    rw [limb_nought, limb_nought, limb_nought, limb_nought] at h
    exact ⟨below_alloc0 (Below.refl _ _) _, h⟩
  rw [← hw9]
  clear hw9
  rename_i Kr hKr
  have HKr : Hid _ := hKr
  clear hKr x1 x2 n40'
  go_loopw [60] (fun iv wr => ∃ k : Nat, k ≤ n ∧ iv = .int .i64 (k : Nat) ∧ Own4 wr w8.heap.size (suE L x k) ∧ Below w8.heap.size w8 wr) (fun iv _ => n - (Go.RowKit.intOf iv).toNat)
  case atStart => exact ⟨0, Nat.zero_le _, rfl, H9.out.2, H9.out.1⟩
  case round =>
    obtain ⟨k, hk, rfl, hO, hB⟩ := hrel
    rename World => wr
    obtain ⟨v, hv⟩ : ∃ v, v = suE L x k := ⟨_, rfl⟩
    rw [← hv] at hO
    have HR : Hid (Own4 wr w8.heap.size v ∧ Below w8.heap.size w8 wr ∧ Below w.heap.size w wr ∧ v = suE L x k) := ⟨hO, hB, below_call0 H8.out.1 hB, hv⟩
    clear hO hB hv
    by_cases hlt : k < n
    · clear HKr
      have hkl : k < L.length := by rw [← H0.out.2.2.1]; exact hlt
      have hlt' : (k : Int) < (n : Int) := Int.ofNat_lt.2 hlt
      obtain ⟨p, o, ra', rc', rfl, c0, hrr, pz⟩ := (H0.out.2.1.call HR.out.2.2.1).get hkl
      have HN : Hid (Nums wr ra' (L[k]'hkl)) := hrr
      have hl10 := (HI.out.1 _ (List.getElem_mem hkl)).1
      have hqr := allB_get HI.out.2.1 hkl
      obtain ⟨rl, hrl⟩ : ∃ r, r = (L[k]'hkl).length := ⟨_, rfl⟩
      rw [← hrl] at c0
      obtain ⟨r, hr⟩ : ∃ r, r = hoN QQ x (L[k]'hkl) := ⟨_, rfl⟩
      obtain ⟨u, hu⟩ : ∃ u, u = (v + r) % QQ := ⟨_, rfl⟩
      have KR : Hid (∀ w, GlobQ w → Nums w ra' (L[k]'hkl) → Calls Tryd.prog 11 #[.slice ra' rl rc', .int .i64 (x : Nat)] w fun e w' => e = .returned (.tuple #[.agg #[.int .u64 (limb (r) 0 : Nat), .int .u64 (limb (r) 1 : Nat), .int .u64 (limb (r) 2 : Nat), .int .u64 (limb (r) 3 : Nat)], .int .i64 0]) ∧ Below w.heap.size w w') := fun w h1 h2 => by
        have h := eval_in ra' (L[k]'hkl) rc' x hl10 HI.out.2.2.2.1 (fun n hn => Nat.lt_trans (allQ_mem hqr hn) FM_Q.2.1) w h1 h2
        have e1 : atV (L[k]'hkl) x = hoN QQ x (L[k]'hkl) := if_pos ⟨hl10.1, hl10.2, hqr, HI.out.2.2.2.2⟩
        have e2 : atE (L[k]'hkl) x = 0 := by unfold atE; rw [if_pos hl10, if_pos ⟨hqr, HI.out.2.2.2.2⟩]
        rw [e1, e2, ← hr, ← hrl] at h
        exact h
      have KA : Hid (∀ (g : Nat) (w : World), FieldB w g QQ → Calls Tryd.prog 23 #[.pointer (some ⟨g, 0, none⟩), .agg #[.int .u64 (limb (v) 0 : Nat), .int .u64 (limb (v) 1 : Nat), .int .u64 (limb (v) 2 : Nat), .int .u64 (limb (v) 3 : Nat)], .agg #[.int .u64 (limb (r) 0 : Nat), .int .u64 (limb (r) 1 : Nat), .int .u64 (limb (r) 2 : Nat), .int .u64 (limb (r) 3 : Nat)]] w fun e w' => e = .returned (.tuple #[.agg #[.int .u64 (limb (u) 0 : Nat), .int .u64 (limb (u) 1 : Nat), .int .u64 (limb (u) 2 : Nat), .int .u64 (limb (u) 3 : Nat)], .int .i64 0]) ∧ Below w.heap.size w w') := fun g w h => by rw [hu]; exact fadd_in g QQ v r FM_Q (by rw [HR.out.2.2.2]; exact suE_lt _ _ _) (by rw [hr]; exact hoN_lt _ _ QQ_pos _) w h
      have HU : Hid (u = suE L x (k + 1)) := by
        show u = (suE L x k + hoN QQ x (L[k]?.getD [])) % QQ
        rw [List.getElem?_eq_getElem hkl, ← HR.out.2.2.2]
        show u = (v + hoN QQ x (L[k]'hkl)) % QQ
        rw [← hr]; exact hu
      clear hrr hl10 hqr hrl hr hu
      go_wp2_with fail
      refine (KR.out _ (H0.out.1.call HR.out.2.2.1) HN.out).mono ?_
      rintro e w11 ⟨rfl, hb11⟩
      clear c0 pz
      go_wp2_with fail
      obtain ⟨wE, hwE⟩ : ∃ y, y = w11.alloc (.cells #[.int .u64 (limb r 0 : Nat), .int .u64 (limb r 1 : Nat), .int .u64 (limb r 2 : Nat), .int .u64 (limb r 3 : Nat)] 25) := ⟨_, rfl⟩
      have HE0 : Hid (Own4 wE w8.heap.size v ∧ Own4 wE w11.heap.size r ∧ Below w8.heap.size w8 wE ∧ Below w.heap.size w wE) := by
        have hb : Below wr.heap.size wr wE := by rw [hwE]; exact below_alloc0 hb11 _
        refine ⟨HR.out.1.call hb, ?_, below_call0 HR.out.2.1 hb, below_call0 HR.out.2.2.1 hb⟩
        rw [hwE]; exact Own4.new _ _ _
      rw [← hwE]
      clear hwE hb11
      refine wp_region_N (fun w' => Below wE.heap.size wE w') 8 10 rfl (by kernel_rfl) ?_
      refine wpAnyN_take (i := 1) (oi := ?o1) (v := ?v1) ?hi1 (by kernel_rfl) (by kernel_rfl) (by kernel_rfl) (by kernel_rfl) (by decide) (by kernel_rfl) ?hQ1 ?hy1 (Below.drew (Below.refl _ _)) ?more1
      case hi1 => rw [List.getElem?_toArray]; exact rfl
      case hQ1 => exact fun _ _ _ h => h
      case hy1 =>
        refine Or.inl ⟨by rfl, ?_⟩
        intro w' hSw
        obtain ⟨⟨v0, v1, v2, v3⟩, _, vz⟩ := (HE0.out.1.call hSw).facts
        obtain ⟨⟨r0, r1, r2, r3⟩, _, rz⟩ := (HE0.out.2.1.call hSw).facts
        clear hSw
        go_simp
        try with_reducible rfl
      simp only [Act.put, List.setIfInBounds_toArray, List.set_cons_zero, List.set_cons_succ]
      refine wpAnyN_take (i := 2) (oi := ?o2) (v := ?v2) ?hi2 (by kernel_rfl) (by kernel_rfl) (by kernel_rfl) (by kernel_rfl) (by decide) (by kernel_rfl) ?hQ2 ?hy2 (Below.drew (Below.refl _ _)) ?more2
      case hi2 => rw [List.getElem?_toArray]; exact rfl
      case hQ2 => exact fun _ _ _ h => h
      case hy2 =>
        refine Or.inl ⟨by rfl, ?_⟩
        intro w' hSw
        obtain ⟨⟨v0, v1, v2, v3⟩, _, vz⟩ := (HE0.out.1.call hSw).facts
        obtain ⟨⟨r0, r1, r2, r3⟩, _, rz⟩ := (HE0.out.2.1.call hSw).facts
        clear hSw
        go_simp
        try with_reducible rfl
      simp only [Act.put, List.setIfInBounds_toArray, List.set_cons_zero, List.set_cons_succ]
      refine wpAnyN_two (i := 0) (j := 7) (o := ?o0x1) (p := ?o7x1) (by kernel_rfl) ?hi0x1 ?hi7x1 ?hw0x1 ?hw7x1 ?st0x1 ?st7x1
      case hi0x1 => rw [List.getElem?_toArray]; exact rfl
      case hw0x1 => exact rfl
      case hi7x1 => rw [List.getElem?_toArray]; exact rfl
      case hw7x1 => exact rfl
      case st0x1 =>
        intro K hK
        have HK0y2 : Hid _ := hK
        clear hK
        go_simp
        refine (KQ.out _ ((H0.out.1.call HE0.out.2.2.2).call (Below.drew (Below.refl _ _)))).mono ?_
        rintro e w0y2 ⟨gy2, rfl, hFB, hq⟩
        have H0y2 : Hid (Below wE.heap.size wE w0y2) := below_call0 (Below.drew (Below.refl _ _)) hq
        have HFB : Hid (FieldB w0y2 gy2 QQ) := hFB
        clear hFB
        clear hq
        go_wp2_with fail
        refine HK0y2.out _ _ ⟨fun _ => H0y2.out, ?_⟩
        clear HK0y2 K
        try simp only [Act.put, List.setIfInBounds_toArray, List.set_cons_zero, List.set_cons_succ]
        refine wpAnyN_two (i := 3) (j := 7) (o := ?o3y2x3) (p := ?o7y2x3) (by kernel_rfl) ?hi3y2x3 ?hi7y2x3 ?hw3y2x3 ?hw7y2x3 ?st3y2x3 ?st7y2x3
        case hi3y2x3 => rw [List.getElem?_toArray]; exact rfl
        case hw3y2x3 => exact rfl
        case hi7y2x3 => rw [List.getElem?_toArray]; exact rfl
        case hw7y2x3 => exact rfl
        case st3y2x3 =>
          intro K hK
          have HK3y4 : Hid _ := hK
          clear hK
          go_simp
          refine (KA.out _ _ (by first | exact HFB.out | exact HFB.out.alloc)).mono ?_
          rintro e w3y4 ⟨rfl, hq⟩
          have H3y4 : Hid (Below wE.heap.size wE w3y4) := below_call0 H0y2.out hq
          clear hq
          go_wp2_with fail
          refine HK3y4.out _ _ ⟨fun _ => H3y4.out, ?_⟩
          clear HK3y4 K
          try simp only [Act.put, List.setIfInBounds_toArray, List.set_cons_zero, List.set_cons_succ]
          refine wpAnyN_takeF (i := 4) (oi := ?o4y4) (v := ?v4y4) ?hi4y4 (by kernel_rfl) (by kernel_rfl) (by kernel_rfl) (by decide) ?hQ4y4 ?hy4y4 H3y4.out ?more4y4
          case hi4y4 => rw [List.getElem?_toArray]; exact rfl
          case hQ4y4 => exact fun _ _ _ h => h
          case hy4y4 =>
            refine Or.inl ⟨by rfl, ?_⟩
            intro w' hSw
            clear hSw
            go_simp
            try with_reducible rfl
          simp only [Act.put, List.setIfInBounds_toArray, List.set_cons_zero, List.set_cons_succ]
          refine wpAnyN_takeF (i := 5) (oi := ?o5y4) (v := ?v5y4) ?hi5y4 (by kernel_rfl) (by kernel_rfl) (by kernel_rfl) (by decide) ?hQ5y4 ?hy5y4 H3y4.out ?more5y4
          case hi5y4 => rw [List.getElem?_toArray]; exact rfl
          case hQ5y4 => exact fun _ _ _ h => h
          case hy5y4 =>
            refine Or.inl ⟨by rfl, ?_⟩
            intro w' hSw
            clear hSw
            go_simp
            try with_reducible rfl
          simp only [Act.put, List.setIfInBounds_toArray, List.set_cons_zero, List.set_cons_succ]
          refine wpAnyN_takeF (i := 6) (oi := ?o6y4) (v := ?v6y4) ?hi6y4 (by kernel_rfl) (by kernel_rfl) (by kernel_rfl) (by decide) ?hQ6y4 ?hy6y4 H3y4.out ?more6y4
          case hi6y4 => rw [List.getElem?_toArray]; exact rfl
          case hQ6y4 => exact fun _ _ _ h => h
          case hy6y4 =>
            refine Or.inl ⟨by rfl, ?_⟩
            intro w' hSw
            clear hSw
            go_simp
            try with_reducible rfl
          simp only [Act.put, List.setIfInBounds_toArray, List.set_cons_zero, List.set_cons_succ]
          refine wpAnyN_one (i := 7) (o := ?o7y4) (by kernel_rfl) ?hi7y4 ?hw7y4 ?st7y4
          case hi7y4 => rw [List.getElem?_toArray]; exact rfl
          case hw7y4 => exact rfl
          intro K hK
          have HK7y4 : Hid _ := hK
          clear hK
          go_simp
          refine HK7y4.out _ _ ⟨fun _ => (below_alloc0 H3y4.out _), ?_⟩
          clear HK7y4 K
          try simp only [Act.put, List.setIfInBounds_toArray, List.set_cons_zero, List.set_cons_succ]
          refine wpAnyN_one (i := 8) (o := ?o8y4) (by kernel_rfl) ?hi8y4 ?hw8y4 ?st8y4
          case hi8y4 => rw [List.getElem?_toArray]; exact rfl
          case hw8y4 => exact rfl
          intro K hK
          have HK8y4 : Hid _ := hK
          clear hK
          obtain ⟨⟨o0, o1, o2, o3⟩, ⟨f0, f1, f2, f3⟩, oz⟩ := Pend.facts (Pend.new' (W := w3y4) (t := 25) rfl)
          try simp only [World.size_alloc] at o0 o1 o2 o3 f0 f1 f2 f3 oz
          go_simp
          refine HK8y4.out _ _ ⟨fun h => absurd h (by decide +kernel), ?_⟩
          clear HK8y4 K
          try simp only [Act.put, List.setIfInBounds_toArray, List.set_cons_zero, List.set_cons_succ]
          refine wpAnyN_one (i := 9) (o := ?o9y4) (by kernel_rfl) ?hi9y4 ?hw9y4 ?st9y4
          case hi9y4 => rw [List.getElem?_toArray]; exact rfl
          case hw9y4 => exact rfl
          intro K hK
          have HK9y4 : Hid _ := hK
          clear hK
          go_simp
          refine HK9y4.out _ _ ⟨fun h => absurd h (by decide +kernel), ?_⟩
          clear HK9y4 K
          try simp only [Act.put, List.setIfInBounds_toArray, List.set_cons_zero, List.set_cons_succ]
          refine wpAnyN_done (by kernel_rfl) ?_ _
          obtain ⟨wS, hwS⟩ : ∃ y, y = w3y4.alloc (.cells #[.int .u64 (limb u 0 : Nat), .int .u64 (limb u 1 : Nat), .int .u64 (limb u 2 : Nat), .int .u64 (limb u 3 : Nat)] 25) := ⟨_, rfl⟩
          have HT : Hid (Own4 wS (w3y4.heap.size) u ∧ Below wE.heap.size wE wS) := by rw [hwS]; exact ⟨Own4.new' rfl, below_alloc0 H3y4.out _⟩
          rw [← hwS]
          clear hwS o0 o1 o2 o3 f0 f1 f2 f3 oz
          have HO : Hid (Own4 wS w8.heap.size v ∧ Below w8.heap.size w8 wS) := ⟨HE0.out.1.call HT.out.2, below_call0 HE0.out.2.2.1 HT.out.2⟩
          obtain ⟨⟨q0, q1, q2, q3⟩, _, qz⟩ := HT.out.1.facts
          obtain ⟨⟨o0, o1, o2, o3⟩, ⟨f0, f1, f2, f3⟩, oz⟩ := HO.out.1.facts
          have HF : Hid (Own4 ((((wS.setCell ⟨w8.heap.size, 0, none⟩ (.int .u64 (limb u 0 : Nat))).setCell ⟨w8.heap.size, 1, none⟩ (.int .u64 (limb u 1 : Nat))).setCell ⟨w8.heap.size, 2, none⟩ (.int .u64 (limb u 2 : Nat))).setCell ⟨w8.heap.size, 3, none⟩ (.int .u64 (limb u 3 : Nat))) w8.heap.size (suE L x (k + 1)) ∧ Below w8.heap.size w8 ((((wS.setCell ⟨w8.heap.size, 0, none⟩ (.int .u64 (limb u 0 : Nat))).setCell ⟨w8.heap.size, 1, none⟩ (.int .u64 (limb u 1 : Nat))).setCell ⟨w8.heap.size, 2, none⟩ (.int .u64 (limb u 2 : Nat))).setCell ⟨w8.heap.size, 3, none⟩ (.int .u64 (limb u 3 : Nat)))) := by
            refine ⟨?_, Below.setCell (Below.setCell (Below.setCell (Below.setCell HO.out.2 (Nat.le_refl _) _) (Nat.le_refl _) _) (Nat.le_refl _) _) (Nat.le_refl _) _⟩
            rw [← HU.out]; exact HO.out.1.put
          go_wp2_with fail
          go_roundw
          case rel => first | exact ⟨k + 1, hlt, by go_num, HF.out⟩ | ((repeat apply Exists.intro); exact ⟨⟨k + 1, hlt, by go_num, HF.out⟩, rfl⟩)
          case measure => simp [intOf]; omega
        case st7y2x3 =>
          intro K hK
          have HK7y5 : Hid _ := hK
          clear hK
          go_simp
          refine HK7y5.out _ _ ⟨fun _ => (below_alloc0 H0y2.out _), ?_⟩
          clear HK7y5 K
          try simp only [Act.put, List.setIfInBounds_toArray, List.set_cons_zero, List.set_cons_succ]
          refine wpAnyN_one (i := 3) (o := ?o3y5) (by kernel_rfl) ?hi3y5 ?hw3y5 ?st3y5
          case hi3y5 => rw [List.getElem?_toArray]; exact rfl
          case hw3y5 => exact rfl
          intro K hK
          have HK3y5 : Hid _ := hK
          clear hK
          go_simp
          refine (KA.out _ _ (by first | exact HFB.out | exact HFB.out.alloc)).mono ?_
          rintro e w3y5 ⟨rfl, hq⟩
          have H3y5 : Hid (Below wE.heap.size wE w3y5) := below_call0 (below_alloc0 H0y2.out _) hq
          have P3y5 : Hid (Pend w3y5 (w0y2.heap.size)) := Pend.call (Pend.new' (W := w0y2) (t := 25) rfl) hq
          clear hq
          go_wp2_with fail
          refine HK3y5.out _ _ ⟨fun _ => H3y5.out, ?_⟩
          clear HK3y5 K
          try simp only [Act.put, List.setIfInBounds_toArray, List.set_cons_zero, List.set_cons_succ]
          refine wpAnyN_takeF (i := 4) (oi := ?o4y5) (v := ?v4y5) ?hi4y5 (by kernel_rfl) (by kernel_rfl) (by kernel_rfl) (by decide) ?hQ4y5 ?hy4y5 H3y5.out ?more4y5
          case hi4y5 => rw [List.getElem?_toArray]; exact rfl
          case hQ4y5 => exact fun _ _ _ h => h
          case hy4y5 =>
            refine Or.inl ⟨by rfl, ?_⟩
            intro w' hSw
            clear hSw
            go_simp
            try with_reducible rfl
          simp only [Act.put, List.setIfInBounds_toArray, List.set_cons_zero, List.set_cons_succ]
          refine wpAnyN_takeF (i := 5) (oi := ?o5y5) (v := ?v5y5) ?hi5y5 (by kernel_rfl) (by kernel_rfl) (by kernel_rfl) (by decide) ?hQ5y5 ?hy5y5 H3y5.out ?more5y5
          case hi5y5 => rw [List.getElem?_toArray]; exact rfl
          case hQ5y5 => exact fun _ _ _ h => h
          case hy5y5 =>
            refine Or.inl ⟨by rfl, ?_⟩
            intro w' hSw
            clear hSw
            go_simp
            try with_reducible rfl
          simp only [Act.put, List.setIfInBounds_toArray, List.set_cons_zero, List.set_cons_succ]
          refine wpAnyN_takeF (i := 6) (oi := ?o6y5) (v := ?v6y5) ?hi6y5 (by kernel_rfl) (by kernel_rfl) (by kernel_rfl) (by decide) ?hQ6y5 ?hy6y5 H3y5.out ?more6y5
          case hi6y5 => rw [List.getElem?_toArray]; exact rfl
          case hQ6y5 => exact fun _ _ _ h => h
          case hy6y5 =>
            refine Or.inl ⟨by rfl, ?_⟩
            intro w' hSw
            clear hSw
            go_simp
            try with_reducible rfl
          simp only [Act.put, List.setIfInBounds_toArray, List.set_cons_zero, List.set_cons_succ]
          refine wpAnyN_one (i := 8) (o := ?o8y5) (by kernel_rfl) ?hi8y5 ?hw8y5 ?st8y5
          case hi8y5 => rw [List.getElem?_toArray]; exact rfl
          case hw8y5 => exact rfl
          intro K hK
          have HK8y5 : Hid _ := hK
          clear hK
          obtain ⟨⟨o0, o1, o2, o3⟩, ⟨f0, f1, f2, f3⟩, oz⟩ := Pend.facts P3y5.out
          try simp only [World.size_alloc] at o0 o1 o2 o3 f0 f1 f2 f3 oz
          go_simp
          refine HK8y5.out _ _ ⟨fun h => absurd h (by decide +kernel), ?_⟩
          clear HK8y5 K
          try simp only [Act.put, List.setIfInBounds_toArray, List.set_cons_zero, List.set_cons_succ]
          refine wpAnyN_one (i := 9) (o := ?o9y5) (by kernel_rfl) ?hi9y5 ?hw9y5 ?st9y5
          case hi9y5 => rw [List.getElem?_toArray]; exact rfl
          case hw9y5 => exact rfl
          intro K hK
          have HK9y5 : Hid _ := hK
          clear hK
          go_simp
          refine HK9y5.out _ _ ⟨fun h => absurd h (by decide +kernel), ?_⟩
          clear HK9y5 K
          try simp only [Act.put, List.setIfInBounds_toArray, List.set_cons_zero, List.set_cons_succ]
          refine wpAnyN_done (by kernel_rfl) ?_ _
          obtain ⟨wS, hwS⟩ : ∃ y, y = ((((w3y5.setCell ⟨w0y2.heap.size, 0, none⟩ (.int .u64 (limb u 0 : Nat))).setCell ⟨w0y2.heap.size, 1, none⟩ (.int .u64 (limb u 1 : Nat))).setCell ⟨w0y2.heap.size, 2, none⟩ (.int .u64 (limb u 2 : Nat))).setCell ⟨w0y2.heap.size, 3, none⟩ (.int .u64 (limb u 3 : Nat))) := ⟨_, rfl⟩
          have HT : Hid (Own4 wS (w0y2.heap.size) u ∧ Below wE.heap.size wE wS) := by rw [hwS]; exact ⟨Pend.own P3y5.out, Below.setCell (Below.setCell (Below.setCell (Below.setCell H3y5.out (Below.size H0y2.out) _) (Below.size H0y2.out) _) (Below.size H0y2.out) _) (Below.size H0y2.out) _⟩
          rw [← hwS]
          clear hwS o0 o1 o2 o3 f0 f1 f2 f3 oz
          have HO : Hid (Own4 wS w8.heap.size v ∧ Below w8.heap.size w8 wS) := ⟨HE0.out.1.call HT.out.2, below_call0 HE0.out.2.2.1 HT.out.2⟩
          obtain ⟨⟨q0, q1, q2, q3⟩, _, qz⟩ := HT.out.1.facts
          obtain ⟨⟨o0, o1, o2, o3⟩, ⟨f0, f1, f2, f3⟩, oz⟩ := HO.out.1.facts
          have HF : Hid (Own4 ((((wS.setCell ⟨w8.heap.size, 0, none⟩ (.int .u64 (limb u 0 : Nat))).setCell ⟨w8.heap.size, 1, none⟩ (.int .u64 (limb u 1 : Nat))).setCell ⟨w8.heap.size, 2, none⟩ (.int .u64 (limb u 2 : Nat))).setCell ⟨w8.heap.size, 3, none⟩ (.int .u64 (limb u 3 : Nat))) w8.heap.size (suE L x (k + 1)) ∧ Below w8.heap.size w8 ((((wS.setCell ⟨w8.heap.size, 0, none⟩ (.int .u64 (limb u 0 : Nat))).setCell ⟨w8.heap.size, 1, none⟩ (.int .u64 (limb u 1 : Nat))).setCell ⟨w8.heap.size, 2, none⟩ (.int .u64 (limb u 2 : Nat))).setCell ⟨w8.heap.size, 3, none⟩ (.int .u64 (limb u 3 : Nat)))) := by
            refine ⟨?_, Below.setCell (Below.setCell (Below.setCell (Below.setCell HO.out.2 (Nat.le_refl _) _) (Nat.le_refl _) _) (Nat.le_refl _) _) (Nat.le_refl _) _⟩
            rw [← HU.out]; exact HO.out.1.put
          go_wp2_with fail
          go_roundw
          case rel => first | exact ⟨k + 1, hlt, by go_num, HF.out⟩ | ((repeat apply Exists.intro); exact ⟨⟨k + 1, hlt, by go_num, HF.out⟩, rfl⟩)
          case measure => simp [intOf]; omega
      case st7x1 =>
        intro K hK
        have HK7y6 : Hid _ := hK
        clear hK
        go_simp
        refine HK7y6.out _ _ ⟨fun _ => (below_alloc0 (Below.drew (Below.refl _ _)) _), ?_⟩
        clear HK7y6 K
        try simp only [Act.put, List.setIfInBounds_toArray, List.set_cons_zero, List.set_cons_succ]
        refine wpAnyN_one (i := 0) (o := ?o0y6) (by kernel_rfl) ?hi0y6 ?hw0y6 ?st0y6
        case hi0y6 => rw [List.getElem?_toArray]; exact rfl
        case hw0y6 => exact rfl
        intro K hK
        have HK0y6 : Hid _ := hK
        clear hK
        go_simp
        refine (KQ.out _ ((H0.out.1.call HE0.out.2.2.2).call (below_alloc0 (Below.drew (Below.refl _ _)) _))).mono ?_
        rintro e w0y6 ⟨gy6, rfl, hFB, hq⟩
        have H0y6 : Hid (Below wE.heap.size wE w0y6) := below_call0 (below_alloc0 (Below.drew (Below.refl _ _)) _) hq
        have P0y6 : Hid (Pend w0y6 (wE.heap.size)) := Pend.call (Pend.new' (W := wE.drew) (t := 25) rfl) hq
        have HFB : Hid (FieldB w0y6 gy6 QQ) := hFB
        clear hFB
        clear hq
        go_wp2_with fail
        refine HK0y6.out _ _ ⟨fun _ => H0y6.out, ?_⟩
        clear HK0y6 K
        try simp only [Act.put, List.setIfInBounds_toArray, List.set_cons_zero, List.set_cons_succ]
        refine wpAnyN_one (i := 3) (o := ?o3y6) (by kernel_rfl) ?hi3y6 ?hw3y6 ?st3y6
        case hi3y6 => rw [List.getElem?_toArray]; exact rfl
        case hw3y6 => exact rfl
        intro K hK
        have HK3y6 : Hid _ := hK
        clear hK
        go_simp
        refine (KA.out _ _ (by first | exact HFB.out | exact HFB.out.alloc)).mono ?_
        rintro e w3y6 ⟨rfl, hq⟩
        have H3y6 : Hid (Below wE.heap.size wE w3y6) := below_call0 H0y6.out hq
        have P3y6 : Hid (Pend w3y6 (wE.heap.size)) := Pend.call P0y6.out hq
        clear hq
        go_wp2_with fail
        refine HK3y6.out _ _ ⟨fun _ => H3y6.out, ?_⟩
        clear HK3y6 K
        try simp only [Act.put, List.setIfInBounds_toArray, List.set_cons_zero, List.set_cons_succ]
        refine wpAnyN_takeF (i := 4) (oi := ?o4y6) (v := ?v4y6) ?hi4y6 (by kernel_rfl) (by kernel_rfl) (by kernel_rfl) (by decide) ?hQ4y6 ?hy4y6 H3y6.out ?more4y6
        case hi4y6 => rw [List.getElem?_toArray]; exact rfl
        case hQ4y6 => exact fun _ _ _ h => h
        case hy4y6 =>
          refine Or.inl ⟨by rfl, ?_⟩
          intro w' hSw
          clear hSw
          go_simp
          try with_reducible rfl
        simp only [Act.put, List.setIfInBounds_toArray, List.set_cons_zero, List.set_cons_succ]
        refine wpAnyN_takeF (i := 5) (oi := ?o5y6) (v := ?v5y6) ?hi5y6 (by kernel_rfl) (by kernel_rfl) (by kernel_rfl) (by decide) ?hQ5y6 ?hy5y6 H3y6.out ?more5y6
        case hi5y6 => rw [List.getElem?_toArray]; exact rfl
        case hQ5y6 => exact fun _ _ _ h => h
        case hy5y6 =>
          refine Or.inl ⟨by rfl, ?_⟩
          intro w' hSw
          clear hSw
          go_simp
          try with_reducible rfl
        simp only [Act.put, List.setIfInBounds_toArray, List.set_cons_zero, List.set_cons_succ]
        refine wpAnyN_takeF (i := 6) (oi := ?o6y6) (v := ?v6y6) ?hi6y6 (by kernel_rfl) (by kernel_rfl) (by kernel_rfl) (by decide) ?hQ6y6 ?hy6y6 H3y6.out ?more6y6
        case hi6y6 => rw [List.getElem?_toArray]; exact rfl
        case hQ6y6 => exact fun _ _ _ h => h
        case hy6y6 =>
          refine Or.inl ⟨by rfl, ?_⟩
          intro w' hSw
          clear hSw
          go_simp
          try with_reducible rfl
        simp only [Act.put, List.setIfInBounds_toArray, List.set_cons_zero, List.set_cons_succ]
        refine wpAnyN_one (i := 8) (o := ?o8y6) (by kernel_rfl) ?hi8y6 ?hw8y6 ?st8y6
        case hi8y6 => rw [List.getElem?_toArray]; exact rfl
        case hw8y6 => exact rfl
        intro K hK
        have HK8y6 : Hid _ := hK
        clear hK
        obtain ⟨⟨o0, o1, o2, o3⟩, ⟨f0, f1, f2, f3⟩, oz⟩ := Pend.facts P3y6.out
        try simp only [World.size_alloc] at o0 o1 o2 o3 f0 f1 f2 f3 oz
        go_simp
        refine HK8y6.out _ _ ⟨fun h => absurd h (by decide +kernel), ?_⟩
        clear HK8y6 K
        try simp only [Act.put, List.setIfInBounds_toArray, List.set_cons_zero, List.set_cons_succ]
        refine wpAnyN_one (i := 9) (o := ?o9y6) (by kernel_rfl) ?hi9y6 ?hw9y6 ?st9y6
        case hi9y6 => rw [List.getElem?_toArray]; exact rfl
        case hw9y6 => exact rfl
        intro K hK
        have HK9y6 : Hid _ := hK
        clear hK
        go_simp
        refine HK9y6.out _ _ ⟨fun h => absurd h (by decide +kernel), ?_⟩
        clear HK9y6 K
        try simp only [Act.put, List.setIfInBounds_toArray, List.set_cons_zero, List.set_cons_succ]
        refine wpAnyN_done (by kernel_rfl) ?_ _
        obtain ⟨wS, hwS⟩ : ∃ y, y = ((((w3y6.setCell ⟨wE.heap.size, 0, none⟩ (.int .u64 (limb u 0 : Nat))).setCell ⟨wE.heap.size, 1, none⟩ (.int .u64 (limb u 1 : Nat))).setCell ⟨wE.heap.size, 2, none⟩ (.int .u64 (limb u 2 : Nat))).setCell ⟨wE.heap.size, 3, none⟩ (.int .u64 (limb u 3 : Nat))) := ⟨_, rfl⟩
        have HT : Hid (Own4 wS (wE.heap.size) u ∧ Below wE.heap.size wE wS) := by rw [hwS]; exact ⟨Pend.own P3y6.out, Below.setCell (Below.setCell (Below.setCell (Below.setCell H3y6.out (Nat.le_refl _) _) (Nat.le_refl _) _) (Nat.le_refl _) _) (Nat.le_refl _) _⟩
        rw [← hwS]
        clear hwS o0 o1 o2 o3 f0 f1 f2 f3 oz
        have HO : Hid (Own4 wS w8.heap.size v ∧ Below w8.heap.size w8 wS) := ⟨HE0.out.1.call HT.out.2, below_call0 HE0.out.2.2.1 HT.out.2⟩
        obtain ⟨⟨q0, q1, q2, q3⟩, _, qz⟩ := HT.out.1.facts
        obtain ⟨⟨o0, o1, o2, o3⟩, ⟨f0, f1, f2, f3⟩, oz⟩ := HO.out.1.facts
        have HF : Hid (Own4 ((((wS.setCell ⟨w8.heap.size, 0, none⟩ (.int .u64 (limb u 0 : Nat))).setCell ⟨w8.heap.size, 1, none⟩ (.int .u64 (limb u 1 : Nat))).setCell ⟨w8.heap.size, 2, none⟩ (.int .u64 (limb u 2 : Nat))).setCell ⟨w8.heap.size, 3, none⟩ (.int .u64 (limb u 3 : Nat))) w8.heap.size (suE L x (k + 1)) ∧ Below w8.heap.size w8 ((((wS.setCell ⟨w8.heap.size, 0, none⟩ (.int .u64 (limb u 0 : Nat))).setCell ⟨w8.heap.size, 1, none⟩ (.int .u64 (limb u 1 : Nat))).setCell ⟨w8.heap.size, 2, none⟩ (.int .u64 (limb u 2 : Nat))).setCell ⟨w8.heap.size, 3, none⟩ (.int .u64 (limb u 3 : Nat)))) := by
          refine ⟨?_, Below.setCell (Below.setCell (Below.setCell (Below.setCell HO.out.2 (Nat.le_refl _) _) (Nat.le_refl _) _) (Nat.le_refl _) _) (Nat.le_refl _) _⟩
          rw [← HU.out]; exact HO.out.1.put
        go_wp2_with fail
        go_roundw
        case rel => first | exact ⟨k + 1, hlt, by go_num, HF.out⟩ | ((repeat apply Exists.intro); exact ⟨⟨k + 1, hlt, by go_num, HF.out⟩, rfl⟩)
        case measure => simp [intOf]; omega
    · obtain rfl : k = n := by omega
      have hnl : ¬ ((k : Int) < (k : Int)) := Int.lt_irrefl _
      have HVV : Hid (v = V) := by rw [HR.out.2.2.2, HI.out.2.2.1, H0.out.2.2.1]; exact suE_eq HI.out.1 x
      clear hlt hk
      go_wp2_with fail
      refine HKr.out _ _ ?_
      clear HKr
      obtain ⟨⟨o0, o1, o2, o3⟩, _, oz⟩ := HR.out.1.facts
      obtain ⟨⟨v0, v1, v2, v3⟩, _, vz⟩ := (H8.out.2.1.call HR.out.2.1).facts
      rw [HVV.out] at o0 o1 o2 o3
      have g1 := eq4_self' (limb V 0 : Nat) (limb V 1 : Nat) (limb V 2 : Nat) (limb V 3 : Nat)
      go_wp2_with fail
      refine (KL.out _ (H0.out.1.call HR.out.2.2.1)).mono ?_
      rintro e w30 ⟨rfl, hb30⟩
      have H30 : Hid (Below w.heap.size w w30) := below_call0 HR.out.2.2.1 hb30
      clear hb30 o0 o1 o2 o3 oz v0 v1 v2 v3 vz
      go_wp2_with fail
      go_ret
      exact ⟨rfl, H30.out⟩
theorem shareSums_any (a : Option Addr) (L : List (List Nat)) (c : Nat) (x : Int) (hR : ∀ row ∈ L, ∀ n ∈ row, n < R256) (w : World) (hG : GlobQ w) (hN : Rows2 w a L) :
    Calls Tryd.prog 6 #[.slice a L.length c, .int .i64 x] w fun e w' => e = .returned (.bool true) ∧ Below w.heap.size w w' := by
  rcases Nat.lt_or_ge 40 L.length with h40 | h40
  · exact ss_long a L.length c x h40 w hG
  · by_cases ha : alikeB L = true
    · by_cases hq : allB L = true
      · have hE : smE L = 0 := by unfold smE; rw [if_pos ha, if_pos hq]
        rcases Int.lt_or_le x 0 with h1 | h1
        · exact ss_low a L c x h40 hR hE h1 w hG hN
        · rcases Int.lt_or_le 10 x with h2 | h2
          · exact ss_high a L c x h40 hR hE h2 w hG hN
          · obtain ⟨y, rfl⟩ : ∃ y : Nat, x = (y : Int) := ⟨x.toNat, by omega⟩
            exact ss_in a L c y h40 hR hE (by omega) ha hq w hG hN
      · exact ss_err20 a L c x h40 hR (by unfold smE; rw [if_pos ha, if_neg hq]) w hG hN
    · exact ss_err1 a L c x h40 hR (by unfold smE; rw [if_neg ha]) w hG hN
end Go.Proofs.YtcdiehnkknmbeaaDoor
