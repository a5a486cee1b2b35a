/- The law LedgerSteps. -/
import Derived.Test.YtdnahobafhelhaaDoorLgSp
import Derived.Test.YtdnahobafhelhaaDoorOpenT
import Derived.Deep.CutBlock
import Derived.Deep.DeepCutAuto
namespace Go.Proofs.YtdnahobafhelhaaDoor
open Go Go.RowKit Go.Lib

set_option maxRecDepth 100000 in
set_option maxHeartbeats 8000000 in
theorem ledgerSteps_main (len cl : Nat) (ad : Option Addr) (w : World) (hS : StepsT w ad len) (hlen : len ≤ 100) (hG : GlobD w) (h1 : 0 < w.heap.size) (h2 : 1 < w.heap.size) :
    Calls Tryd.prog 4 #[.slice ad len cl] w fun e w' => e = .returned (.bool true) ∧ Below w.heap.size w w' := by
  have KO : Hid (∀ w' : World, Below w.heap.size w w' → Calls Tryd.prog 8 #[] w' fun e w'' => e = .returned (.bool true) ∧ Below w'.heap.size w' w'') := fun w' hb => one11_any w' (hG.call hb) (Nat.lt_of_lt_of_le h1 hb.size) (Nat.lt_of_lt_of_le h2 hb.size)
  have KN : Hid _ := fnew_fil w hG h1 h2
  have KP : Hid (∀ (c : Nat → Nat) (G : Nat) (w' : World), Fil w' c 1 11 G 0 ByteArray.empty → Glb w' c → Calls Tryd.prog 13 #[.pointer (some ⟨G, 0, none⟩)] w' fun e w'' => ∃ (L : Nat) (c' : Nat → Nat), e = .returned (.tuple #[.pointer (some ⟨L, 0, none⟩), .int .i64 0]) ∧ Fil w'' c' 1 11 G 0 ByteArray.empty ∧ Led w'' c' G L [] ∧ Glb w'' c' ∧ Chg w' c 1 11 w'' ∧ ∀ k, k < w'.heap.size → c' k = c k) := fun c G w' hF hG => by
    refine (lopen_any c G 0 ByteArray.empty (by decide) [] (told_empty 0) w' hF hG).mono ?_
    rintro e w'' ⟨L, c', e1, e2, e3, e4, e5, _, e7⟩
    exact ⟨L, c', e1, e2, e3, e4, e5, e7⟩
  obtain ⟨i0, hi, hz0, hz1, hz2⟩ := infoStr
  have HSI : Hid (Tryd.prog.info? 9 = some i0 ∧ i0.zero = some (.string ⟨#[]⟩) ∧ i0.size = 1 ∧ i0.bytes = 16) := ⟨hi, hz0, hz1, hz2⟩
  have HS : Hid (StepsT w ad len ∧ len ≤ 100) := ⟨hS, hlen⟩
  have k0 : ¬ (100 : Int) < (len : Int) := by omega
  have lb : (len : Int) ≤ 100 := by omega
  clear hS hG h1 h2 hlen hi hz0 hz1 hz2
  go_enter Tryd.func4, Tryd.ntmps4
  go_wp2_with fail
  refine Calls.mono KN.out ?_
  rintro e w4 ⟨rfl, c4, hF4, hG4, hb4, hk4⟩
  obtain ⟨G, hGG⟩ : ∃ G, G = w.heap.size := ⟨_, rfl⟩
  rw [← hGG] at hF4 ⊢
  have H4 : Hid (Fil w4 c4 1 11 G 0 ByteArray.empty ∧ Glb w4 c4 ∧ Below w.heap.size w w4 ∧ ∀ k, k < w.heap.size → k < w4.heap.size ∧ c4 k = 0) := ⟨hF4, hG4, hb4, hk4⟩
  have HGG : Hid (G = w.heap.size) := hGG
  clear hF4 hG4 hb4 hk4 hGG KN
  go_wp2_with fail
  refine (KP.out _ G w4 H4.out.1 H4.out.2.1).mono ?_
  rintro e w6 ⟨L0, c6, rfl, hF6, hD6, hG6, hC6, hk6⟩
  have H6 : Hid (LS w w6 G 0 (.pointer (some ⟨L0, 0, none⟩)) (.slice none 0 0) (.string ByteArray.empty) (.int .i64 0)) := by
    have hu := hC6.under H4.out.2.2.2 (by decide) (by decide)
    exact ⟨[], 0, c6, L0, none, 0, 0, rfl, rfl, rfl, rfl, rfl, ⟨hF6, hD6, hG6, H4.out.2.2.1.trans hu, zero_of H4.out.2.2.2 (Off.size hC6) hk6, .inl ⟨rfl, rfl, rfl⟩⟩, Nat.le_refl _, Nat.le_refl _, fun x hx => by cases hx⟩
  clear hF6 hD6 hG6 hC6 hk6 H4 KP
  rw [HGG.out]
  rw [← HGG.out]
  go_wp2_with fail
  rename_i Kr hKr
  have HKr : Hid _ := hKr
  clear hKr
  go_loopw [4, 6, 7, 8, 48] (fun s4 s6 s7 s8 iv wr => ∃ i : Nat, i ≤ len ∧ iv = .int .i64 (i : Nat) ∧ LS w wr G i s4 s6 s7 s8) (fun _ _ _ _ iv _ => len - (Go.RowKit.intOf iv).toNat)
  case atStart => exact ⟨0, Nat.zero_le _, rfl, H6.out⟩
  case round =>
    obtain ⟨i, hi', rfl, hB⟩ := hrel
    rename World => wr
    obtain ⟨rs, j, c, L, aa, nA, capA, rfl, rfl, hnA, rfl, rfl, hT, hj, hrl, h9⟩ := hB
    clear H6
    by_cases hlt : i < len
    · have hlt' : (i : Int) < (len : Nat) := by omega
      obtain ⟨p, o, X, N, M, s, rfl, q0, q1, q2, q3, hs, hp, hN, hM⟩ := HS.out.1 i hlt
      have k0 : wr.cell? ⟨p, o + i * 4, none⟩ = some (.int .i64 X) := (hT.bel.cell (p := ⟨p, _, none⟩) hp).trans q0
      have k1 : wr.cell? ⟨p, o + i * 4 + 1, none⟩ = some (.int .i64 N) := (hT.bel.cell (p := ⟨p, _, none⟩) hp).trans q1
      have k2 : wr.cell? ⟨p, o + i * 4 + 2, none⟩ = some (.int .i64 M) := (hT.bel.cell (p := ⟨p, _, none⟩) hp).trans q2
      have k3 : wr.cell? ⟨p, o + i * 4 + 3, none⟩ = some (.string s) := (hT.bel.cell (p := ⟨p, _, none⟩) hp).trans q3
      obtain ⟨W3, hW3⟩ : ∃ W3, W3 = wr.alloc (.cells #[.int .i64 X, .int .i64 N, .int .i64 M, .string s] 44) := ⟨_, rfl⟩
      obtain ⟨K, hK⟩ : ∃ K, K = wr.heap.size := ⟨_, rfl⟩
      obtain ⟨c3, hc3⟩ : ∃ c3, c3 = paint c wr W3 3 := ⟨_, rfl⟩
      have HW3 : Hid (W3 = wr.alloc (.cells #[.int .i64 X, .int .i64 N, .int .i64 M, .string s] 44) ∧ K = wr.heap.size) := ⟨hW3, hK⟩
      have H3 : Hid (Tr w W3 c3 G L (sizesN (rs.take j)) rs aa capA rs ∧ Stp W3 c3 K ([.int .i64 X, .int .i64 N, .int .i64 M, .string s] : List Value)) := by
        have hb3 : Below wr.heap.size wr W3 := by rw [hW3]; exact below_alloc0 (Below.refl _ _) _
        rw [hc3]
        exact ⟨hT.call 3 hb3, by rw [hW3, hK]; exact Stp.new wr c ([.int .i64 X, .int .i64 N, .int .i64 M, .string s] : List Value) 44⟩
      have HX : Hid (i < len ∧ j ≤ rs.length ∧ nA = rs.length ∧ rs.length ≤ i ∧ (∀ x ∈ rs, x.size ≤ 9000) ∧ i + 1 ≤ 100 ∧ (-9223372036854775808 ≤ N ∧ N ≤ 9223372036854775807)) := ⟨hlt, hj, hnA, hrl, h9, by have := HS.out.2; omega, hN⟩
      have HE0 : Hid (LT w W3 G (i + 1) K ([.int .i64 X, .int .i64 N, .int .i64 M, .string s] : List Value) (.pointer (some ⟨L, 0, none⟩)) (.slice aa nA capA) (.string (logS 0 rs)) (.int .i64 (j : Nat))) := ⟨rs, j, c3, L, aa, nA, capA, rfl, rfl, hnA, rfl, rfl, H3.out.1, H3.out.2, hj, by omega, h9⟩
      clear hT hi' hlt hp hN hM q0 q1 q2 q3 hW3 hK hc3 hj hrl h9 hnA hs
      go_upto_region 11 with fail
      rw [← HW3.out.1, ← HW3.out.2]
      clear HW3
      have e0 : W3.cell? ⟨K, 0, none⟩ = some (.int .i64 X) := H3.out.2.2.2 0 _ rfl
      have e1 : W3.cell? ⟨K, 1, none⟩ = some (.int .i64 N) := H3.out.2.2.2 1 _ rfl
      have e2 : W3.cell? ⟨K, 2, none⟩ = some (.int .i64 M) := H3.out.2.2.2 2 _ rfl
      have e3 : W3.cell? ⟨K, 3, none⟩ = some (.string s) := H3.out.2.2.2 3 _ rfl
      go_upto_block 2 with fail
      go_cut [4, 6, 7, 8] (fun s4 s6 s7 s8 wz => LT w wz G (i + 1) K ([.int .i64 X, .int .i64 N, .int .i64 M, .string s] : List Value) s4 s6 s7 s8)
      case first =>
        by_cases hX0 : X = 0
        · have xb0 : (X == 0) = true := by rw [hX0]; rfl
          clear hX0
          by_cases hs : s.size ≤ 9000
          · as_aux_lemma =>
              have hs' : ¬ (9000 : Int) < (s.size : Int) := by omega
              have KA : Hid _ := lappend_ok c3 G L (sizesN (rs.take j)) (logS 0 rs) s rs (by omega) (by have := HX.out; have := log_bound HX.out.2.2.2.1 (by omega) HX.out.2.2.2.2.1; omega) (by have := HX.out; omega) W3 H3.out.1.fil H3.out.1.led H3.out.1.glb
              have KW : Hid (∀ w', Calls Tryd.prog 19 #[.int .i64 (nA : Nat), .string s] w' fun e w'' => e = .returned (.string (recS nA s)) ∧ Below w'.heap.size w' w'') := fun w' => written_any nA s (by have := HX.out; omega) (by omega) w'
              rw [← HX.out.2.2.1] at KA
              have HS9 : Hid (s.size ≤ 9000) := by have : s.size ≤ 9000 := by omega
                                                   exact this
              obtain ⟨B, hB⟩ : ∃ B, B = logS 0 rs := ⟨_, rfl⟩
              obtain ⟨RC, hRC⟩ : ∃ RC, RC = recS nA s := ⟨_, rfl⟩
              have HB : Hid (B = logS 0 rs ∧ RC = recS nA s) := ⟨hB, hRC⟩
              have bI : (B.size : Int) ≤ 900600 := by have := HX.out; have := log_bound HX.out.2.2.2.1 (by omega) HX.out.2.2.2.2.1; rw [hB]; omega
              have HBI : Hid (B.size ≤ 900600 ∧ RC.size ≤ 9006) := by
                have q : B.size ≤ 900600 ∧ RC.size ≤ 9006 := ⟨by omega, by rw [hRC, recS_size]; omega⟩
                exact q
              have sI : (s.size : Int) ≤ 9000 := by omega
              have nI : (nA : Int) ≤ 100 := by have := HX.out; omega
              have z0 : ((nA : Int) != (nA : Int)) = false := by simp
              rw [← hRC] at KW
              rw [← hB]
              clear hs hB hRC
              go_wp2_with fail
              refine Calls.mono KA.out ?_
              rintro e w4 ⟨rfl, c4, hF4, hD4, hG4, hC4, hk4⟩
              have H4 : Hid (Tr w w4 c4 G L (sizesN (rs.take j)) (rs ++ [s]) aa capA rs ∧ Stp w4 c4 K ([.int .i64 X, .int .i64 N, .int .i64 M, .string s] : List Value)) := ⟨H3.out.1.app (by rw [← HX.out.2.2.1]; exact hF4) hD4 hG4 hC4 hk4, H3.out.2.off hC4 (fun k _ hc q => by rw [hc] at q; omega) hk4⟩
              have s3 : w4.cell? ⟨K, 3, none⟩ = some (.string s) := H4.out.2.2.2 3 _ rfl
              clear hF4 hD4 hG4 hC4 hk4 KA k0 k1 k2 k3
              have w1z : wrap64 ((B.size : Int) + (s.size : Int)) = (B.size : Int) + (s.size : Int) := by simp only [wrap64]; omega
              have w2z : wrap64 ((B.size : Int) + (s.size : Int) + 6) = (B.size : Int) + (s.size : Int) + 6 := by simp only [wrap64]; omega
              have w3z : decide ((1048576 : Int) < (B.size : Int) + (s.size : Int) + 6) = false := decide_eq_false (by omega)
              clear bI
              go_wp2_with fail
              refine Calls.mono (KW.out _) ?_
              rintro e w5 ⟨rfl, hb5⟩
              have H5 : Hid (Tr w (w5.alloc (.cells #[.string s] 9)) (paint (paint c4 w4 w5 3) w5 (w5.alloc (.cells #[.string s] 9)) 3) G L (sizesN (rs.take j)) (rs ++ [s]) aa capA rs ∧ Stp (w5.alloc (.cells #[.string s] 9)) (paint (paint c4 w4 w5 3) w5 (w5.alloc (.cells #[.string s] 9)) 3) K ([.int .i64 X, .int .i64 N, .int .i64 M, .string s] : List Value)) := ⟨(H4.out.1.call 3 hb5).call 3 (below_alloc0 (Below.refl _ _) _), (H4.out.2.call 3 hb5).call 3 (below_alloc0 (Below.refl _ _) _)⟩
              have s3' : w5.cell? ⟨K, 3, none⟩ = some (.string s) := (hb5.cell (p := ⟨K, 3, none⟩) H4.out.2.2.1).trans s3
              have HS5 : Hid (∀ j u, ([Value.string s] : List Value)[j]? = some u → (w5.alloc (.cells #[.string s] 9)).cell? ((⟨w5.heap.size, 0, none⟩ : Addr).add j) = some u) := fun j u hj => by
                rw [Addr.add_lit, Nat.zero_add, World.cell?_alloc_new, List.getElem?_toArray]; exact hj
              clear hb5 s3 KW w1z w2z w3z sI hs'
              have bN := HBI.out.1
              have rN := HBI.out.2
              go_wp2_with (at_builtin; refine wpList_append_RowV _ rfl (.tmp 98) (.tmp 101) 23 rfl (fun k => paint (paint c4 w4 w5 3) w5 (w5.alloc (.cells #[.string s] 9)) 3 k = 4 ∨ (w5.alloc (.cells #[.string s] 9)).heap.size ≤ k) 9 i0 (.string ⟨#[]⟩) 16 Tryd.underlying23 HSI.out.1 HSI.out.2.1 rfl HSI.out.2.2.1 HSI.out.2.2.2 aa nA capA (rs.map Value.string) [.string s] rfl (by rw [List.length_map]; exact HX.out.2.2.1) H5.out.1.row (by rw [List.length_map]; have := HX.out; unfold maxLen; simp; omega) (by rw [List.length_map]; have := HX.out; simp; omega) (fun k hk => .inr hk) ⟨w5.heap.size, 0, none⟩ 1 1 rfl rfl HS5.out (by intro u hu; simp at hu; subst hu; rfl) ?_; intro a9 m9 cap9 w9 hm9 hR9 hb9; have H9 : Hid (m9 = nA + 1 ∧ Tr w w9 (paint (paint (paint c4 w4 w5 3) w5 (w5.alloc (.cells #[.string s] 9)) 3) (w5.alloc (.cells #[.string s] 9)) w9 4) G L (sizesN (rs.take j)) (rs ++ [s]) a9 cap9 (rs ++ [s]) ∧ Stp w9 (paint (paint (paint c4 w4 w5 3) w5 (w5.alloc (.cells #[.string s] 9)) 3) (w5.alloc (.cells #[.string s] 9)) w9 4) K ([.int .i64 X, .int .i64 N, .int .i64 M, .string s] : List Value)) := ⟨hm9, H5.out.1.push hR9 hb9, H5.out.2.off hb9 (fun k hk hc q => by rcases q with q | q; (rw [hc] at q; omega); omega) (fun k hk => paint_old hk)⟩; clear hm9 hR9 hb9)
              have HE : Hid (LT w w9 G (i + 1) K ([.int .i64 X, .int .i64 N, .int .i64 M, .string s] : List Value) (.pointer (some ⟨L, 0, none⟩)) (.slice a9 m9 cap9) (.string (B ++ RC)) (.int .i64 (j : Nat))) := by
                have e : B ++ RC = logS 0 (rs ++ [s]) := by rw [log_snoc, HB.out.1, HB.out.2, Nat.zero_add, HX.out.2.2.1]
                refine ⟨rs ++ [s], j, _, L, a9, m9, cap9, rfl, rfl, ?_, by rw [e], rfl, ?_, H9.out.2.2, ?_, ?_, fun x hx => ?_⟩
                · rw [H9.out.1, HX.out.2.2.1, List.length_append]; rfl
                · rw [List.take_append_of_le_length HX.out.2.1]; exact H9.out.2.1
                · rw [List.length_append]; have := HX.out.2.1; omega
                · rw [List.length_append]; have := HX.out.2.2.2.1; show _ + 1 ≤ _; omega
                · rcases List.mem_append.1 hx with hx | hx
                  · exact HX.out.2.2.2.2.1 x hx
                  · rw [List.mem_singleton.1 hx]; exact HS9.out
              go_meet
              exact HE.out
          · as_aux_lemma =>
              have hs' : (9000 : Int) < (s.size : Int) := by omega
              have KA : Hid _ := lappend_long (some ⟨L, 0, none⟩) s (by omega) W3
              clear hs
              go_wp2_with fail
              refine Calls.mono KA.out ?_
              rintro e w4 ⟨rfl, rfl⟩
              clear KA
              go_wp2_with fail
              go_meet
              exact HE0.out
        have xb0 : (X == 0) = false := beq_eq_false_iff_ne.2 hX0
        by_cases hX1 : X = 1
        · have xb1 : (X == 1) = true := by rw [hX1]; rfl
          clear hX0 hX1
          by_cases hs : s.size ≤ 9000
          · as_aux_lemma =>
              have hs' : ¬ (9000 : Int) < (s.size : Int) := by omega
              have KA : Hid _ := lappend_ok c3 G L (sizesN (rs.take j)) (logS 0 rs) s rs (by omega) (by have := HX.out; have := log_bound HX.out.2.2.2.1 (by omega) HX.out.2.2.2.2.1; omega) (by have := HX.out; omega) W3 H3.out.1.fil H3.out.1.led H3.out.1.glb
              have KW : Hid (∀ w', Calls Tryd.prog 19 #[.int .i64 (nA : Nat), .string s] w' fun e w'' => e = .returned (.string (recS nA s)) ∧ Below w'.heap.size w' w'') := fun w' => written_any nA s (by have := HX.out; omega) (by omega) w'
              rw [← HX.out.2.2.1] at KA
              have HS9 : Hid (s.size ≤ 9000) := by have : s.size ≤ 9000 := by omega
                                                   exact this
              obtain ⟨B, hB⟩ : ∃ B, B = logS 0 rs := ⟨_, rfl⟩
              obtain ⟨RC, hRC⟩ : ∃ RC, RC = recS nA s := ⟨_, rfl⟩
              have HB : Hid (B = logS 0 rs ∧ RC = recS nA s) := ⟨hB, hRC⟩
              have bI : (B.size : Int) ≤ 900600 := by have := HX.out; have := log_bound HX.out.2.2.2.1 (by omega) HX.out.2.2.2.2.1; rw [hB]; omega
              have HBI : Hid (B.size ≤ 900600 ∧ RC.size ≤ 9006) := by
                have q : B.size ≤ 900600 ∧ RC.size ≤ 9006 := ⟨by omega, by rw [hRC, recS_size]; omega⟩
                exact q
              have sI : (s.size : Int) ≤ 9000 := by omega
              have nI : (nA : Int) ≤ 100 := by have := HX.out; omega
              have z0 : ((nA : Int) != (nA : Int)) = false := by simp
              rw [← hRC] at KW
              rw [← hB]
              clear hs hB hRC
              go_wp2_with fail
              refine Calls.mono KA.out ?_
              rintro e w4 ⟨rfl, c4, hF4, hD4, hG4, hC4, hk4⟩
              have H4 : Hid (Tr w w4 c4 G L (sizesN (rs.take j)) (rs ++ [s]) aa capA rs ∧ Stp w4 c4 K ([.int .i64 X, .int .i64 N, .int .i64 M, .string s] : List Value)) := ⟨H3.out.1.app (by rw [← HX.out.2.2.1]; exact hF4) hD4 hG4 hC4 hk4, H3.out.2.off hC4 (fun k _ hc q => by rw [hc] at q; omega) hk4⟩
              have s3 : w4.cell? ⟨K, 3, none⟩ = some (.string s) := H4.out.2.2.2 3 _ rfl
              clear hF4 hD4 hG4 hC4 hk4 KA k0 k1 k2 k3
              have w1z : wrap64 ((B.size : Int) + (s.size : Int)) = (B.size : Int) + (s.size : Int) := by simp only [wrap64]; omega
              have w2z : wrap64 ((B.size : Int) + (s.size : Int) + 6) = (B.size : Int) + (s.size : Int) + 6 := by simp only [wrap64]; omega
              have w3z : decide ((1048576 : Int) < (B.size : Int) + (s.size : Int) + 6) = false := decide_eq_false (by omega)
              clear bI
              go_wp2_with fail
              refine Calls.mono (KW.out _) ?_
              rintro e w5 ⟨rfl, hb5⟩
              have H5 : Hid (Tr w (w5.alloc (.cells #[.string s] 9)) (paint (paint c4 w4 w5 3) w5 (w5.alloc (.cells #[.string s] 9)) 3) G L (sizesN (rs.take j)) (rs ++ [s]) aa capA rs ∧ Stp (w5.alloc (.cells #[.string s] 9)) (paint (paint c4 w4 w5 3) w5 (w5.alloc (.cells #[.string s] 9)) 3) K ([.int .i64 X, .int .i64 N, .int .i64 M, .string s] : List Value)) := ⟨(H4.out.1.call 3 hb5).call 3 (below_alloc0 (Below.refl _ _) _), (H4.out.2.call 3 hb5).call 3 (below_alloc0 (Below.refl _ _) _)⟩
              have s3' : w5.cell? ⟨K, 3, none⟩ = some (.string s) := (hb5.cell (p := ⟨K, 3, none⟩) H4.out.2.2.1).trans s3
              have HS5 : Hid (∀ j u, ([Value.string s] : List Value)[j]? = some u → (w5.alloc (.cells #[.string s] 9)).cell? ((⟨w5.heap.size, 0, none⟩ : Addr).add j) = some u) := fun j u hj => by
                rw [Addr.add_lit, Nat.zero_add, World.cell?_alloc_new, List.getElem?_toArray]; exact hj
              clear hb5 s3 KW w1z w2z w3z sI hs'
              have bN := HBI.out.1
              have rN := HBI.out.2
              go_wp2_with (at_builtin; refine wpList_append_RowV _ rfl (.tmp 98) (.tmp 101) 23 rfl (fun k => paint (paint c4 w4 w5 3) w5 (w5.alloc (.cells #[.string s] 9)) 3 k = 4 ∨ (w5.alloc (.cells #[.string s] 9)).heap.size ≤ k) 9 i0 (.string ⟨#[]⟩) 16 Tryd.underlying23 HSI.out.1 HSI.out.2.1 rfl HSI.out.2.2.1 HSI.out.2.2.2 aa nA capA (rs.map Value.string) [.string s] rfl (by rw [List.length_map]; exact HX.out.2.2.1) H5.out.1.row (by rw [List.length_map]; have := HX.out; unfold maxLen; simp; omega) (by rw [List.length_map]; have := HX.out; simp; omega) (fun k hk => .inr hk) ⟨w5.heap.size, 0, none⟩ 1 1 rfl rfl HS5.out (by intro u hu; simp at hu; subst hu; rfl) ?_; intro a9 m9 cap9 w9 hm9 hR9 hb9; have H9 : Hid (m9 = nA + 1 ∧ Tr w w9 (paint (paint (paint c4 w4 w5 3) w5 (w5.alloc (.cells #[.string s] 9)) 3) (w5.alloc (.cells #[.string s] 9)) w9 4) G L (sizesN (rs.take j)) (rs ++ [s]) a9 cap9 (rs ++ [s]) ∧ Stp w9 (paint (paint (paint c4 w4 w5 3) w5 (w5.alloc (.cells #[.string s] 9)) 3) (w5.alloc (.cells #[.string s] 9)) w9 4) K ([.int .i64 X, .int .i64 N, .int .i64 M, .string s] : List Value)) := ⟨hm9, H5.out.1.push hR9 hb9, H5.out.2.off hb9 (fun k hk hc q => by rcases q with q | q; (rw [hc] at q; omega); omega) (fun k hk => paint_old hk)⟩; clear hm9 hR9 hb9)
              have HE : Hid (LT w w9 G (i + 1) K ([.int .i64 X, .int .i64 N, .int .i64 M, .string s] : List Value) (.pointer (some ⟨L, 0, none⟩)) (.slice a9 m9 cap9) (.string (B ++ RC)) (.int .i64 (j : Nat))) := by
                have e : B ++ RC = logS 0 (rs ++ [s]) := by rw [log_snoc, HB.out.1, HB.out.2, Nat.zero_add, HX.out.2.2.1]
                refine ⟨rs ++ [s], j, _, L, a9, m9, cap9, rfl, rfl, ?_, by rw [e], rfl, ?_, H9.out.2.2, ?_, ?_, fun x hx => ?_⟩
                · rw [H9.out.1, HX.out.2.2.1, List.length_append]; rfl
                · rw [List.take_append_of_le_length HX.out.2.1]; exact H9.out.2.1
                · rw [List.length_append]; have := HX.out.2.1; omega
                · rw [List.length_append]; have := HX.out.2.2.2.1; show _ + 1 ≤ _; omega
                · rcases List.mem_append.1 hx with hx | hx
                  · exact HX.out.2.2.2.2.1 x hx
                  · rw [List.mem_singleton.1 hx]; exact HS9.out
              go_meet
              exact HE.out
          · as_aux_lemma =>
              have hs' : (9000 : Int) < (s.size : Int) := by omega
              have KA : Hid _ := lappend_long (some ⟨L, 0, none⟩) s (by omega) W3
              clear hs
              go_wp2_with fail
              refine Calls.mono KA.out ?_
              rintro e w4 ⟨rfl, rfl⟩
              clear KA
              go_wp2_with fail
              go_meet
              exact HE0.out
        have xb1 : (X == 1) = false := beq_eq_false_iff_ne.2 hX1
        by_cases hX2 : X = 2
        · have xb2 : (X == 2) = true := by rw [hX2]; rfl
          clear hX0 hX1 hX2
          as_aux_lemma =>
            have KS : Hid _ := lsync_ok c3 G L (sizesN (rs.take j)) (logS 0 rs) rs (by have := HX.out; have := log_bound HX.out.2.2.2.1 (by omega) HX.out.2.2.2.2.1; omega) W3 H3.out.1.fil H3.out.1.led H3.out.1.glb
            go_wp2_with fail
            refine Calls.mono KS.out ?_
            rintro e w4 ⟨rfl, c4, hF4, hD4, hG4, hC4, hk4⟩
            have HE : Hid (LT w w4 G (i + 1) K ([.int .i64 X, .int .i64 N, .int .i64 M, .string s] : List Value) (.pointer (some ⟨L, 0, none⟩)) (.slice aa nA capA) (.string (logS 0 rs)) (.int .i64 (nA : Nat))) := by
              refine ⟨rs, nA, c4, L, aa, nA, capA, rfl, rfl, HX.out.2.2.1, rfl, rfl, ?_, H3.out.2.off hC4 (fun k _ hc q => by rw [hc] at q; omega) hk4, by have := HX.out.2.2.1; omega, by have := HX.out.2.2.2.1; omega, HX.out.2.2.2.2.1⟩
              have h := H3.out.1.sync hF4 hD4 hG4 hC4 hk4
              have e : rs.take nA = rs := by rw [HX.out.2.2.1]; exact List.take_length
              rw [e]
              exact ⟨h.fil, h.led, h.glb, h.bel, h.zero, h.row⟩
            clear hF4 hD4 hG4 hC4 hk4 KS
            go_wp2_with fail
            go_meet
            exact HE.out
        have xb2 : (X == 2) = false := beq_eq_false_iff_ne.2 hX2
        by_cases hX3 : X = 3
        · have xb3 : (X == 3) = true := by rw [hX3]; rfl
          clear hX0 hX1 hX2 hX3
          as_aux_lemma =>
            have HM : Hid (sizesN (rs.take j) ≤ (logS 0 rs).size ∧ (logS 0 rs).size ≤ 1000000) := by
              have h := log_bound HX.out.2.2.2.1 (by have := HX.out; omega) HX.out.2.2.2.2.1
              refine ⟨by rw [logS_size]; exact sizes_take9 rs j, by have := HX.out; omega⟩
            by_cases hcr : N < 0 ∨ ((logS 0 rs).size : Int) - ((sizesN (rs.take j) : Nat) : Int) < N ∨ M < 0 ∨ 255 < M
            · have KC : Hid (Calls Tryd.prog 21 #[.pointer (some ⟨G, 0, none⟩), .int .i64 N, .int .i64 M] W3 fun e w'' => e = .returned (.int .i64 1) ∧ Fil w'' (paint c3 W3 w'' 1) 1 11 G (sizesN (rs.take j)) (logS 0 rs) ∧ Chg W3 c3 1 11 w'') :=
                H3.out.1.fil.op fun P hf => fcrash_no G P (sizesN (rs.take j)) N M (logS 0 rs) HM.out.1 (by have := HM.out; omega) hcr W3 hf
              clear hcr
              go_wp2_with fail
              refine KC.out.mono ?_
              rintro e w5 ⟨rfl, hF5, hC5⟩
              have H5 : Hid (LS w w5 G (i + 1) (.pointer (some ⟨L, 0, none⟩)) (.slice aa nA capA) (.string (logS 0 rs)) (.int .i64 (j : Nat))) :=
                ⟨rs, j, _, L, aa, nA, capA, rfl, rfl, HX.out.2.2.1, rfl, rfl, ⟨hF5, H3.out.1.led.keep 1 hC5 (by decide) (by decide) (by decide) (by decide), H3.out.1.glb.keep 1 hC5 (by decide) (by decide), H3.out.1.bel.trans (hC5.under H3.out.1.zero (by decide) (by decide)), zero_paint H3.out.1.zero (Off.size hC5), H3.out.1.row.keep 1 hC5 (by decide) (by decide)⟩, HX.out.2.1, by have := HX.out; omega, HX.out.2.2.2.2.1⟩
              clear hF5 hC5 KC
              go_wp2_with fail
              go_roundw
              case rel => exact ⟨i + 1, by have := HX.out.1; omega, by first | rfl | (congr 1), H5.out⟩
              case measure => have := HX.out.1; simp [Go.RowKit.intOf]; omega
            · obtain ⟨k, hk⟩ : ∃ k : Nat, N = (k : Nat) := ⟨N.toNat, by omega⟩
              obtain ⟨q, hq⟩ : ∃ q : Nat, M = (q : Nat) := ⟨M.toNat, by omega⟩
              obtain ⟨m1, bs1, j1, hKC, hj1, hj2, hj3, hj4, hbz⟩ := crash_any (k := k) (q := q) HM.out.2 HX.out.2.2.2.2.1 HX.out.2.1 rfl (by have := HM.out; omega) (by omega) H3.out.1.fil
              rw [← hk, ← hq] at hKC
              have KC : Hid (Calls Tryd.prog 21 #[.pointer (some ⟨G, 0, none⟩), .int .i64 N, .int .i64 M] W3 fun e w'' => e = .returned (.int .i64 0) ∧ Fil w'' (paint c3 W3 w'' 1) 1 11 G m1 bs1 ∧ Chg W3 c3 1 11 w'') := hKC
              obtain ⟨ts, hts⟩ : ∃ ts, ts = rs.take j1 := ⟨_, rfl⟩
              rw [← hts] at hj3 hj4
              obtain ⟨nt, hnt⟩ : ∃ nt, nt = ts.length := ⟨_, rfl⟩
              have ntj : nt = j1 := by rw [hnt, hts, List.length_take]; omega
              have HTS : Hid (nt = ts.length ∧ ts = rs.take nt ∧ (∀ x ∈ ts, x.size ≤ 9000) ∧ nt ≤ nA ∧ Told 0 bs1 ts ∧ bs1.extract 0 (sizesN ts) = logS 0 ts ∧ bs1.size ≤ 1000000 ∧ sizesN ts ≤ (logS 0 rs).size ∧ (logS 0 rs).extract 0 (sizesN ts) = logS 0 ts) := ⟨hnt, by rw [ntj]; exact hts, fun x hx => HX.out.2.2.2.2.1 x (by rw [hts] at hx; exact List.mem_of_mem_take hx), by have := HX.out.2.2.1; omega, hj3, hj4, hbz, by rw [logS_size, hts]; exact sizes_take9 rs j1, by rw [hts]; exact log_take rs 0 j1 hj1⟩
              have q1 : ¬ ((nt : Int) < (j : Int)) := by omega
              have q2 : ¬ ((nA : Int) < (nt : Int)) := by have := HX.out.2.2.1; omega
              have q3 : (nt : Int) ≤ (nA : Int) := by have := HX.out.2.2.1; omega
              have q4 : nt ≤ nA := by have := HX.out.2.2.1; omega
              have q5 : (nt : Int) ≤ 100 := by have := HX.out; omega
              have q6 : (nt : Int) ≤ (capA : Int) := by have h := RowV.len H3.out.1.row; rw [List.length_map, ← HX.out.2.2.1] at h; omega
              have q7 : decide ((nA : Int) < (nt : Int)) = false := decide_eq_false q2
              have q8 : decide (nA < nt) = false := decide_eq_false (by omega)
              have q9 : decide ((nt : Int) < (j : Int)) = false := decide_eq_false q1
              have qa : decide (nt < j) = false := decide_eq_false (by omega)
              have KO5 : Hid (∀ (w' : World) (c' : Nat → Nat), Fil w' c' 1 11 G m1 bs1 → Glb w' c' → Calls Tryd.prog 13 #[.pointer (some ⟨G, 0, none⟩)] w' fun e w'' => ∃ (L : Nat) (c'' : Nat → Nat), e = .returned (.tuple #[.pointer (some ⟨L, 0, none⟩), .int .i64 0]) ∧ Fil w'' c'' 1 11 G (sizesN ts) (bs1.extract 0 (sizesN ts)) ∧ Led w'' c'' G L ts ∧ Glb w'' c'' ∧ Chg w' c' 1 11 w'' ∧ w'.heap.size ≤ L ∧ ∀ k, k < w'.heap.size → c'' k = c' k) := fun w' c' h1 h2 => lopen_any c' G m1 bs1 (by have := HTS.out; omega) ts HTS.out.2.2.2.2.1 w' h1 h2
              have KB5 : Hid (∀ (w' : World) (c' : Nat → Nat), Fil w' c' 1 11 G m1 bs1 → Calls Tryd.prog 17 #[.pointer (some ⟨G, 0, none⟩)] w' fun e w'' => e = .returned (.string bs1) ∧ w'' = w') := fun w' c' h => fbytes_any G _ m1 bs1 w' h.2.2
              have KR5 : Hid _ := fun w' : World => read11_any bs1 (by have := HTS.out; omega) ts HTS.out.2.2.2.2.1 w'
              rw [← hnt] at KR5
              obtain ⟨B, hB⟩ : ∃ B, B = logS 0 rs := ⟨_, rfl⟩
              obtain ⟨z1, hz1⟩ : ∃ z1, z1 = sizesN ts := ⟨_, rfl⟩
              have HB : Hid (B = logS 0 rs ∧ z1 = sizesN ts) := ⟨hB, hz1⟩
              have zB : (z1 : Int) ≤ (B.size : Int) := by have := HTS.out.2.2.2.2.2.2.2.1; rw [hz1, hB]; omega
              have zC : z1 ≤ B.size := by omega
              have bI : (B.size : Int) ≤ 1000000 := by have := HM.out.2; rw [hB]; omega
              rw [← hz1] at KR5
              rw [← hB]
              clear hj1 hj2 hj3 hj4 hts hnt ntj hbz hKC hcr hk hq hB hz1
              go_wp2_with fail
              refine KC.out.mono ?_
              rintro e w5 ⟨rfl, hF5, hC5⟩
              have H5 : Hid (Fil w5 (paint c3 W3 w5 1) 1 11 G m1 bs1 ∧ Glb w5 (paint c3 W3 w5 1) ∧ Below w.heap.size w w5 ∧ (∀ k, k < w.heap.size → k < w5.heap.size ∧ paint c3 W3 w5 1 k = 0) ∧ Row w5 (paint c3 W3 w5 1) 4 aa (rs.map Value.string) capA ∧ Stp w5 (paint c3 W3 w5 1) K ([.int .i64 X, .int .i64 N, .int .i64 M, .string s] : List Value)) :=
                ⟨hF5, H3.out.1.glb.keep 1 hC5 (by decide) (by decide), H3.out.1.bel.trans (hC5.under H3.out.1.zero (by decide) (by decide)), zero_paint H3.out.1.zero (Off.size hC5), H3.out.1.row.keep 1 hC5 (by decide) (by decide), H3.out.2.off hC5 (fun k hk hc q => by rcases q with q | q | q; (rw [hc] at q; omega); (rw [hc] at q; omega); omega) (fun k hk => paint_old hk)⟩
              obtain ⟨c5, hc5⟩ : ∃ c5, c5 = paint c3 W3 w5 1 := ⟨_, rfl⟩
              rw [← hc5] at H5
              clear hF5 hC5 hc5 KC k0 k1 k2 k3
              go_wp2_with fail
              refine (KB5.out _ _ H5.out.1).mono ?_
              rintro e w5' ⟨rfl, rfl⟩
              clear KB5
              go_wp2_with fail
              refine (KR5.out _).mono ?_
              rintro e w6 ⟨a6, cap6, rfl, hR6, hb6⟩
              obtain ⟨g7, hg7⟩ : ∃ g7, g7 = w6.heap.size := ⟨_, rfl⟩
              obtain ⟨w7, hw7⟩ : ∃ w7, w7 = w6.alloc (.cells #[.slice a6 nt cap6, .int .i64 (z1 : Nat)] 27) := ⟨_, rfl⟩
              have HW7 : Hid (w7 = w6.alloc (.cells #[.slice a6 nt cap6, .int .i64 (z1 : Nat)] 27) ∧ g7 = w6.heap.size) := ⟨hw7, hg7⟩
              have hb7 : Below w6.heap.size w6 w7 := by rw [hw7]; exact below_alloc0 (Below.refl _ _) _
              obtain ⟨c7, hc7⟩ : ∃ c7, c7 = paint (paint c5 w5' w6 4) w6 w7 8 := ⟨_, rfl⟩
              have H7 : Hid (Fil w7 c7 1 11 G m1 bs1 ∧ Glb w7 c7 ∧ Below w.heap.size w w7 ∧ (∀ k, k < w.heap.size → k < w7.heap.size ∧ c7 k = 0) ∧ Row w7 c7 4 aa (rs.map Value.string) capA ∧ Stp w7 c7 K ([.int .i64 X, .int .i64 N, .int .i64 M, .string s] : List Value) ∧ Row w7 c7 4 a6 (ts.map Value.string) cap6 ∧ (c7 g7 = 8 ∧ g7 < w7.heap.size ∧ w7.cell? ⟨g7, 0, none⟩ = some (.slice a6 nt cap6) ∧ w7.cell? ⟨g7, 1, none⟩ = some (.int .i64 (z1 : Nat)))) := by
                obtain ⟨h1, h2, h3, h4, h5, h6⟩ := H5.out
                have b6 := Chg.of_below (c := c5) (i := 9) (j := 9) hb6
                have b7 := Chg.of_below (c := paint c5 w5' w6 4) (i := 9) (j := 9) hb7
                rw [hc7]
                refine ⟨(h1.keep 4 b6 (by decide) (by decide) (by decide) (by decide)).keep 8 b7 (by decide) (by decide) (by decide) (by decide), (h2.keep 4 b6 (by decide) (by decide)).keep 8 b7 (by decide) (by decide), h3.trans ((hb6.trans (hb7.mono hb6.size)).mono h3.size), zero_paint (zero_paint h4 hb6.size) hb7.size, (h5.keep 4 b6 (by decide) (by decide)).keep 8 b7 (by decide) (by decide), (h6.call 4 hb6).call 8 hb7, ?_, ?_⟩
                · exact Row.keep 8 (RowV.mono hR6 (fun k hk hz => .inl (paint_new hz hk))) b7 (by decide) (by decide)
                · rw [hw7, hg7]
                  exact ⟨paint_new (Nat.le_refl _) (by simp), by simp, by simp [go_sem], by simp [go_sem]⟩
              clear hR6 hb6 hb7 hg7 hw7 hc7 KR5 H5
              go_wp2_with fail
              rw [← HW7.out.1, ← HW7.out.2]
              clear HW7
              refine (KO5.out w7 c7 H7.out.1 H7.out.2.1).mono ?_
              rintro e w8 ⟨L2, c8, rfl, hF8, hD8, hG8, hC8, hL8, hk8⟩
              rw [HTS.out.2.2.2.2.2.1] at hF8
              have H8 : Hid (Tr w w8 c8 G L2 (sizesN ts) ts a6 cap6 ts ∧ Row w8 c8 4 aa (rs.map Value.string) capA ∧ Stp w8 c8 K ([.int .i64 X, .int .i64 N, .int .i64 M, .string s] : List Value) ∧ g7 < w8.heap.size ∧ w8.cell? ⟨g7, 0, none⟩ = some (.slice a6 nt cap6) ∧ w8.cell? ⟨g7, 1, none⟩ = some (.int .i64 (z1 : Nat))) := by
                obtain ⟨h1, h2, h3, h4, h5, h6, h7, h8, h9, h10, h11⟩ := H7.out
                exact ⟨⟨hF8, hD8, hG8, h3.trans (hC8.under h4 (by decide) (by decide)), zero_of h4 (Off.size hC8) hk8, h7.off hC8 (fun k hz hc q => by rw [hc] at q; omega) hk8⟩, h5.off hC8 (fun k hz hc q => by rw [hc] at q; omega) hk8, h6.off hC8 (fun k hz hc q => by rw [hc] at q; omega) hk8, Nat.lt_of_lt_of_le h9 (Off.size hC8), (hC8.cell h9 (by rw [h8]; decide) (by rw [h8]; decide)).trans h10, (hC8.cell h9 (by rw [h8]; decide) (by rw [h8]; decide)).trans h11⟩
              have t0 : w8.cell? ⟨g7, 0, none⟩ = some (.slice a6 nt cap6) := H8.out.2.2.2.2.1
              have t1 : w8.cell? ⟨g7, 1, none⟩ = some (.int .i64 (z1 : Nat)) := H8.out.2.2.2.2.2
              have gz : g7 < w8.heap.size := H8.out.2.2.2.1
              have KT : Hid (∀ w', Below w8.heap.size w8 w' → Calls Tryd.prog 15 #[.slice a6 nt cap6, .slice aa nt capA] w' fun e w'' => e = .returned (.bool true) ∧ Below w'.heap.size w' w'') := fun w' hb => by
                have hA7 : Strs w' aa ts := by
                  have h := rowV_strs (RowV.call H8.out.2.1 hb)
                  rw [HTS.out.2.1]
                  intro i s hi
                  exact h i s (by rw [List.getElem?_take] at hi; split at hi; exact hi; cases hi)
                have h := texts_any a6 aa ts ts cap6 capA (by have := HTS.out; have := HX.out; omega) w' (rowV_strs (RowV.call H8.out.1.row hb)) hA7
                rw [← HTS.out.1, decide_eq_true rfl] at h
                exact h
              clear hF8 hD8 hG8 hC8 hL8 hk8 KO5 H7
              go_wp2_with fail
              refine wp_region_H (fun w' => Below w8.heap.size w8 w') 28 rfl (by kernel_rfl) ?_
              refine wpAnyH_take (i := 0) (oi := ?o0c) (v := ?v0c) ?hi0c (by kernel_rfl) (by kernel_rfl) (by kernel_rfl) ?hQ0c ?hy0c (Below.drew (Below.refl _ _)) ?more0c
              case hi0c => rw [List.getElem?_toArray]; exact rfl
              case hQ0c => exact fun _ _ _ h => h
              case hy0c =>
                refine Or.inl ⟨by rfl, ?_⟩
                intro w' hSw
                have q0 := (hSw.cell (p := ⟨g7, 0, none⟩) gz).trans t0
                clear hSw
                go_simp
                try with_reducible rfl
              simp only [Act.put, List.setIfInBounds_toArray, List.set_cons_zero, List.set_cons_succ]
              refine wpAnyH_take (i := 1) (oi := ?o1c) (v := ?v1c) ?hi1c (by kernel_rfl) (by kernel_rfl) (by kernel_rfl) ?hQ1c ?hy1c (Below.drew (Below.refl _ _)) ?more1c
              case hi1c => rw [List.getElem?_toArray]; exact rfl
              case hQ1c => exact fun _ _ _ h => h
              case hy1c =>
                refine Or.inl ⟨by rfl, ?_⟩
                intro w' hSw
                have q0 := (hSw.cell (p := ⟨g7, 0, none⟩) gz).trans t0
                clear hSw
                go_simp
                try with_reducible rfl
              simp only [Act.put, List.setIfInBounds_toArray, List.set_cons_zero, List.set_cons_succ]
              refine wpAnyH_take (i := 2) (oi := ?o2c) (v := ?v2c) ?hi2c (by kernel_rfl) (by kernel_rfl) (by kernel_rfl) ?hQ2c ?hy2c (Below.drew (Below.refl _ _)) ?more2c
              case hi2c => rw [List.getElem?_toArray]; exact rfl
              case hQ2c => exact fun _ _ _ h => h
              case hy2c =>
                refine Or.inl ⟨by rfl, ?_⟩
                intro w' hSw
                have q0 := (hSw.cell (p := ⟨g7, 0, none⟩) gz).trans t0
                clear hSw
                go_simp
                try with_reducible rfl
              simp only [Act.put, List.setIfInBounds_toArray, List.set_cons_zero, List.set_cons_succ]
              refine wpAnyH_take (i := 3) (oi := ?o3c) (v := ?v3c) ?hi3c (by kernel_rfl) (by kernel_rfl) (by kernel_rfl) ?hQ3c ?hy3c (Below.drew (Below.refl _ _)) ?more3c
              case hi3c => rw [List.getElem?_toArray]; exact rfl
              case hQ3c => exact fun _ _ _ h => h
              case hy3c =>
                refine Or.inl ⟨by rfl, ?_⟩
                intro w' hSw
                have q0 := (hSw.cell (p := ⟨g7, 0, none⟩) gz).trans t0
                clear hSw
                go_simp
                try with_reducible rfl
              simp only [Act.put, List.setIfInBounds_toArray, List.set_cons_zero, List.set_cons_succ]
              refine wpAnyH_take (i := 4) (oi := ?o4c) (v := ?v4c) ?hi4c (by kernel_rfl) (by kernel_rfl) (by kernel_rfl) ?hQ4c ?hy4c (Below.drew (Below.refl _ _)) ?more4c
              case hi4c => rw [List.getElem?_toArray]; exact rfl
              case hQ4c => exact fun _ _ _ h => h
              case hy4c =>
                refine Or.inl ⟨by rfl, ?_⟩
                intro w' hSw
                have q0 := (hSw.cell (p := ⟨g7, 0, none⟩) gz).trans t0
                clear hSw
                go_simp
                try with_reducible rfl
              simp only [Act.put, List.setIfInBounds_toArray, List.set_cons_zero, List.set_cons_succ]
              refine wpAnyH_take (i := 5) (oi := ?o5c) (v := ?v5c) ?hi5c (by kernel_rfl) (by kernel_rfl) (by kernel_rfl) ?hQ5c ?hy5c (Below.drew (Below.refl _ _)) ?more5c
              case hi5c => rw [List.getElem?_toArray]; exact rfl
              case hQ5c => exact fun _ _ _ h => h
              case hy5c =>
                refine Or.inl ⟨by rfl, ?_⟩
                intro w' hSw
                have q0 := (hSw.cell (p := ⟨g7, 0, none⟩) gz).trans t0
                clear hSw
                go_simp
                try with_reducible rfl
              simp only [Act.put, List.setIfInBounds_toArray, List.set_cons_zero, List.set_cons_succ]
              refine wpAnyH_take (i := 6) (oi := ?o6c) (v := ?v6c) ?hi6c (by kernel_rfl) (by kernel_rfl) (by kernel_rfl) ?hQ6c ?hy6c (Below.drew (Below.refl _ _)) ?more6c
              case hi6c => rw [List.getElem?_toArray]; exact rfl
              case hQ6c => exact fun _ _ _ h => h
              case hy6c =>
                refine Or.inl ⟨by rfl, ?_⟩
                intro w' hSw
                have q0 := (hSw.cell (p := ⟨g7, 0, none⟩) gz).trans t0
                clear hSw
                go_simp
                try with_reducible rfl
              simp only [Act.put, List.setIfInBounds_toArray, List.set_cons_zero, List.set_cons_succ]
              refine wpAnyH_take (i := 7) (oi := ?o7c) (v := ?v7c) ?hi7c (by kernel_rfl) (by kernel_rfl) (by kernel_rfl) ?hQ7c ?hy7c (Below.drew (Below.refl _ _)) ?more7c
              case hi7c => rw [List.getElem?_toArray]; exact rfl
              case hQ7c => exact fun _ _ _ h => h
              case hy7c =>
                refine Or.inl ⟨by rfl, ?_⟩
                intro w' hSw
                have q0 := (hSw.cell (p := ⟨g7, 0, none⟩) gz).trans t0
                clear hSw
                go_simp
                try with_reducible rfl
              simp only [Act.put, List.setIfInBounds_toArray, List.set_cons_zero, List.set_cons_succ]
              refine wpAnyH_take (i := 8) (oi := ?o8c) (v := ?v8c) ?hi8c (by kernel_rfl) (by kernel_rfl) (by kernel_rfl) ?hQ8c ?hy8c (Below.drew (Below.refl _ _)) ?more8c
              case hi8c => rw [List.getElem?_toArray]; exact rfl
              case hQ8c => exact fun _ _ _ h => h
              case hy8c =>
                refine Or.inl ⟨by rfl, ?_⟩
                intro w' hSw
                have q0 := (hSw.cell (p := ⟨g7, 0, none⟩) gz).trans t0
                clear hSw
                go_simp
                try with_reducible rfl
              simp only [Act.put, List.setIfInBounds_toArray, List.set_cons_zero, List.set_cons_succ]
              refine wpAnyH_take (i := 9) (oi := ?o9c) (v := ?v9c) ?hi9c (by kernel_rfl) (by kernel_rfl) (by kernel_rfl) ?hQ9c ?hy9c (Below.drew (Below.refl _ _)) ?more9c
              case hi9c => rw [List.getElem?_toArray]; exact rfl
              case hQ9c => exact fun _ _ _ h => h
              case hy9c =>
                refine Or.inl ⟨by rfl, ?_⟩
                intro w' hSw
                have q0 := (hSw.cell (p := ⟨g7, 0, none⟩) gz).trans t0
                clear hSw
                go_simp
                try with_reducible rfl
              simp only [Act.put, List.setIfInBounds_toArray, List.set_cons_zero, List.set_cons_succ]
              refine wpAnyH_take (i := 10) (oi := ?o10c) (v := ?v10c) ?hi10c (by kernel_rfl) (by kernel_rfl) (by kernel_rfl) ?hQ10c ?hy10c (Below.drew (Below.refl _ _)) ?more10c
              case hi10c => rw [List.getElem?_toArray]; exact rfl
              case hQ10c => exact fun _ _ _ h => h
              case hy10c =>
                refine Or.inl ⟨by rfl, ?_⟩
                intro w' hSw
                have q0 := (hSw.cell (p := ⟨g7, 0, none⟩) gz).trans t0
                clear hSw
                go_simp
                try with_reducible rfl
              simp only [Act.put, List.setIfInBounds_toArray, List.set_cons_zero, List.set_cons_succ]
              refine wpAnyH_take (i := 11) (oi := ?o11c) (v := ?v11c) ?hi11c (by kernel_rfl) (by kernel_rfl) (by kernel_rfl) ?hQ11c ?hy11c (Below.drew (Below.refl _ _)) ?more11c
              case hi11c => rw [List.getElem?_toArray]; exact rfl
              case hQ11c => exact fun _ _ _ h => h
              case hy11c =>
                refine Or.inl ⟨by rfl, ?_⟩
                intro w' hSw
                have q0 := (hSw.cell (p := ⟨g7, 0, none⟩) gz).trans t0
                clear hSw
                go_simp
                try with_reducible rfl
              simp only [Act.put, List.setIfInBounds_toArray, List.set_cons_zero, List.set_cons_succ]
              refine wpAnyH_take (i := 12) (oi := ?o12c) (v := ?v12c) ?hi12c (by kernel_rfl) (by kernel_rfl) (by kernel_rfl) ?hQ12c ?hy12c (Below.drew (Below.refl _ _)) ?more12c
              case hi12c => rw [List.getElem?_toArray]; exact rfl
              case hQ12c => exact fun _ _ _ h => h
              case hy12c =>
                refine Or.inl ⟨by rfl, ?_⟩
                intro w' hSw
                have q0 := (hSw.cell (p := ⟨g7, 0, none⟩) gz).trans t0
                clear hSw
                go_simp
                try with_reducible rfl
              simp only [Act.put, List.setIfInBounds_toArray, List.set_cons_zero, List.set_cons_succ]
              refine wpAnyH_take (i := 13) (oi := ?o13c) (v := ?v13c) ?hi13c (by kernel_rfl) (by kernel_rfl) (by kernel_rfl) ?hQ13c ?hy13c (Below.drew (Below.refl _ _)) ?more13c
              case hi13c => rw [List.getElem?_toArray]; exact rfl
              case hQ13c => exact fun _ _ _ h => h
              case hy13c =>
                refine Or.inl ⟨by rfl, ?_⟩
                intro w' hSw
                have q0 := (hSw.cell (p := ⟨g7, 0, none⟩) gz).trans t0
                clear hSw
                go_simp
                try with_reducible rfl
              simp only [Act.put, List.setIfInBounds_toArray, List.set_cons_zero, List.set_cons_succ]
              refine wpAnyH_take (i := 14) (oi := ?o14c) (v := ?v14c) ?hi14c (by kernel_rfl) (by kernel_rfl) (by kernel_rfl) ?hQ14c ?hy14c (Below.drew (Below.refl _ _)) ?more14c
              case hi14c => rw [List.getElem?_toArray]; exact rfl
              case hQ14c => exact fun _ _ _ h => h
              case hy14c =>
                refine Or.inl ⟨by rfl, ?_⟩
                intro w' hSw
                have q0 := (hSw.cell (p := ⟨g7, 0, none⟩) gz).trans t0
                clear hSw
                go_simp
                try with_reducible rfl
              simp only [Act.put, List.setIfInBounds_toArray, List.set_cons_zero, List.set_cons_succ]
              refine wpAnyH_take (i := 15) (oi := ?o15c) (v := ?v15c) ?hi15c (by kernel_rfl) (by kernel_rfl) (by kernel_rfl) ?hQ15c ?hy15c (Below.drew (Below.refl _ _)) ?more15c
              case hi15c => rw [List.getElem?_toArray]; exact rfl
              case hQ15c => exact fun _ _ _ h => h
              case hy15c =>
                refine Or.inl ⟨by rfl, ?_⟩
                intro w' hSw
                have q0 := (hSw.cell (p := ⟨g7, 0, none⟩) gz).trans t0
                clear hSw
                go_simp
                try with_reducible rfl
              simp only [Act.put, List.setIfInBounds_toArray, List.set_cons_zero, List.set_cons_succ]
              refine wpAnyH_take (i := 16) (oi := ?o16c) (v := ?v16c) ?hi16c (by kernel_rfl) (by kernel_rfl) (by kernel_rfl) ?hQ16c ?hy16c (Below.drew (Below.refl _ _)) ?more16c
              case hi16c => rw [List.getElem?_toArray]; exact rfl
              case hQ16c => exact fun _ _ _ h => h
              case hy16c =>
                refine Or.inl ⟨by rfl, ?_⟩
                intro w' hSw
                have q0 := (hSw.cell (p := ⟨g7, 0, none⟩) gz).trans t0
                clear hSw
                go_simp
                try with_reducible rfl
              simp only [Act.put, List.setIfInBounds_toArray, List.set_cons_zero, List.set_cons_succ]
              refine wpAnyH_take (i := 17) (oi := ?o17c) (v := ?v17c) ?hi17c (by kernel_rfl) (by kernel_rfl) (by kernel_rfl) ?hQ17c ?hy17c (Below.drew (Below.refl _ _)) ?more17c
              case hi17c => rw [List.getElem?_toArray]; exact rfl
              case hQ17c => exact fun _ _ _ h => h
              case hy17c =>
                refine Or.inl ⟨by rfl, ?_⟩
                intro w' hSw
                have q0 := (hSw.cell (p := ⟨g7, 0, none⟩) gz).trans t0
                clear hSw
                go_simp
                try with_reducible rfl
              simp only [Act.put, List.setIfInBounds_toArray, List.set_cons_zero, List.set_cons_succ]
              refine wpAnyH_take (i := 18) (oi := ?o18c) (v := ?v18c) ?hi18c (by kernel_rfl) (by kernel_rfl) (by kernel_rfl) ?hQ18c ?hy18c (Below.drew (Below.refl _ _)) ?more18c
              case hi18c => rw [List.getElem?_toArray]; exact rfl
              case hQ18c => exact fun _ _ _ h => h
              case hy18c =>
                refine Or.inl ⟨by rfl, ?_⟩
                intro w' hSw
                have q0 := (hSw.cell (p := ⟨g7, 0, none⟩) gz).trans t0
                clear hSw
                go_simp
                try with_reducible rfl
              simp only [Act.put, List.setIfInBounds_toArray, List.set_cons_zero, List.set_cons_succ]
              refine wpAnyH_take (i := 19) (oi := ?o19c) (v := ?v19c) ?hi19c (by kernel_rfl) (by kernel_rfl) (by kernel_rfl) ?hQ19c ?hy19c (Below.drew (Below.refl _ _)) ?more19c
              case hi19c => rw [List.getElem?_toArray]; exact rfl
              case hQ19c => exact fun _ _ _ h => h
              case hy19c =>
                refine Or.inl ⟨by rfl, ?_⟩
                intro w' hSw
                have q0 := (hSw.cell (p := ⟨g7, 0, none⟩) gz).trans t0
                clear hSw
                go_simp
                try with_reducible rfl
              simp only [Act.put, List.setIfInBounds_toArray, List.set_cons_zero, List.set_cons_succ]
              refine wpAnyH_take (i := 20) (oi := ?o20c) (v := ?v20c) ?hi20c (by kernel_rfl) (by kernel_rfl) (by kernel_rfl) ?hQ20c ?hy20c (Below.drew (Below.refl _ _)) ?more20c
              case hi20c => rw [List.getElem?_toArray]; exact rfl
              case hQ20c => exact fun _ _ _ h => h
              case hy20c =>
                refine Or.inl ⟨by rfl, ?_⟩
                intro w' hSw
                have q0 := (hSw.cell (p := ⟨g7, 0, none⟩) gz).trans t0
                clear hSw
                go_simp
                try with_reducible rfl
              simp only [Act.put, List.setIfInBounds_toArray, List.set_cons_zero, List.set_cons_succ]
              refine wpAnyH_take (i := 21) (oi := ?o21c) (v := ?v21c) ?hi21c (by kernel_rfl) (by kernel_rfl) (by kernel_rfl) ?hQ21c ?hy21c (Below.drew (Below.refl _ _)) ?more21c
              case hi21c => rw [List.getElem?_toArray]; exact rfl
              case hQ21c => exact fun _ _ _ h => h
              case hy21c =>
                refine Or.inl ⟨by rfl, ?_⟩
                intro w' hSw
                have q0 := (hSw.cell (p := ⟨g7, 0, none⟩) gz).trans t0
                clear hSw
                go_simp
                try with_reducible rfl
              simp only [Act.put, List.setIfInBounds_toArray, List.set_cons_zero, List.set_cons_succ]
              refine wpAnyH_take (i := 22) (oi := ?o22c) (v := ?v22c) ?hi22c (by kernel_rfl) (by kernel_rfl) (by kernel_rfl) ?hQ22c ?hy22c (Below.drew (Below.refl _ _)) ?more22c
              case hi22c => rw [List.getElem?_toArray]; exact rfl
              case hQ22c => exact fun _ _ _ h => h
              case hy22c =>
                refine Or.inl ⟨by rfl, ?_⟩
                intro w' hSw
                have q0 := (hSw.cell (p := ⟨g7, 0, none⟩) gz).trans t0
                clear hSw
                go_simp
                try with_reducible rfl
              simp only [Act.put, List.setIfInBounds_toArray, List.set_cons_zero, List.set_cons_succ]
              refine wpAnyH_take (i := 23) (oi := ?o23c) (v := ?v23c) ?hi23c (by kernel_rfl) (by kernel_rfl) (by kernel_rfl) ?hQ23c ?hy23c (Below.drew (Below.refl _ _)) ?more23c
              case hi23c => rw [List.getElem?_toArray]; exact rfl
              case hQ23c => exact fun _ _ _ h => h
              case hy23c =>
                refine Or.inl ⟨by rfl, ?_⟩
                intro w' hSw
                have q0 := (hSw.cell (p := ⟨g7, 0, none⟩) gz).trans t0
                clear hSw
                go_simp
                try with_reducible rfl
              simp only [Act.put, List.setIfInBounds_toArray, List.set_cons_zero, List.set_cons_succ]
              refine wpAnyH_take (i := 24) (oi := ?o24c) (v := ?v24c) ?hi24c (by kernel_rfl) (by kernel_rfl) (by kernel_rfl) ?hQ24c ?hy24c (Below.drew (Below.refl _ _)) ?more24c
              case hi24c => rw [List.getElem?_toArray]; exact rfl
              case hQ24c => exact fun _ _ _ h => h
              case hy24c =>
                refine Or.inl ⟨by rfl, ?_⟩
                intro w' hSw
                have q0 := (hSw.cell (p := ⟨g7, 0, none⟩) gz).trans t0
                clear hSw
                go_simp
                try with_reducible rfl
              simp only [Act.put, List.setIfInBounds_toArray, List.set_cons_zero, List.set_cons_succ]
              refine wpAnyH_one (i := 25) (o := ?o25c) (by kernel_rfl) ?hi25c ?hw25c ?st25c
              case hi25c => rw [List.getElem?_toArray]; exact rfl
              case hw25c => exact rfl
              intro K hK
              have HK25c : Hid _ := hK
              clear hK
              go_simp
              refine (KT.out _ (Below.drew (Below.refl _ _))).mono ?_
              rintro e w9 ⟨rfl, hq⟩
              have H9 : Hid (Below w8.heap.size w8 w9) := below_call0 (Below.drew (Below.refl _ _)) hq
              clear hq
              go_wp2_with fail
              refine HK25c.out _ _ ⟨H9.out, ?_⟩
              clear HK25c K
              try simp only [Act.put, List.setIfInBounds_toArray, List.set_cons_zero, List.set_cons_succ]
              refine wpAnyH_take (i := 26) (oi := ?o26c) (v := ?v26c) ?hi26c (by kernel_rfl) (by kernel_rfl) (by kernel_rfl) ?hQ26c ?hy26c H9.out ?more26c
              case hi26c => rw [List.getElem?_toArray]; exact rfl
              case hQ26c => exact fun _ _ _ h => h
              case hy26c =>
                refine Or.inl ⟨by rfl, ?_⟩
                intro w' hSw
                have q0 := (hSw.cell (p := ⟨g7, 0, none⟩) gz).trans t0
                clear hSw
                go_simp
                try with_reducible rfl
              simp only [Act.put, List.setIfInBounds_toArray, List.set_cons_zero, List.set_cons_succ]
              refine wpAnyH_take (i := 27) (oi := ?o27c) (v := ?v27c) ?hi27c (by kernel_rfl) (by kernel_rfl) (by kernel_rfl) ?hQ27c ?hy27c H9.out ?more27c
              case hi27c => rw [List.getElem?_toArray]; exact rfl
              case hQ27c => exact fun _ _ _ h => h
              case hy27c =>
                refine Or.inl ⟨by rfl, ?_⟩
                intro w' hSw
                have q0 := (hSw.cell (p := ⟨g7, 0, none⟩) gz).trans t0
                clear hSw
                go_simp
                try with_reducible rfl
              simp only [Act.put, List.setIfInBounds_toArray, List.set_cons_zero, List.set_cons_succ]
              refine wpAnyH_done (by kernel_rfl) ?_ _
              have u0 : w9.cell? ⟨g7, 0, none⟩ = some (.slice a6 nt cap6) := (H9.out.cell (p := ⟨g7, 0, none⟩) gz).trans t0
              have u1 : w9.cell? ⟨g7, 1, none⟩ = some (.int .i64 (z1 : Nat)) := (H9.out.cell (p := ⟨g7, 1, none⟩) gz).trans t1
              have HE : Hid (LT w w9 G (i + 1) K ([.int .i64 X, .int .i64 N, .int .i64 M, .string s] : List Value) (.pointer (some ⟨L2, 0, none⟩)) (.slice a6 nt cap6) (.string (B.extract 0 z1)) (.int .i64 (nt : Nat))) := by
                have e1 : B.extract 0 z1 = logS 0 ts := by rw [HB.out.1, HB.out.2]; exact HTS.out.2.2.2.2.2.2.2.2
                have e2 : ts.take nt = ts := by rw [HTS.out.1]; exact List.take_length
                refine ⟨ts, nt, _, L2, a6, nt, cap6, rfl, rfl, HTS.out.1, by rw [e1], rfl, ?_, H8.out.2.2.1.call 3 H9.out, by rw [HTS.out.1]; exact Nat.le_refl _, by have := HTS.out.1; have := HTS.out.2.2.2.1; have := HX.out; omega, HTS.out.2.2.1⟩
                rw [e2]
                exact H8.out.1.call 3 H9.out
              clear t0 t1 KT
              go_wp2_with fail
              go_meet
              exact HE.out
        have xb3 : (X == 3) = false := beq_eq_false_iff_ne.2 hX3
        clear hX0 hX1 hX2 hX3
        as_aux_lemma =>
          go_wp2_with fail
          go_meet
          exact HE0.out
      case rest =>
        rename World => w5
        obtain ⟨rs', j', c', L', aa', nB, capB, rfl, rfl, hnB, rfl, rfl, hT', hSt, hj', hrl', h9'⟩ := hcut
        clear HE0 H3 e0 e1 e2 e3
        by_cases hN0 : 0 ≤ N
        · by_cases hN1 : N < (nB : Int)
          · as_aux_lemma =>
              have KL : Hid _ := llen_any c' G L' (sizesN (rs'.take j')) j' (logS 0 rs') rs' hj' (by have := HX.out; omega) (by have := log_bound hrl' (by have := HX.out; omega) h9'; have := HX.out; omega) (by rw [logS_size]; exact sizes_take9 rs' j') (by rw [log_take rs' 0 j' hj']; exact told_log _ 0 (fun x hx => h9' x (List.mem_of_mem_take hx))) w5 hT'.fil hT'.led hT'.glb
              rw [← hnB] at KL
              have KB : Hid (∀ (w' : World) (d : Nat → Nat), Fil w' d 1 11 G (sizesN (rs'.take j')) (logS 0 rs') → Calls Tryd.prog 17 #[.pointer (some ⟨G, 0, none⟩)] w' fun e w'' => e = .returned (.string (logS 0 rs')) ∧ w'' = w') := fun w' d h => fbytes_any G _ _ (logS 0 rs') w' h.2.2
              have HY : Hid (Tr w w5 c' G L' (sizesN (rs'.take j')) rs' aa' capB rs' ∧ Stp w5 c' K ([.int .i64 X, .int .i64 N, .int .i64 M, .string s] : List Value) ∧ j' ≤ rs'.length ∧ nB = rs'.length ∧ rs'.length ≤ i + 1 ∧ (∀ x ∈ rs', x.size ≤ 9000)) := ⟨hT', hSt, hj', hnB, hrl', h9'⟩
              have KR : Hid (∀ (w' : World) (d : Nat → Nat), Led w' d G L' rs' → Calls Tryd.prog 16 #[.pointer (some ⟨L', 0, none⟩)] w' fun e w'' => e = .returned (.slice (some ⟨w'.heap.size, 0, none⟩) nB nB) ∧ Strs w'' (some ⟨w'.heap.size, 0, none⟩) rs' ∧ Below w'.heap.size w' w'') := fun w' d h => by
                rw [hnB]
                exact lrecords_ok d G L' rs' (by have := HX.out; omega) h9' w' h
              have KT : Hid (∀ (w' : World) (g : Nat), Strs w' (some ⟨g, 0, none⟩) rs' → Strs w' aa' rs' → Calls Tryd.prog 15 #[.slice (some ⟨g, 0, none⟩) nB nB, .slice aa' nB capB] w' fun e w'' => e = .returned (.bool true) ∧ Below w'.heap.size w' w'') := fun w' g h1 h2 => by
                have h := texts_any (some ⟨g, 0, none⟩) aa' rs' rs' nB capB (by have := HX.out; omega) w' h1 h2
                rw [← hnB, decide_eq_true rfl] at h
                exact h
              have nbI : (nB : Int) ≤ 100 := by have := HX.out; omega
              have jb1 : ((nB : Int) != (nB : Int)) = false := by simp
              have jb2 : ((j' : Int) != (j' : Int)) = false := by simp
              obtain ⟨k, rfl⟩ : ∃ k : Nat, N = (k : Nat) := ⟨N.toNat, by omega⟩
              have hk : k < rs'.length := by omega
              have kB : k < nB := by omega
              have kI : (k : Int) < (nB : Int) := by omega
              obtain ⟨r, hr⟩ : ∃ r, r = rs'[k]'hk := ⟨_, rfl⟩
              obtain ⟨tb, tq, rfl, -, -, -, -⟩ := hT'.row.at (j := k) (u := .string r) (by rw [List.getElem?_map, List.getElem?_eq_getElem hk, hr]; rfl)
              have KG : Hid (∀ (w' : World) (d : Nat → Nat), Led w' d G L' rs' → Calls Tryd.prog 23 #[.pointer (some ⟨L', 0, none⟩), .int .i64 (k : Nat)] w' fun e w'' => e = .returned (.tuple #[.string r, .int .i64 0]) ∧ Below w'.heap.size w' w'') := fun w' d h => by
                rw [hr]
                exact lget_ok d G L' k rs' hk h9' w' h
              have HRK : Hid ((rs'.map Value.string)[k]? = some (.string r)) := by
                have : (rs'.map Value.string)[k]? = some (.string r) := by rw [List.getElem?_map, List.getElem?_eq_getElem hk, hr]; rfl
                exact this
              clear hN0 hN1 hk hr
              clear hnB hT' hSt hj' hrl' h9'
              go_wp2_with fail
              refine Calls.mono KL.out ?_
              rintro e w6 ⟨rfl, hb6⟩
              have H6 : Hid (Tr w w6 (paint c' w5 w6 3) G L' (sizesN (rs'.take j')) rs' (some ⟨tb, tq, none⟩) capB rs' ∧ Stp w6 (paint c' w5 w6 3) K [.int .i64 X, .int .i64 (k : Nat), .int .i64 M, .string s]) := ⟨HY.out.1.call 3 hb6, HY.out.2.1.call 3 hb6⟩
              obtain ⟨c6, hc6⟩ : ∃ c6, c6 = paint c' w5 w6 3 := ⟨_, rfl⟩
              rw [← hc6] at H6
              have e1 : w6.cell? ⟨K, 1, none⟩ = some (.int .i64 (k : Nat)) := H6.out.2.2.2 1 _ rfl
              clear hb6 hc6 KL
              go_wp2_with fail
              refine (KG.out _ _ H6.out.1.led).mono ?_
              rintro e w7 ⟨rfl, hb7⟩
              have H7 : Hid (Tr w w7 (paint c6 w6 w7 3) G L' (sizesN (rs'.take j')) rs' (some ⟨tb, tq, none⟩) capB rs' ∧ Stp w7 (paint c6 w6 w7 3) K [.int .i64 X, .int .i64 (k : Nat), .int .i64 M, .string s]) := ⟨H6.out.1.call 3 hb7, H6.out.2.call 3 hb7⟩
              obtain ⟨c7, hc7⟩ : ∃ c7, c7 = paint c6 w6 w7 3 := ⟨_, rfl⟩
              rw [← hc7] at H7
              clear hb7 hc7 KG e1 H6
              go_wp2_with fail
              refine (KB.out _ _ H7.out.1.fil).mono ?_
              rintro e w7' ⟨rfl, rfl⟩
              clear KB
              go_wp2_with fail
              refine (KR.out _ _ H7.out.1.led).mono ?_
              rintro e w8 ⟨rfl, hS8, hb8⟩
              have H8 : Hid (Tr w w8 (paint c7 w7' w8 3) G L' (sizesN (rs'.take j')) rs' (some ⟨tb, tq, none⟩) capB rs' ∧ Stp w8 (paint c7 w7' w8 3) K [.int .i64 X, .int .i64 (k : Nat), .int .i64 M, .string s] ∧ Strs w8 (some ⟨w7'.heap.size, 0, none⟩) rs') := ⟨H7.out.1.call 3 hb8, H7.out.2.call 3 hb8, hS8⟩
              obtain ⟨c8, hc8⟩ : ∃ c8, c8 = paint c7 w7' w8 3 := ⟨_, rfl⟩
              rw [← hc8] at H8
              clear hb8 hc8 hS8 KR
              go_wp2_with fail
              refine (KT.out _ _ H8.out.2.2 (rowV_strs H8.out.1.row)).mono ?_
              rintro e w9 ⟨rfl, hb9⟩
              have H9 : Hid (Tr w w9 (paint c8 w8 w9 3) G L' (sizesN (rs'.take j')) rs' (some ⟨tb, tq, none⟩) capB rs' ∧ Stp w9 (paint c8 w8 w9 3) K [.int .i64 X, .int .i64 (k : Nat), .int .i64 M, .string s]) := ⟨H8.out.1.call 3 hb9, H8.out.2.1.call 3 hb9⟩
              obtain ⟨c9, hc9⟩ : ∃ c9, c9 = paint c8 w8 w9 3 := ⟨_, rfl⟩
              rw [← hc9] at H9
              have e1 : w9.cell? ⟨K, 1, none⟩ = some (.int .i64 (k : Nat)) := H9.out.2.2.2 1 _ rfl
              obtain ⟨tb', tq', ee, e3, -, -, -⟩ := H9.out.1.row.at HRK.out
              injection ee with ee
              injection ee with ee1 ee2 _
              subst ee1
              subst ee2
              have HB : Hid (LS w w9 G (i + 1) (.pointer (some ⟨L', 0, none⟩)) (.slice (some ⟨tb, tq, none⟩) nB capB) (.string (logS 0 rs')) (.int .i64 (j' : Nat))) := ⟨rs', j', c9, L', _, nB, capB, rfl, rfl, HY.out.2.2.2.1, rfl, rfl, H9.out.1, HY.out.2.2.1, HY.out.2.2.2.2.1, HY.out.2.2.2.2.2⟩
              clear hb9 hc9 KT H7 H8
              go_wp2_with fail
              go_roundw
              case rel => exact ⟨i + 1, by have := HX.out.1; omega, by first | rfl | (congr 1), HB.out⟩
              case measure => have := HX.out.1; simp [Go.RowKit.intOf]; omega
          · as_aux_lemma =>
              have KL : Hid _ := llen_any c' G L' (sizesN (rs'.take j')) j' (logS 0 rs') rs' hj' (by have := HX.out; omega) (by have := log_bound hrl' (by have := HX.out; omega) h9'; have := HX.out; omega) (by rw [logS_size]; exact sizes_take9 rs' j') (by rw [log_take rs' 0 j' hj']; exact told_log _ 0 (fun x hx => h9' x (List.mem_of_mem_take hx))) w5 hT'.fil hT'.led hT'.glb
              rw [← hnB] at KL
              have KB : Hid (∀ (w' : World) (d : Nat → Nat), Fil w' d 1 11 G (sizesN (rs'.take j')) (logS 0 rs') → Calls Tryd.prog 17 #[.pointer (some ⟨G, 0, none⟩)] w' fun e w'' => e = .returned (.string (logS 0 rs')) ∧ w'' = w') := fun w' d h => fbytes_any G _ _ (logS 0 rs') w' h.2.2
              have HY : Hid (Tr w w5 c' G L' (sizesN (rs'.take j')) rs' aa' capB rs' ∧ Stp w5 c' K ([.int .i64 X, .int .i64 N, .int .i64 M, .string s] : List Value) ∧ j' ≤ rs'.length ∧ nB = rs'.length ∧ rs'.length ≤ i + 1 ∧ (∀ x ∈ rs', x.size ≤ 9000)) := ⟨hT', hSt, hj', hnB, hrl', h9'⟩
              have KR : Hid (∀ (w' : World) (d : Nat → Nat), Led w' d G L' rs' → Calls Tryd.prog 16 #[.pointer (some ⟨L', 0, none⟩)] w' fun e w'' => e = .returned (.slice (some ⟨w'.heap.size, 0, none⟩) nB nB) ∧ Strs w'' (some ⟨w'.heap.size, 0, none⟩) rs' ∧ Below w'.heap.size w' w'') := fun w' d h => by
                rw [hnB]
                exact lrecords_ok d G L' rs' (by have := HX.out; omega) h9' w' h
              have KT : Hid (∀ (w' : World) (g : Nat), Strs w' (some ⟨g, 0, none⟩) rs' → Strs w' aa' rs' → Calls Tryd.prog 15 #[.slice (some ⟨g, 0, none⟩) nB nB, .slice aa' nB capB] w' fun e w'' => e = .returned (.bool true) ∧ Below w'.heap.size w' w'') := fun w' g h1 h2 => by
                have h := texts_any (some ⟨g, 0, none⟩) aa' rs' rs' nB capB (by have := HX.out; omega) w' h1 h2
                rw [← hnB, decide_eq_true rfl] at h
                exact h
              have nbI : (nB : Int) ≤ 100 := by have := HX.out; omega
              have jb1 : ((nB : Int) != (nB : Int)) = false := by simp
              have jb2 : ((j' : Int) != (j' : Int)) = false := by simp
              have KG : Hid (∀ (w' : World) (d : Nat → Nat), Led w' d G L' rs' → Calls Tryd.prog 23 #[.pointer (some ⟨L', 0, none⟩), .int .i64 N] w' fun e w'' => e = .returned (.tuple #[.string ⟨#[]⟩, .int .i64 6]) ∧ Below w'.heap.size w' w'') := fun w' d h => by
                refine (lget_none d G L' N rs' (by omega) w' h).mono ?_
                rintro e w'' ⟨e1, rfl⟩
                exact ⟨e1, Below.refl _ _⟩
              clear hnB hT' hSt hj' hrl' h9'
              go_wp2_with fail
              refine Calls.mono KL.out ?_
              rintro e w6 ⟨rfl, hb6⟩
              have H6 : Hid (Tr w w6 (paint c' w5 w6 3) G L' (sizesN (rs'.take j')) rs' aa' capB rs' ∧ Stp w6 (paint c' w5 w6 3) K [.int .i64 X, .int .i64 N, .int .i64 M, .string s]) := ⟨HY.out.1.call 3 hb6, HY.out.2.1.call 3 hb6⟩
              obtain ⟨c6, hc6⟩ : ∃ c6, c6 = paint c' w5 w6 3 := ⟨_, rfl⟩
              rw [← hc6] at H6
              have e1 : w6.cell? ⟨K, 1, none⟩ = some (.int .i64 N) := H6.out.2.2.2 1 _ rfl
              clear hb6 hc6 KL
              go_wp2_with fail
              refine (KG.out _ _ H6.out.1.led).mono ?_
              rintro e w7 ⟨rfl, hb7⟩
              have H7 : Hid (Tr w w7 (paint c6 w6 w7 3) G L' (sizesN (rs'.take j')) rs' aa' capB rs' ∧ Stp w7 (paint c6 w6 w7 3) K [.int .i64 X, .int .i64 N, .int .i64 M, .string s]) := ⟨H6.out.1.call 3 hb7, H6.out.2.call 3 hb7⟩
              obtain ⟨c7, hc7⟩ : ∃ c7, c7 = paint c6 w6 w7 3 := ⟨_, rfl⟩
              rw [← hc7] at H7
              clear hb7 hc7 KG e1 H6
              go_wp2_with fail
              refine (KB.out _ _ H7.out.1.fil).mono ?_
              rintro e w7' ⟨rfl, rfl⟩
              clear KB
              go_wp2_with fail
              refine (KR.out _ _ H7.out.1.led).mono ?_
              rintro e w8 ⟨rfl, hS8, hb8⟩
              have H8 : Hid (Tr w w8 (paint c7 w7' w8 3) G L' (sizesN (rs'.take j')) rs' aa' capB rs' ∧ Stp w8 (paint c7 w7' w8 3) K [.int .i64 X, .int .i64 N, .int .i64 M, .string s] ∧ Strs w8 (some ⟨w7'.heap.size, 0, none⟩) rs') := ⟨H7.out.1.call 3 hb8, H7.out.2.call 3 hb8, hS8⟩
              obtain ⟨c8, hc8⟩ : ∃ c8, c8 = paint c7 w7' w8 3 := ⟨_, rfl⟩
              rw [← hc8] at H8
              clear hb8 hc8 hS8 KR
              go_wp2_with fail
              refine (KT.out _ _ H8.out.2.2 (rowV_strs H8.out.1.row)).mono ?_
              rintro e w9 ⟨rfl, hb9⟩
              have H9 : Hid (Tr w w9 (paint c8 w8 w9 3) G L' (sizesN (rs'.take j')) rs' aa' capB rs' ∧ Stp w9 (paint c8 w8 w9 3) K [.int .i64 X, .int .i64 N, .int .i64 M, .string s]) := ⟨H8.out.1.call 3 hb9, H8.out.2.1.call 3 hb9⟩
              obtain ⟨c9, hc9⟩ : ∃ c9, c9 = paint c8 w8 w9 3 := ⟨_, rfl⟩
              rw [← hc9] at H9
              have e1 : w9.cell? ⟨K, 1, none⟩ = some (.int .i64 N) := H9.out.2.2.2 1 _ rfl
              have HB : Hid (LS w w9 G (i + 1) (.pointer (some ⟨L', 0, none⟩)) (.slice aa' nB capB) (.string (logS 0 rs')) (.int .i64 (j' : Nat))) := ⟨rs', j', c9, L', _, nB, capB, rfl, rfl, HY.out.2.2.2.1, rfl, rfl, H9.out.1, HY.out.2.2.1, HY.out.2.2.2.2.1, HY.out.2.2.2.2.2⟩
              clear hb9 hc9 KT H7 H8
              go_wp2_with fail
              go_roundw
              case rel => exact ⟨i + 1, by have := HX.out.1; omega, by first | rfl | (congr 1), HB.out⟩
              case measure => have := HX.out.1; simp [Go.RowKit.intOf]; omega
        · have hN1 : N < 0 := by omega
          as_aux_lemma =>
            have KL : Hid _ := llen_any c' G L' (sizesN (rs'.take j')) j' (logS 0 rs') rs' hj' (by have := HX.out; omega) (by have := log_bound hrl' (by have := HX.out; omega) h9'; have := HX.out; omega) (by rw [logS_size]; exact sizes_take9 rs' j') (by rw [log_take rs' 0 j' hj']; exact told_log _ 0 (fun x hx => h9' x (List.mem_of_mem_take hx))) w5 hT'.fil hT'.led hT'.glb
            rw [← hnB] at KL
            have KB : Hid (∀ (w' : World) (d : Nat → Nat), Fil w' d 1 11 G (sizesN (rs'.take j')) (logS 0 rs') → Calls Tryd.prog 17 #[.pointer (some ⟨G, 0, none⟩)] w' fun e w'' => e = .returned (.string (logS 0 rs')) ∧ w'' = w') := fun w' d h => fbytes_any G _ _ (logS 0 rs') w' h.2.2
            have HY : Hid (Tr w w5 c' G L' (sizesN (rs'.take j')) rs' aa' capB rs' ∧ Stp w5 c' K ([.int .i64 X, .int .i64 N, .int .i64 M, .string s] : List Value) ∧ j' ≤ rs'.length ∧ nB = rs'.length ∧ rs'.length ≤ i + 1 ∧ (∀ x ∈ rs', x.size ≤ 9000)) := ⟨hT', hSt, hj', hnB, hrl', h9'⟩
            have KR : Hid (∀ (w' : World) (d : Nat → Nat), Led w' d G L' rs' → Calls Tryd.prog 16 #[.pointer (some ⟨L', 0, none⟩)] w' fun e w'' => e = .returned (.slice (some ⟨w'.heap.size, 0, none⟩) nB nB) ∧ Strs w'' (some ⟨w'.heap.size, 0, none⟩) rs' ∧ Below w'.heap.size w' w'') := fun w' d h => by
              rw [hnB]
              exact lrecords_ok d G L' rs' (by have := HX.out; omega) h9' w' h
            have KT : Hid (∀ (w' : World) (g : Nat), Strs w' (some ⟨g, 0, none⟩) rs' → Strs w' aa' rs' → Calls Tryd.prog 15 #[.slice (some ⟨g, 0, none⟩) nB nB, .slice aa' nB capB] w' fun e w'' => e = .returned (.bool true) ∧ Below w'.heap.size w' w'') := fun w' g h1 h2 => by
              have h := texts_any (some ⟨g, 0, none⟩) aa' rs' rs' nB capB (by have := HX.out; omega) w' h1 h2
              rw [← hnB, decide_eq_true rfl] at h
              exact h
            have nbI : (nB : Int) ≤ 100 := by have := HX.out; omega
            have jb1 : ((nB : Int) != (nB : Int)) = false := by simp
            have jb2 : ((j' : Int) != (j' : Int)) = false := by simp
            have KG : Hid (∀ (w' : World) (d : Nat → Nat), Led w' d G L' rs' → Calls Tryd.prog 23 #[.pointer (some ⟨L', 0, none⟩), .int .i64 N] w' fun e w'' => e = .returned (.tuple #[.string ⟨#[]⟩, .int .i64 6]) ∧ Below w'.heap.size w' w'') := fun w' d h => by
              refine (lget_none d G L' N rs' (by omega) w' h).mono ?_
              rintro e w'' ⟨e1, rfl⟩
              exact ⟨e1, Below.refl _ _⟩
            clear hnB hT' hSt hj' hrl' h9'
            go_wp2_with fail
            refine Calls.mono KL.out ?_
            rintro e w6 ⟨rfl, hb6⟩
            have H6 : Hid (Tr w w6 (paint c' w5 w6 3) G L' (sizesN (rs'.take j')) rs' aa' capB rs' ∧ Stp w6 (paint c' w5 w6 3) K [.int .i64 X, .int .i64 N, .int .i64 M, .string s]) := ⟨HY.out.1.call 3 hb6, HY.out.2.1.call 3 hb6⟩
            obtain ⟨c6, hc6⟩ : ∃ c6, c6 = paint c' w5 w6 3 := ⟨_, rfl⟩
            rw [← hc6] at H6
            have e1 : w6.cell? ⟨K, 1, none⟩ = some (.int .i64 N) := H6.out.2.2.2 1 _ rfl
            clear hb6 hc6 KL
            go_wp2_with fail
            refine (KG.out _ _ H6.out.1.led).mono ?_
            rintro e w7 ⟨rfl, hb7⟩
            have H7 : Hid (Tr w w7 (paint c6 w6 w7 3) G L' (sizesN (rs'.take j')) rs' aa' capB rs' ∧ Stp w7 (paint c6 w6 w7 3) K [.int .i64 X, .int .i64 N, .int .i64 M, .string s]) := ⟨H6.out.1.call 3 hb7, H6.out.2.call 3 hb7⟩
            obtain ⟨c7, hc7⟩ : ∃ c7, c7 = paint c6 w6 w7 3 := ⟨_, rfl⟩
            rw [← hc7] at H7
            clear hb7 hc7 KG e1 H6
            go_wp2_with fail
            refine (KB.out _ _ H7.out.1.fil).mono ?_
            rintro e w7' ⟨rfl, rfl⟩
            clear KB
            go_wp2_with fail
            refine (KR.out _ _ H7.out.1.led).mono ?_
            rintro e w8 ⟨rfl, hS8, hb8⟩
            have H8 : Hid (Tr w w8 (paint c7 w7' w8 3) G L' (sizesN (rs'.take j')) rs' aa' capB rs' ∧ Stp w8 (paint c7 w7' w8 3) K [.int .i64 X, .int .i64 N, .int .i64 M, .string s] ∧ Strs w8 (some ⟨w7'.heap.size, 0, none⟩) rs') := ⟨H7.out.1.call 3 hb8, H7.out.2.call 3 hb8, hS8⟩
            obtain ⟨c8, hc8⟩ : ∃ c8, c8 = paint c7 w7' w8 3 := ⟨_, rfl⟩
            rw [← hc8] at H8
            clear hb8 hc8 hS8 KR
            go_wp2_with fail
            refine (KT.out _ _ H8.out.2.2 (rowV_strs H8.out.1.row)).mono ?_
            rintro e w9 ⟨rfl, hb9⟩
            have H9 : Hid (Tr w w9 (paint c8 w8 w9 3) G L' (sizesN (rs'.take j')) rs' aa' capB rs' ∧ Stp w9 (paint c8 w8 w9 3) K [.int .i64 X, .int .i64 N, .int .i64 M, .string s]) := ⟨H8.out.1.call 3 hb9, H8.out.2.1.call 3 hb9⟩
            obtain ⟨c9, hc9⟩ : ∃ c9, c9 = paint c8 w8 w9 3 := ⟨_, rfl⟩
            rw [← hc9] at H9
            have e1 : w9.cell? ⟨K, 1, none⟩ = some (.int .i64 N) := H9.out.2.2.2 1 _ rfl
            have HB : Hid (LS w w9 G (i + 1) (.pointer (some ⟨L', 0, none⟩)) (.slice aa' nB capB) (.string (logS 0 rs')) (.int .i64 (j' : Nat))) := ⟨rs', j', c9, L', _, nB, capB, rfl, rfl, HY.out.2.2.2.1, rfl, rfl, H9.out.1, HY.out.2.2.1, HY.out.2.2.2.2.1, HY.out.2.2.2.2.2⟩
            clear hb9 hc9 KT H7 H8
            go_wp2_with fail
            go_roundw
            case rel => exact ⟨i + 1, by have := HX.out.1; omega, by first | rfl | (congr 1), HB.out⟩
            case measure => have := HX.out.1; simp [Go.RowKit.intOf]; omega
    · have hge : ¬ ((i : Int) < (len : Nat)) := by omega
      have H2 : Hid (Below w.heap.size w wr) := hT.bel
      clear hi' hlt hT hnA hj hrl h9
      go_wp2_with fail
      refine HKr.out _ _ ?_
      clear HKr
      go_wp2_with fail
      refine (KO.out _ H2.out).mono ?_
      rintro e w9 ⟨rfl, hb9⟩
      have H9 : Hid (Below w.heap.size w w9) := H2.out.trans (hb9.mono H2.out.size)
      clear hb9
      go_wp2_with fail
      go_ret
      exact ⟨rfl, H9.out⟩
set_option maxRecDepth 100000 in
set_option maxHeartbeats 8000000 in
theorem ledgerSteps_far (len cl : Nat) (ad : Option Addr) (w : World) (hlen : ¬ len ≤ 100) (hG : GlobD w) (h1 : 0 < w.heap.size) (h2 : 1 < w.heap.size) :
    Calls Tryd.prog 4 #[.slice ad len cl] w fun e w' => e = .returned (.bool true) ∧ Below w.heap.size w w' := by
  have KO : Hid (∀ w' : World, Below w.heap.size w w' → Calls Tryd.prog 8 #[] w' fun e w'' => e = .returned (.bool true) ∧ Below w'.heap.size w' w'') := fun w' hb => one11_any w' (hG.call hb) (Nat.lt_of_lt_of_le h1 hb.size) (Nat.lt_of_lt_of_le h2 hb.size)
  have KN : Hid _ := fnew_fil w hG h1 h2
  have KP : Hid (∀ (c : Nat → Nat) (G : Nat) (w' : World), Fil w' c 1 11 G 0 ByteArray.empty → Glb w' c → Calls Tryd.prog 13 #[.pointer (some ⟨G, 0, none⟩)] w' fun e w'' => ∃ (L : Nat) (c' : Nat → Nat), e = .returned (.tuple #[.pointer (some ⟨L, 0, none⟩), .int .i64 0]) ∧ Fil w'' c' 1 11 G 0 ByteArray.empty ∧ Led w'' c' G L [] ∧ Glb w'' c' ∧ Chg w' c 1 11 w'' ∧ ∀ k, k < w'.heap.size → c' k = c k) := fun c G w' hF hG => by
    refine (lopen_any c G 0 ByteArray.empty (by decide) [] (told_empty 0) w' hF hG).mono ?_
    rintro e w'' ⟨L, c', e1, e2, e3, e4, e5, _, e7⟩
    exact ⟨L, c', e1, e2, e3, e4, e5, e7⟩
  have k0 : (100 : Int) < (len : Int) := by omega
  clear hG h1 h2 hlen
  go_enter Tryd.func4, Tryd.ntmps4
  go_wp2_with fail
  refine Calls.mono KN.out ?_
  rintro e w4 ⟨rfl, c4, hF4, hG4, hb4, hk4⟩
  obtain ⟨G, hGG⟩ : ∃ G, G = w.heap.size := ⟨_, rfl⟩
  rw [← hGG] at hF4 ⊢
  have H4 : Hid (Fil w4 c4 1 11 G 0 ByteArray.empty ∧ Glb w4 c4 ∧ Below w.heap.size w w4 ∧ ∀ k, k < w.heap.size → k < w4.heap.size ∧ c4 k = 0) := ⟨hF4, hG4, hb4, hk4⟩
  clear hF4 hG4 hb4 hk4 hGG KN
  go_wp2_with fail
  refine (KP.out _ G w4 H4.out.1 H4.out.2.1).mono ?_
  rintro e w6 ⟨L0, c6, rfl, hF6, hD6, hG6, hC6, hk6⟩
  have H6 : Hid (Below w.heap.size w w6) := H4.out.2.2.1.trans (hC6.under H4.out.2.2.2 (by decide) (by decide))
  clear hF6 hD6 hG6 hC6 hk6 H4 KP
  go_wp2_with fail
  refine (KO.out _ H6.out).mono ?_
  rintro e w9 ⟨rfl, hb9⟩
  have H9 : Hid (Below w.heap.size w w9) := H6.out.trans (hb9.mono H6.out.size)
  clear hb9
  go_wp2_with fail
  go_ret
  exact ⟨rfl, H9.out⟩
theorem ledgerSteps_any (len cl : Nat) (ad : Option Addr) (w : World) (hS : StepsT w ad len) (hG : GlobD w) (h1 : 0 < w.heap.size) (h2 : 1 < w.heap.size) :
    Calls Tryd.prog 4 #[.slice ad len cl] w fun e w' => e = .returned (.bool true) ∧ Below w.heap.size w w' := by
  by_cases h : len ≤ 100
  · exact ledgerSteps_main len cl ad w hS h hG h1 h2
  · exact ledgerSteps_far len cl ad w h hG h1 h2
end Go.Proofs.YtdnahobafhelhaaDoor
