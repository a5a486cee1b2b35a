/- The reference's Next, and the law BeatTurns. -/
import Derived.Test.YtpgpbfcomobfkaaBtI
namespace Go.Proofs.Ytpgpbfcomobfkaa
open Go Go.RowKit Go.Lib

theorem rnext_no (n v : Int) (a : Option Addr) (m cap : Nat) (h : ¬ ((1 ≤ n ∧ n ≤ 10) ∧ 0 ≤ v ∧ v ≤ 1099511627776)) (w : World) : Calls Try.prog 23 #[.int .i64 n, .int .i64 v, .slice a m cap] w fun e w' => e = .returned (.tuple #[.int .i64 0, .int .i64 1]) ∧ w' = w := by
  by_cases h1 : n < 1
  · clear h
    go_enter Try.func23, Try.ntmps23
    go_wp2_with fail
    go_ret2
    exact ⟨rfl, rfl⟩
  by_cases h2 : 10 < n
  · clear h
    go_enter Try.func23, Try.ntmps23
    go_wp2_with fail
    go_ret2
    exact ⟨rfl, rfl⟩
  by_cases h3 : v < 0
  · clear h
    go_enter Try.func23, Try.ntmps23
    go_wp2_with fail
    go_ret2
    exact ⟨rfl, rfl⟩
  · have h4 : 1099511627776 < v := by omega
    clear h
    go_enter Try.func23, Try.ntmps23
    go_wp2_with fail
    go_ret2
    exact ⟨rfl, rfl⟩
set_option maxHeartbeats 2000000 in
theorem rnext_ok (n v : Nat) (a : Option Addr) (l : List Int) (cap : Nat) (n1 : 1 ≤ n) (n10 : n ≤ 10) (hv : v ≤ 1099511627776) (hl : l.length ≤ 17592186044416) (w : World) (hI : IntsAt w a l) : Calls Try.prog 23 #[.int .i64 (n : Nat), .int .i64 (v : Nat), .slice a l.length cap] w fun e w' => e = .returned (.tuple #[.int .i64 (nextV n v l).1, .int .i64 (nextV n v l).2]) ∧ w' = w := by
  have b1 : ¬ (((n : Nat) : Int) < 1) := by omega
  have b2 : ¬ ((10 : Int) < ((n : Nat) : Int)) := by omega
  have b3 : ¬ (((v : Nat) : Int) < 0) := by omega
  have b4 : ¬ ((1099511627776 : Int) < ((v : Nat) : Int)) := by omega
  have HN : Hid (1 ≤ n ∧ n ≤ 10 ∧ v ≤ 1099511627776) := ⟨n1, n10, hv⟩
  obtain ⟨m, hm⟩ : ∃ m, m = l.length := ⟨_, rfl⟩
  have m1 : (m : Int) ≤ 17592186044416 := by omega
  have HM : Hid (m = l.length) := hm
  have HI : Hid (IntsAt w a l) := hI
  rw [← hm]
  obtain ⟨R1, hR1⟩ : ∃ R1, R1 = (nextV n v l).1 := ⟨_, rfl⟩
  obtain ⟨R2, hR2⟩ : ∃ R2, R2 = (nextV n v l).2 := ⟨_, rfl⟩
  rw [← hR1, ← hR2]
  have HR : Hid (R1 = (nextV n v l).1 ∧ R2 = (nextV n v l).2) := ⟨hR1, hR2⟩
  clear n1 n10 hv hl hI hm hR1 hR2
  go_enter Try.func23, Try.ntmps23
  go_wp2_with fail
  rename_i Kr hKr
  have HKr : Hid _ := hKr
  clear hKr
  go_loop [31] (fun iv => ∃ i : Nat, i ≤ m ∧ iv = .int .i64 (i : Nat) ∧ (∀ j (hj : j < l.length), j < i → 1 ≤ (l[j]'hj) ∧ (l[j]'hj) ≤ (n : Nat))) (fun iv => m - (Go.RowKit.intOf iv).toNat)
  case atStart => exact ⟨0, Nat.zero_le _, rfl, fun j _ hj => absurd hj (Nat.not_lt_zero _)⟩
  case round =>
    obtain ⟨i, hi, rfl, hall⟩ := hrel
    have HA : Hid _ := hall
    clear hall
    by_cases hlt : i < m
    · clear HKr
      have hlt' : (i : Int) < (m : Nat) := by omega
      have hil : i < l.length := by rw [← HM.out]; exact hlt
      obtain ⟨p, o, ha, cp, pl⟩ := HI.out.get hil
      subst ha
      obtain ⟨s, hs⟩ : ∃ s, s = (l[i]'hil) := ⟨_, rfl⟩
      rw [← hs] at cp
      by_cases hnode : 1 ≤ s ∧ s ≤ (n : Nat)
      · have c1 : ¬ (s < 1) := by omega
        have c2 : ¬ (((n : Nat) : Int) < s) := by omega
        have HT : Hid (i < m ∧ (∀ j (hj : j < l.length), j < i + 1 → 1 ≤ (l[j]'hj) ∧ (l[j]'hj) ≤ (n : Nat))) :=
          ⟨hlt, fun j hj hji => by
            by_cases c : j = i
            · subst c; rw [← hs]; exact hnode
            · exact HA.out j hj (by omega)⟩
        clear hlt hi hs hil hnode pl
        go_wp2_with fail
        go_round
        case rel => first | exact ⟨i + 1, HT.out.1, by go_num, HT.out.2⟩ | ((repeat apply Exists.intro); exact ⟨⟨i + 1, HT.out.1, by go_num, HT.out.2⟩, rfl⟩)
        case measure => have h1 := HT.out.1; simp [Go.RowKit.intOf]; omega
      · have HE : Hid (R1 = 0 ∧ R2 = 1) := by
          have e : nodesB n l = false := nodesB_bad hil (by rw [← hs]; exact hnode)
          have e2 : nextV n v l = (0, 1) := by unfold nextV; rw [e]; rfl
          exact ⟨by rw [HR.out.1, e2], by rw [HR.out.2, e2]⟩
        by_cases c1 : s < 1
        · clear hlt hi hs hil hnode pl
          go_wp2_with fail
          go_ret2
          rw [HE.out.1, HE.out.2]
          exact ⟨rfl, rfl⟩
        · have c2 : ((n : Nat) : Int) < s := by omega
          clear hlt hi hs hil hnode pl
          go_wp2_with fail
          go_ret2
          rw [HE.out.1, HE.out.2]
          exact ⟨rfl, rfl⟩
    · obtain rfl : i = m := by omega
      have hnl : ¬ ((i : Int) < (i : Int)) := Int.lt_irrefl _
      have HB : Hid (nodesB n l = true) := nodesB_all fun j hj => HA.out j hj (by rw [HM.out]; exact hj)
      clear hlt hi HA
      go_wp2_with fail
      refine HKr.out _ _ ?_
      clear HKr
      go_wp2_with fail
      rename_i Kr2 hKr2
      have HKr2 : Hid _ := hKr2
      clear hKr2 hnl
      go_loop [10] (fun iv => ∃ k K : Nat, K = k + 1 ∧ k ≤ n ∧ iv = .int .i64 (K : Nat) ∧ nextN n v l n (v + 1) = nextN n v l (n - k) (v + K)) (fun iv => n + 1 - (Go.RowKit.intOf iv).toNat)
      case atStart => exact ⟨0, 1, rfl, Nat.zero_le _, by go_num, rfl⟩
      case round =>
        obtain ⟨k, K, hK, hk, rfl, hx⟩ := hrel
        obtain ⟨u, hu⟩ : ∃ u, u = v + K := ⟨_, rfl⟩
        rw [← hu] at hx
        have HX : Hid (u = v + K ∧ K = k + 1 ∧ k ≤ n ∧ nextN n v l n (v + 1) = nextN n v l (n - k) u) := ⟨hu, hK, hk, hx⟩
        clear hx
        have u1 : (v : Int) + (K : Int) = (u : Nat) := by omega
        have u2 : (v : Int) + (K : Int) ≤ 1099511627800 := by have := HN.out; omega
        by_cases hc : K ≤ n ∧ u ≤ 1099511627776
        · clear HKr2
          obtain ⟨t, ht⟩ : ∃ t, t = u % n + 1 := ⟨_, rfl⟩
          obtain ⟨t', ht'⟩ : ∃ t', t' = u % n := ⟨_, rfl⟩
          have ht2 : t ≤ n := by rw [ht]; exact Nat.mod_lt _ HN.out.1
          have r1 : ((u : Nat) : Int).tmod ((n : Nat) : Int) = (t' : Nat) := by rw [ht']; rfl
          have r2 : (t' : Int) + 1 = (t : Nat) := by omega
          have r3 : ((t : Nat) : Int) ≤ 10 := by omega
          have r0 : ¬ (((n : Nat) : Int) = 0) := by omega
          have c1 : (K : Int) ≤ (n : Int) := by omega
          have c2 : (u : Int) ≤ 1099511627776 := by omega
          have hx : nextN n v l (n - k) u = if ((t : Nat) : Int) ∈ l then nextN n v l (n - (k + 1)) (u + 1) else some u := by
            have e : n - k = (n - (k + 1)) + 1 := by omega
            rw [e, nextN_at hc.2, ← ht]
          have HC : Hid (K ≤ n ∧ nextN n v l n (v + 1) = if ((t : Nat) : Int) ∈ l then nextN n v l (n - (k + 1)) (u + 1) else some u) := ⟨hc.1, HX.out.2.2.2.trans hx⟩
          clear hx ht ht2 hc hu hk hK ht'
          go_wp2_with fail
          rename_i Kr3 hKr3 _xx
          have HKr3 : Hid _ := hKr3
          clear hKr3
          go_loop [12, 62] (fun sv jv => ∃ (j : Nat) (b : Bool), j ≤ i ∧ jv = .int .i64 (j : Nat) ∧ sv = .bool b ∧ b = decide (((t : Nat) : Int) ∈ l.take j)) (fun _ jv => i - (Go.RowKit.intOf jv).toNat)
          case atStart => exact ⟨0, false, Nat.zero_le _, rfl, rfl, by simp⟩
          case round =>
            obtain ⟨j, b, hj, rfl, rfl, hb⟩ := hrel
            have HJ : Hid (b = decide (((t : Nat) : Int) ∈ l.take j)) := hb
            clear hb
            by_cases hlt : j < i
            · clear HKr3
              have hlt' : (j : Int) < (i : Nat) := by omega
              have hil : j < l.length := by rw [← HM.out]; exact hlt
              obtain ⟨p, o, ha, cp, pl⟩ := HI.out.get hil
              subst ha
              obtain ⟨s, hs⟩ : ∃ s, s = (l[j]'hil) := ⟨_, rfl⟩
              rw [← hs] at cp
              have et : l.take (j + 1) = l.take j ++ [s] := by rw [List.take_succ_eq_append_getElem hil, hs]
              have HT : Hid (j < i ∧ decide (((t : Nat) : Int) ∈ l.take (j + 1)) = (b || decide (((t : Nat) : Int) = s))) := ⟨hlt, by
                rw [HJ.out, et]
                simp only [List.mem_append, List.mem_singleton, Bool.decide_or]⟩
              clear hlt hs hil pl et hj
              cases b with
              | true =>
                go_wp2_with fail
                go_round
                case rel => first | exact ⟨j + 1, true, HT.out.1, by go_num, rfl, by rw [HT.out.2]; rfl⟩ | ((repeat apply Exists.intro); exact ⟨⟨j + 1, true, HT.out.1, by go_num, rfl, by rw [HT.out.2]; rfl⟩, rfl⟩)
                case measure => have h1 := HT.out.1; simp [Go.RowKit.intOf]; omega
              | false =>
                by_cases hst : s = ((t : Nat) : Int)
                · subst hst
                  go_wp2_with fail
                  go_round
                  case rel => first | exact ⟨j + 1, true, HT.out.1, by go_num, by first | rfl | simp, by rw [HT.out.2]; simp⟩ | ((repeat apply Exists.intro); exact ⟨⟨j + 1, true, HT.out.1, by go_num, by first | rfl | simp, by rw [HT.out.2]; simp⟩, rfl⟩)
                  case measure => have h1 := HT.out.1; simp [Go.RowKit.intOf]; omega
                · have HS : Hid ((s == ((t : Nat) : Int)) = false ∧ decide (((t : Nat) : Int) = s) = false) := ⟨by simpa using hst, decide_eq_false fun c => hst c.symm⟩
                  go_wp2_with fail
                  go_round
                  case rel => first | exact ⟨j + 1, false, HT.out.1, by go_num, by first | rfl | (rw [HS.out.1]) | simp [hst], by rw [HT.out.2, HS.out.2]; rfl⟩ | ((repeat apply Exists.intro); exact ⟨⟨j + 1, false, HT.out.1, by go_num, by first | rfl | (rw [HS.out.1]) | simp [hst], by rw [HT.out.2, HS.out.2]; rfl⟩, rfl⟩)
                  case measure => have h1 := HT.out.1; simp [Go.RowKit.intOf]; omega
            · obtain rfl : j = i := by omega
              have hnl : ¬ ((j : Int) < (j : Int)) := Int.lt_irrefl _
              have HF : Hid (b = decide (((t : Nat) : Int) ∈ l)) := by
                have h := HJ.out
                rw [List.take_of_length_le (by rw [← HM.out]; exact Nat.le_refl _)] at h
                exact h
              clear hlt hj HJ
              by_cases hmem : ((t : Nat) : Int) ∈ l
              · have HY : Hid (k + 1 ≤ n ∧ nextN n v l n (v + 1) = nextN n v l (n - (k + 1)) (v + (K + 1))) := ⟨by have h1 := HC.out.1; have h2 := HX.out.2.1; omega, by rw [HC.out.2, if_pos hmem, HX.out.1]; rfl⟩
                obtain rfl : b = true := by rw [HF.out, decide_eq_true hmem]
                clear hmem
                go_wp2_with fail
                refine HKr3.out _ _ ?_
                clear HKr3
                go_wp2_with fail
                go_round
                case rel => first | exact ⟨k + 1, K + 1, by have := HX.out.2.1; omega, HY.out.1, by go_num, HY.out.2⟩ | ((repeat apply Exists.intro); exact ⟨⟨k + 1, K + 1, by have := HX.out.2.1; omega, HY.out.1, by go_num, HY.out.2⟩, rfl⟩)
                case measure => have h1 := HC.out.1; simp [Go.RowKit.intOf]; omega
              · have HE : Hid (R1 = ((u : Nat) : Int) ∧ R2 = 0) := by
                  have e2 : nextV n v l = (((u : Nat) : Int), 0) := by unfold nextV; rw [HB.out, HC.out.2, if_neg hmem]; rfl
                  exact ⟨by rw [HR.out.1, e2], by rw [HR.out.2, e2]⟩
                obtain rfl : b = false := by rw [HF.out, decide_eq_false hmem]
                clear hmem
                go_wp2_with fail
                refine HKr3.out _ _ ?_
                clear HKr3
                go_wp2_with fail
                go_ret2
                rw [HE.out.1, HE.out.2]
                exact ⟨rfl, rfl⟩
        · have HE : Hid (R1 = 0 ∧ R2 = 6) := by
            have e3 : nextN n v l (n - k) u = none := by
              by_cases hkn : k = n
              · rw [hkn, Nat.sub_self]; rfl
              · have e : n - k = (n - (k + 1)) + 1 := by omega
                rw [e, nextN, if_neg (by omega)]
            have e2 : nextV n v l = (0, 6) := by unfold nextV; rw [HB.out, HX.out.2.2.2, e3]; rfl
            exact ⟨by rw [HR.out.1, e2], by rw [HR.out.2, e2]⟩
          by_cases c1 : (K : Int) ≤ (n : Int)
          · have c2 : ¬ ((u : Int) ≤ 1099511627776) := by omega
            clear hc hu hk hK
            go_wp2_with fail
            refine HKr2.out _ _ ?_
            clear HKr2
            go_wp2_with fail
            go_ret2
            rw [HE.out.1, HE.out.2]
            exact ⟨rfl, rfl⟩
          · clear hc hu hk hK
            go_wp2_with fail
            refine HKr2.out _ _ ?_
            clear HKr2
            go_wp2_with fail
            go_ret2
            rw [HE.out.1, HE.out.2]
            exact ⟨rfl, rfl⟩
end Go.Proofs.Ytpgpbfcomobfkaa
