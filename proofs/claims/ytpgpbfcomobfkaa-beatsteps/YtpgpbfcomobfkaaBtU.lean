/- The reference's watch: Silent, Check. -/
import Derived.Test.YtpgpbfcomobfkaaBtT
namespace Go.Proofs.Ytpgpbfcomobfkaa
open Go Go.RowKit Go.Lib

theorem RowI.keepB {w w' : World} {base cap : Nat} {a : Option Addr} {l : List Int} (h : RowI w base a l cap) (hk : ∀ k, base ≤ k → k < w.heap.size → w'.heap[k]? = w.heap[k]?) : RowI w' base a l cap := by
  refine ⟨h.1, ?_⟩
  rcases h.2 with h2 | ⟨g, cap', cur, h1, h2, h3, h4⟩
  · exact .inl h2
  · exact .inr ⟨g, cap', cur, h1, h2, by rw [hk g h2 (Array.getElem?_eq_some_iff.1 h3).1]; exact h3, h4⟩
theorem RWatch.drewN {w : World} {r q cap n : Nat} {x : Wt} (h : RWatch w r q cap x) : RWatch (w.drewN n) r q cap x := h.block (Nat.le_refl _) rfl rfl
set_option maxHeartbeats 1000000 in
theorem rsilent_any (r q cap : Nat) (x : Wt) (w : World) (hW : RWatch w r q cap x) : Calls Try.prog 19 #[.pointer (some ⟨r, 0, none⟩)] w fun e w' => ∃ a cap', e = .returned (.slice a (silL x).length cap') ∧ IntsFrom w' w.heap.size a (silL x) ∧ Below w.heap.size w w' := by
  have HW : Hid (RWatch w r q cap x) := hW
  have n10 := hW.ok.n10
  obtain ⟨p, hp⟩ : ∃ p : Nat → Bool, p = x.s := ⟨_, rfl⟩
  obtain ⟨n, hn⟩ : ∃ n, n = x.n := ⟨_, rfl⟩
  have HL : Hid (silL x = lsN p n) := by rw [hp, hn]; rfl
  rw [HL.out]
  rw [← hn] at n10
  have HN : Hid (n = x.n ∧ p = x.s) := ⟨hn, hp⟩
  obtain ⟨n1, hn1⟩ : ∃ n1, n1 = x.n + 1 := ⟨_, rfl⟩
  have HN1 : Hid (n1 = n + 1) := by show n1 = n + 1; rw [hn1, hn]
  have c3w := hW.c3
  rw [← hn1] at c3w
  have HC3 : Hid _ := c3w
  clear hW hp hn hn1 c3w HL
  go_enter Try.func19, Try.ntmps19
  go_wp2_with fail
  rename_i Kr hKr
  have HKr : Hid _ := hKr
  clear hKr
  go_loopw [3, 4] (fun ov iv wr => ∃ (K k : Nat) (a : Option Addr) (cap m : Nat), K = k + 1 ∧ k ≤ n ∧ m = (lsN p k).length ∧ ov = .slice a m cap ∧ iv = .int .i64 (K : Nat) ∧ RowI wr w.heap.size a (lsN p k) cap ∧ Below w.heap.size w wr) (fun _ iv _ => n + 1 - (Go.RowKit.intOf iv).toNat)
  case atStart => exact ⟨1, 0, none, 0, 0, rfl, Nat.zero_le _, rfl, rfl, rfl, RowI.nil _ _, Below.refl _ _⟩
  case round =>
    obtain ⟨K, k, a, capI, m, hK, hk, hm, rfl, rfl, hR, hB⟩ := hrel
    rename World => wr
    have HB : Hid (m = (lsN p k).length ∧ RowI wr w.heap.size a (lsN p k) capI ∧ Below w.heap.size w wr ∧ K = k + 1) := ⟨hm, hR, hB, hK⟩
    have c0 : wr.cell? ⟨r, 0, none⟩ = some (.int .i64 (n : Nat)) := by rw [HN.out.1]; exact (HW.out.call hB).c0
    have c3 : wr.cell? ⟨r, 3, none⟩ = some (.slice (some ⟨q, 0, none⟩) n1 cap) := (hB.cell (p := ⟨r, 3, none⟩) HW.out.rl).trans HC3.out
    by_cases hlt : k < n
    · clear HKr
      have cs := (HW.out.call hB).cs K (by have := HN.out.1; omega)
      rw [← HN.out.2] at cs
      have hlt' : (K : Int) ≤ (n : Int) := by omega
      have n10' : (n : Int) ≤ 10 := by omega
      have q1 : ((K : Nat) : Int) < (n1 : Nat) := by have := HN1.out; omega
      have q2 : K < n1 := by have := HN1.out; omega
      have HZ : Hid (k < n ∧ n ≤ 10) := ⟨hlt, n10⟩
      clear hlt hk n10 hK hm hR hB
      cases hq : p K with
      | true =>
        rw [hq] at cs
        have HQ : Hid (p K = true) := hq
        clear hq
        have HA : Hid (RowI (wr.alloc (.cells #[.int .i64 (K : Nat)] 3)) w.heap.size a (lsN p k) capI ∧ Below w.heap.size w (wr.alloc (.cells #[.int .i64 (K : Nat)] 3)) ∧ (lsN p k).length ≤ 1000000 ∧ (wr.alloc (.cells #[.int .i64 (K : Nat)] 3)).cell? ⟨wr.heap.size, 0, none⟩ = some (.int .i64 (K : Nat))) :=
          ⟨HB.out.2.1.call ((Below.refl _ _).alloc (Nat.le_refl _) _), below_alloc0 HB.out.2.2.1 _, by have := lsN_len p k; have := HZ.out; omega, by simp [go_sem]⟩
        go_wp2_with (at_builtin; refine wpList_append_RowI _ rfl (.tmp 21) (.tmp 23) rfl w.heap.size a m capI (lsN p k) (K : Int) rfl HB.out.1 HA.out.1 HA.out.2.1.size HA.out.2.2.1 ⟨wr.heap.size, 0, none⟩ 1 rfl HA.out.2.2.2 ?_; intro a5 m5 cap5 w5 hm5 hR5 hb5; have H5 : Hid (m5 = m + 1 ∧ RowI w5 w.heap.size a5 (lsN p k ++ [(K : Int)]) cap5 ∧ Below w.heap.size w w5) := ⟨hm5, hR5, HA.out.2.1.trans hb5⟩; clear hm5 hR5 hb5)
        have HL : Hid (lsN p (k + 1) = lsN p k ++ [(K : Int)]) := by
          have e := lsN_yes (p := p) (k := k) (by rw [← HB.out.2.2.2]; exact HQ.out)
          rw [← HB.out.2.2.2] at e
          rw [← HB.out.2.2.2]
          exact e
        have HM : Hid (m5 = (lsN p (k + 1)).length) := by
          show m5 = _
          rw [HL.out, List.length_append, H5.out.1, HB.out.1]; rfl
        go_roundw
        case rel => first | exact ⟨K + 1, k + 1, a5, cap5, m5, by have := HB.out.2.2.2; omega, HZ.out.1, HM.out, rfl, by go_num, by rw [HL.out]; exact H5.out.2.1, H5.out.2.2⟩ | ((repeat apply Exists.intro); exact ⟨⟨K + 1, k + 1, a5, cap5, m5, by have := HB.out.2.2.2; omega, HZ.out.1, HM.out, rfl, by go_num, by rw [HL.out]; exact H5.out.2.1, H5.out.2.2⟩, rfl⟩)
        case measure => have h1 := HZ.out; have h2 := HB.out.2.2.2; simp [Go.RowKit.intOf]; omega
      | false =>
        rw [hq] at cs
        have HQ : Hid (p (k + 1) = false) := by rw [← HB.out.2.2.2]; exact hq
        clear hq
        go_wp2_with fail
        go_roundw
        case rel => first | exact ⟨K + 1, k + 1, a, capI, m, by have := HB.out.2.2.2; omega, HZ.out.1, by rw [lsN_no HQ.out]; exact HB.out.1, rfl, by go_num, by rw [lsN_no HQ.out]; exact HB.out.2.1, HB.out.2.2.1⟩ | ((repeat apply Exists.intro); exact ⟨⟨K + 1, k + 1, a, capI, m, by have := HB.out.2.2.2; omega, HZ.out.1, by rw [lsN_no HQ.out]; exact HB.out.1, rfl, by go_num, by rw [lsN_no HQ.out]; exact HB.out.2.1, HB.out.2.2.1⟩, rfl⟩)
        case measure => have h1 := HZ.out; have h2 := HB.out.2.2.2; simp [Go.RowKit.intOf]; omega
    · obtain rfl : k = n := by omega
      have hnl : ¬ ((K : Int) ≤ (k : Int)) := by omega
      clear hlt hk hK hm hR hB
      go_wp2_with fail
      refine HKr.out _ _ ?_
      clear HKr
      go_wp2_with fail
      go_ret
      exact ⟨a, capI, by rw [HB.out.1]; rfl, HB.out.2.1.from, HB.out.2.2.1⟩
theorem rcheck_no (r q cap : Nat) (x : Wt) (m : Int) (h : ¬ (((x.now : Nat) : Int) ≤ m ∧ m ≤ 1099511627776)) (w : World) (hW : RWatch w r q cap x) : Calls Try.prog 15 #[.pointer (some ⟨r, 0, none⟩), .int .i64 m] w fun e w' => e = .returned (.tuple #[.slice none 0 0, .int .i64 1]) ∧ w' = w := by
  have c2 := hW.c2
  clear hW
  obtain ⟨t, ht⟩ : ∃ t, t = x.now := ⟨_, rfl⟩
  rw [← ht] at c2 h
  clear ht
  have hc : m < (t : Nat) ∨ ((t : Nat) ≤ m ∧ 1099511627776 < m) := by omega
  clear h
  rcases hc with h1 | ⟨h1, h2⟩
  all_goals
    go_enter Try.func15, Try.ntmps15
    go_wp2_with fail
    go_ret2
    exact ⟨rfl, rfl⟩
theorem partW_zero (x : Wt) : partW x 0 = x := by
  unfold partW
  have : (fun j => x.s j || (decide (1 ≤ j) && (decide (j ≤ 0) && lateB x j))) = x.s := by
    funext j
    by_cases h : j ≤ 0
    · have : ¬ 1 ≤ j := by omega
      simp [this]
    · simp [h]
  rw [this]
theorem partW_no {x : Wt} {k : Nat} (h : lateB x (k + 1) = false) : partW x (k + 1) = partW x k := by
  unfold partW
  congr 1
  funext j
  by_cases c : j = k + 1
  · subst c; rw [h]; simp
  · have : decide (j ≤ k + 1) = decide (j ≤ k) := decide_eq_decide.2 (by omega)
    rw [this]
theorem partW_s {x : Wt} {k : Nat} : (partW x k).s (k + 1) = x.s (k + 1) := by
  show (x.s (k + 1) || (decide (1 ≤ k + 1) && (decide (k + 1 ≤ k) && lateB x (k + 1)))) = x.s (k + 1)
  rw [decide_eq_false (show ¬ k + 1 ≤ k by omega)]
  simp
theorem RWatch.late {w w' : World} {r q cap k K : Nat} {x : Wt} (h : RWatch w r q cap (partW x k)) (hK : K = k + 1) (hl : lateB x K = true) (hz : w'.heap.size = w.heap.size) (er : ∀ o, w'.cell? ⟨r, o, none⟩ = w.cell? ⟨r, o, none⟩) (es : w'.cell? ⟨q, K * 3 + 2, none⟩ = some (.bool true)) (eq : ∀ o, o ≠ K * 3 + 2 → w'.cell? ⟨q, o, none⟩ = w.cell? ⟨q, o, none⟩)
    (fr : ∀ o, w'.frozen? ⟨r, o, none⟩ = w.frozen? ⟨r, o, none⟩) (fq : ∀ o, w'.frozen? ⟨q, o, none⟩ = w.frozen? ⟨q, o, none⟩) (ho : (partW x K).Ok) : RWatch w' r q cap (partW x K) := by
  refine ⟨ho, by rw [hz]; exact h.rl, by rw [hz]; exact h.ql, h.ne, (er _).trans h.c0, (er _).trans h.c1, (er _).trans h.c2, (er _).trans h.c3, fun j hj => (eq _ (by omega)).trans (h.ch j hj), fun j hj => (eq _ (by omega)).trans (h.ct j hj), fun j hj => ?_, fun o => (fr o).trans (h.fr o), fun o => (fq o).trans (h.fq o)⟩
  by_cases c : j = K
  · subst c
    rw [es]
    show _ = some (Value.bool (x.s j || (decide (1 ≤ j) && (decide (j ≤ j) && lateB x j))))
    rw [hl, decide_eq_true (show 1 ≤ j by omega)]; simp
  · refine (eq _ (by omega)).trans ((h.cs j hj).trans ?_)
    show some (Value.bool (x.s j || (decide (1 ≤ j) && (decide (j ≤ k) && lateB x j)))) = some (Value.bool (x.s j || (decide (1 ≤ j) && (decide (j ≤ K) && lateB x j))))
    have : decide (j ≤ K) = decide (j ≤ k) := decide_eq_decide.2 (by omega)
    rw [this]
theorem RWatch.now {w : World} {r q cap : Nat} {x : Wt} (h : RWatch w r q cap x) {m : Nat} (hm : m ≤ 1099511627776) : RWatch (w.setCell ⟨r, 2, none⟩ (.int .i64 (m : Nat))) r q cap (atW x m) :=
  ⟨atW_ok h.ok hm, by rw [World.size_setCell]; exact h.rl, by rw [World.size_setCell]; exact h.ql, h.ne, (cell_ne (by omega)).trans h.c0, (cell_ne (by omega)).trans h.c1, cell_eq h.c2, (cell_ne (by omega)).trans h.c3, fun k hk => (cell_neB h.ne.symm).trans (h.ch k hk), fun k hk => (cell_neB h.ne.symm).trans (h.ct k hk), fun k hk => (cell_neB h.ne.symm).trans (h.cs k hk), fun o => by rw [World.frozen?_setCell]; exact h.fr o, fun o => by rw [World.frozen?_setCell]; exact h.fq o⟩
set_option maxRecDepth 100000 in
set_option maxHeartbeats 4000000 in
theorem rcheck_ok (r q cap : Nat) (x : Wt) (m : Nat) (h1 : x.now ≤ m) (h2 : m ≤ 1099511627776) (w : World) (hW : RWatch w r q cap x) : Calls Try.prog 15 #[.pointer (some ⟨r, 0, none⟩), .int .i64 (m : Nat)] w fun e w' => ∃ a cap', e = .returned (.tuple #[.slice a (lateL (atW x m)).length cap', .int .i64 0]) ∧ IntsFrom w' w.heap.size a (lateL (atW x m)) ∧ RWatch w' r q cap (checkW x m) ∧ But2 r q (From w.heap.size) w w' := by
  have HW : Hid (RWatch w r q cap x ∧ m ≤ 1099511627776) := ⟨hW, h2⟩
  have n10 := hW.ok.n10
  have c2 := hW.c2
  have f2 := hW.fr 2
  obtain ⟨n, hn⟩ : ∃ n, n = x.n := ⟨_, rfl⟩
  obtain ⟨y, hy⟩ : ∃ y, y = atW x m := ⟨_, rfl⟩
  obtain ⟨S0, hS0⟩ : ∃ S0, S0 = x.self := ⟨_, rfl⟩
  obtain ⟨t, ht⟩ : ∃ t, t = x.now := ⟨_, rfl⟩
  have HL : Hid (lateL (atW x m) = lsN (lateB y) n ∧ checkW x m = partW y n ∧ y.n = n ∧ y.self = S0 ∧ y.now = m ∧ y.Ok) := by rw [hy, hn, hS0]; exact ⟨rfl, rfl, rfl, rfl, rfl, atW_ok hW.ok h2⟩
  rw [HL.out.1, HL.out.2.1]
  rw [← hn] at n10
  rw [← ht] at c2 h1
  obtain ⟨n1, hn1⟩ : ∃ n1, n1 = n + 1 := ⟨_, rfl⟩
  have HN1 : Hid (n1 = n + 1) := hn1
  have H0 : Hid (RWatch (w.setCell ⟨r, 2, none⟩ (.int .i64 (m : Nat))) r q cap (partW y 0) ∧ But2 r q (From w.heap.size) w (w.setCell ⟨r, 2, none⟩ (.int .i64 (m : Nat)))) := ⟨by rw [partW_zero, hy]; exact hW.now h2, (But2.refl _ _ _ _).setR _⟩
  have b3 : ¬ (((m : Nat) : Int) < ((t : Nat) : Int)) := by omega
  have b4 : ¬ ((1099511627776 : Int) < ((m : Nat) : Int)) := by omega
  have HM : Hid (m ≤ 1099511627776 ∧ n ≤ 10) := ⟨h2, n10⟩
  clear hW hn hy hS0 ht hn1 h1 h2 n10
  go_enter Try.func15, Try.ntmps15
  go_wp2_with fail
  rename_i Kr hKr
  have HKr : Hid _ := hKr
  clear hKr
  obtain ⟨w0, hw0⟩ : ∃ w0, w0 = w.setCell ⟨r, 2, none⟩ (.int .i64 (m : Nat)) := ⟨_, rfl⟩
  rw [← hw0] at H0 ⊢
  clear hw0 c2 f2
  go_loopw [6, 7] (fun ov iv wr => ∃ (K k : Nat) (a : Option Addr) (capI l : Nat), K = k + 1 ∧ k ≤ n ∧ l = (lsN (lateB y) k).length ∧ ov = .slice a l capI ∧ iv = .int .i64 (K : Nat) ∧ RowI wr w.heap.size a (lsN (lateB y) k) capI ∧ RWatch wr r q cap (partW y k) ∧ But2 r q (From w.heap.size) w wr) (fun _ iv _ => n + 1 - (Go.RowKit.intOf iv).toNat)
  case atStart => exact ⟨1, 0, none, 0, 0, rfl, Nat.zero_le _, rfl, rfl, rfl, RowI.nil _ _, H0.out.1, H0.out.2⟩
  case round =>
    obtain ⟨K, k, a, capI, l, hK, hk, hl, rfl, rfl, hR, hV, hB⟩ := hrel
    rename World => wr
    have HB : Hid (l = (lsN (lateB y) k).length ∧ RowI wr w.heap.size a (lsN (lateB y) k) capI ∧ RWatch wr r q cap (partW y k) ∧ But2 r q (From w.heap.size) w wr ∧ K = k + 1) := ⟨hl, hR, hV, hB, hK⟩
    have c0 : wr.cell? ⟨r, 0, none⟩ = some (.int .i64 (n : Nat)) := by rw [← HL.out.2.2.1]; exact hV.c0
    have c3 : wr.cell? ⟨r, 3, none⟩ = some (.slice (some ⟨q, 0, none⟩) n1 cap) := by rw [HN1.out, ← HL.out.2.2.1]; exact hV.c3
    have c1 : wr.cell? ⟨r, 1, none⟩ = some (.int .i64 (S0 : Nat)) := by rw [← HL.out.2.2.2.1]; exact hV.c1
    by_cases hlt : k < n
    · clear HKr
      have Kn : K ≤ y.n := by have := HL.out.2.2.1; omega
      have cs := hV.cs K Kn
      have ch := hV.ch K Kn
      have ct := hV.ct K Kn
      have e1 : (partW y k).s K = y.s K := by rw [hK]; exact partW_s
      have e2 : (partW y k).h K = y.h K := rfl
      have e3 : (partW y k).t K = y.t K := rfl
      rw [e1] at cs
      rw [e2] at ch
      rw [e3] at ct
      have fs := hV.fq (K * 3 + 2)
      have bH := HL.out.2.2.2.2.2.h K
      have bT := HL.out.2.2.2.2.2.t K
      obtain ⟨H, hH⟩ : ∃ H, H = y.h K := ⟨_, rfl⟩
      obtain ⟨T, hT⟩ : ∃ T, T = y.t K := ⟨_, rfl⟩
      obtain ⟨S1, hS⟩ : ∃ S1, S1 = y.s K := ⟨_, rfl⟩
      rw [← hH] at ch bH
      rw [← hT] at ct bT
      rw [← hS] at cs
      have hlt' : (K : Int) ≤ (n : Int) := by omega
      have n10' : (n : Int) ≤ 10 := by have := HM.out.2; omega
      have q1 : ((K : Nat) : Int) < (n1 : Nat) := by have := HN1.out; omega
      have q2 : K < n1 := by have := HN1.out; omega
      have HZ : Hid (k < n) := hlt
      have HY : Hid (H = y.h K ∧ T = y.t K ∧ S1 = y.s K) := ⟨hH, hT, hS⟩
      have rq : r ≠ q := hV.ne
      have ql : q < wr.heap.size := hV.ql
      have HQL : Hid (q < w.heap.size ∧ r ≠ q ∧ r < w.heap.size) := ⟨HW.out.1.ql, rq, HW.out.1.rl⟩
      clear hlt hk hl hR hV hB e1 e2 e3 hH hT hS hK Kn ql rq
      by_cases hs : K = S0
      · have HE : Hid (lateB y K = false) := by show lateB y K = false; unfold lateB; rw [HL.out.2.2.2.1, decide_eq_false (fun c => c hs)]; rfl
        have g1 : ((K : Int) == (K : Int)) = true := beq_self_eq_true _
        have g2 : ((K : Int) != (K : Int)) = false := by simp
        have g3 : decide ((K : Int) = (K : Int)) = true := decide_eq_true rfl
        subst hs
        have HQ : Hid (lateB y (k + 1) = false) := by show lateB y (k + 1) = false; rw [← HB.out.2.2.2.2]; exact HE.out
        go_wp2_with fail
        go_quiet (fail)
        go_wp2_with fail
        go_roundw
        case rel => first | exact ⟨K + 1, k + 1, a, capI, l, by have := HB.out.2.2.2.2; omega, HZ.out, by rw [lsN_no HQ.out]; exact HB.out.1, rfl, by go_num, by rw [lsN_no HQ.out]; exact HB.out.2.1, by rw [partW_no HQ.out]; exact HB.out.2.2.1.drewN, HB.out.2.2.2.1.drewN⟩ | ((repeat apply Exists.intro); exact ⟨⟨K + 1, k + 1, a, capI, l, by have := HB.out.2.2.2.2; omega, HZ.out, by rw [lsN_no HQ.out]; exact HB.out.1, rfl, by go_num, by rw [lsN_no HQ.out]; exact HB.out.2.1, by rw [partW_no HQ.out]; exact HB.out.2.2.1.drewN, HB.out.2.2.2.1.drewN⟩, rfl⟩)
        case measure => have h1 := HZ.out; have h2 := HB.out.2.2.2.2; simp [Go.RowKit.intOf]; omega
      · have ks : ¬ ((K : Int) = (S0 : Nat)) := by omega
        have g1 : ((K : Int) == ((S0 : Nat) : Int)) = false := by simpa using ks
        have g2 : ((K : Int) != ((S0 : Nat) : Int)) = true := by simpa using ks
        have g3 : decide ((K : Int) = ((S0 : Nat) : Int)) = false := decide_eq_false ks
        cases S1 with
        | true =>
          have HE : Hid (lateB y K = false) := by show lateB y K = false; unfold lateB; rw [← HY.out.2.2]; simp
          clear hs
          have HQ : Hid (lateB y (k + 1) = false) := by show lateB y (k + 1) = false; rw [← HB.out.2.2.2.2]; exact HE.out
          go_wp2_with fail
          go_quiet (fail)
          go_wp2_with fail
          go_roundw
          case rel => first | exact ⟨K + 1, k + 1, a, capI, l, by have := HB.out.2.2.2.2; omega, HZ.out, by rw [lsN_no HQ.out]; exact HB.out.1, rfl, by go_num, by rw [lsN_no HQ.out]; exact HB.out.2.1, by rw [partW_no HQ.out]; exact HB.out.2.2.1.drewN, HB.out.2.2.2.1.drewN⟩ | ((repeat apply Exists.intro); exact ⟨⟨K + 1, k + 1, a, capI, l, by have := HB.out.2.2.2.2; omega, HZ.out, by rw [lsN_no HQ.out]; exact HB.out.1, rfl, by go_num, by rw [lsN_no HQ.out]; exact HB.out.2.1, by rw [partW_no HQ.out]; exact HB.out.2.2.1.drewN, HB.out.2.2.2.1.drewN⟩, rfl⟩)
          case measure => have h1 := HZ.out; have h2 := HB.out.2.2.2.2; simp [Go.RowKit.intOf]; omega
        | false =>
          by_cases hlate : H + T < m
          · have HE : Hid (lateB y K = true) := by show lateB y K = true; unfold lateB; rw [HL.out.2.2.2.1, HL.out.2.2.2.2.1, ← HY.out.1, ← HY.out.2.1, ← HY.out.2.2, decide_eq_true (show K ≠ S0 from hs), decide_eq_true hlate]; rfl
            have d1 : (T : Int) < (m : Int) - (H : Int) := by omega
            have d3 : decide ((T : Int) < (m : Int) - (H : Int)) = true := by simpa using d1
            have d2 : IntKind.i64.wrap ((m : Int) - (H : Int)) = (m : Int) - (H : Int) := IntWalk.i64_in _ (by have := HM.out.1; omega)
            clear hs hlate bH bT
            go_wp2_with fail
            go_quiet (fail)
            rename_i nq
            obtain ⟨w2, hw2⟩ : ∃ w2, w2 = wr.drewN nq := ⟨_, rfl⟩
            rw [← hw2]
            have c0' : w2.cell? ⟨r, 0, none⟩ = some (.int .i64 (n : Nat)) := by rw [hw2]; exact c0
            have c3' : w2.cell? ⟨r, 3, none⟩ = some (.slice (some ⟨q, 0, none⟩) n1 cap) := by rw [hw2]; exact c3
            have cs' : w2.cell? ⟨q, K * 3 + 2, none⟩ = some (.bool false) := by rw [hw2]; exact cs
            have fs' : w2.frozen? ⟨q, K * 3 + 2, none⟩ = false := by rw [hw2]; exact fs
            have HV3 : Hid (RWatch (w2.setCell ⟨q, K * 3 + 2, none⟩ (.bool true)) r q cap (partW y K) ∧ But2 r q (From w.heap.size) w (w2.setCell ⟨q, K * 3 + 2, none⟩ (.bool true)) ∧ RowI (w2.setCell ⟨q, K * 3 + 2, none⟩ (.bool true)) w.heap.size a (lsN (lateB y) k) capI) := by
              rw [hw2]
              exact ⟨HB.out.2.2.1.drewN.late HB.out.2.2.2.2 HE.out (World.size_setCell _ _ _) (fun o => cell_neB HQL.out.2.1) (cell_eq cs) (fun o ho => cell_ne ho) (fun o => World.frozen?_setCell _ _ _ _) (fun o => World.frozen?_setCell _ _ _ _) (partW_ok HL.out.2.2.2.2.2 _), HB.out.2.2.2.1.drewN.setQ _, HB.out.2.1.keepB fun j hj _ => Below.heap_setCell _ _ _ _ (by show j ≠ q; have := HQL.out.1; omega)⟩
            have HA : Hid (RowI ((w2.setCell ⟨q, K * 3 + 2, none⟩ (.bool true)).alloc (.cells #[.int .i64 (K : Nat)] 3)) w.heap.size a (lsN (lateB y) k) capI ∧ w.heap.size ≤ ((w2.setCell ⟨q, K * 3 + 2, none⟩ (.bool true)).alloc (.cells #[.int .i64 (K : Nat)] 3)).heap.size ∧ (lsN (lateB y) k).length ≤ 1000000 ∧ ((w2.setCell ⟨q, K * 3 + 2, none⟩ (.bool true)).alloc (.cells #[.int .i64 (K : Nat)] 3)).cell? ⟨w2.heap.size, 0, none⟩ = some (.int .i64 (K : Nat))) :=
              ⟨HV3.out.2.2.call ((Below.refl _ _).alloc (Nat.le_refl _) _), by have := HV3.out.2.1.size; simp only [World.size_alloc]; omega, by have := lsN_len (lateB y) k; have := HZ.out; have := HM.out.2; omega, by have h := World.cell?_alloc_new (w := (w2.setCell ⟨q, K * 3 + 2, none⟩ (.bool true))) #[.int .i64 (K : Nat)] 3 0; rw [World.size_setCell] at h; exact h⟩
            clear hw2
            go_wp2_with (at_builtin; refine wpList_append_RowI _ rfl (.tmp 75) (.tmp 77) rfl w.heap.size a l capI (lsN (lateB y) k) (K : Int) rfl HB.out.1 HA.out.1 HA.out.2.1 HA.out.2.2.1 ⟨w2.heap.size, 0, none⟩ 1 rfl HA.out.2.2.2 ?_; intro a5 m5 cap5 w5 hm5 hR5 hb5; have H5 : Hid (m5 = l + 1 ∧ RowI w5 w.heap.size a5 (lsN (lateB y) k ++ [(K : Int)]) cap5 ∧ RWatch w5 r q cap (partW y K) ∧ But2 r q (From w.heap.size) w w5) := ⟨hm5, hR5, (HV3.out.1.call ((Below.refl _ _).alloc (Nat.le_refl _) _)).block hb5.size (hb5.block r HQL.out.2.2) (hb5.block q HQL.out.1), (HV3.out.2.1.call (((Below.refl _ _).alloc (Nat.le_refl _) _).mono HV3.out.2.1.size)).call hb5⟩; clear hm5 hR5 hb5)
            have HLN : Hid (lsN (lateB y) (k + 1) = lsN (lateB y) k ++ [(K : Int)]) := by
              have e := lsN_yes (p := lateB y) (k := k) (by rw [← HB.out.2.2.2.2]; exact HE.out)
              rw [← HB.out.2.2.2.2] at e
              rw [← HB.out.2.2.2.2]
              exact e
            have HMM : Hid (m5 = (lsN (lateB y) (k + 1)).length) := by
              show m5 = _
              rw [HLN.out, List.length_append, H5.out.1, HB.out.1]; rfl
            go_roundw
            case rel => first | exact ⟨K + 1, k + 1, a5, cap5, m5, by have := HB.out.2.2.2.2; omega, HZ.out, HMM.out, rfl, by go_num, by rw [HLN.out]; exact H5.out.2.1, by rw [← HB.out.2.2.2.2]; exact H5.out.2.2.1, H5.out.2.2.2⟩ | ((repeat apply Exists.intro); exact ⟨⟨K + 1, k + 1, a5, cap5, m5, by have := HB.out.2.2.2.2; omega, HZ.out, HMM.out, rfl, by go_num, by rw [HLN.out]; exact H5.out.2.1, by rw [← HB.out.2.2.2.2]; exact H5.out.2.2.1, H5.out.2.2.2⟩, rfl⟩)
            case measure => have h1 := HZ.out; have h2 := HB.out.2.2.2.2; simp [Go.RowKit.intOf]; omega
          · have HE : Hid (lateB y K = false) := by show lateB y K = false; unfold lateB; rw [HL.out.2.2.2.2.1, ← HY.out.1, ← HY.out.2.1, decide_eq_false hlate]; simp
            have d1 : ¬ ((T : Int) < (m : Int) - (H : Int)) := by omega
            have d3 : decide ((T : Int) < (m : Int) - (H : Int)) = false := by simpa using d1
            have d2 : IntKind.i64.wrap ((m : Int) - (H : Int)) = (m : Int) - (H : Int) := IntWalk.i64_in _ (by have := HM.out.1; omega)
            clear hs hlate bH bT
            have HQ : Hid (lateB y (k + 1) = false) := by show lateB y (k + 1) = false; rw [← HB.out.2.2.2.2]; exact HE.out
            go_wp2_with fail
            go_quiet (fail)
            go_wp2_with fail
            go_roundw
            case rel => first | exact ⟨K + 1, k + 1, a, capI, l, by have := HB.out.2.2.2.2; omega, HZ.out, by rw [lsN_no HQ.out]; exact HB.out.1, rfl, by go_num, by rw [lsN_no HQ.out]; exact HB.out.2.1, by rw [partW_no HQ.out]; exact HB.out.2.2.1.drewN, HB.out.2.2.2.1.drewN⟩ | ((repeat apply Exists.intro); exact ⟨⟨K + 1, k + 1, a, capI, l, by have := HB.out.2.2.2.2; omega, HZ.out, by rw [lsN_no HQ.out]; exact HB.out.1, rfl, by go_num, by rw [lsN_no HQ.out]; exact HB.out.2.1, by rw [partW_no HQ.out]; exact HB.out.2.2.1.drewN, HB.out.2.2.2.1.drewN⟩, rfl⟩)
            case measure => have h1 := HZ.out; have h2 := HB.out.2.2.2.2; simp [Go.RowKit.intOf]; omega
    · obtain rfl : k = n := by omega
      have hnl : ¬ ((K : Int) ≤ (k : Int)) := by omega
      clear hlt hk hl hR hV hB hK
      go_wp2_with fail
      refine HKr.out _ _ ?_
      clear HKr
      go_wp2_with fail
      go_ret2
      exact ⟨a, capI, by rw [HB.out.1]; rfl, HB.out.2.1.from, HB.out.2.2.1, HB.out.2.2.2.1⟩
end Go.Proofs.Ytpgpbfcomobfkaa
