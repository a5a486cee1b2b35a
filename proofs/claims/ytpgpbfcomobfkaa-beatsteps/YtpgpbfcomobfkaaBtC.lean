/- Package beat: the lists of nodes, by a method value. -/
import Derived.Test.YtpgpbfcomobfkaaBtB
namespace Go.Proofs.Ytpgpbfcomobfkaa
open Go Go.RowKit Go.Lib
theorem isSilent_below (g : Nat) (x : Wt) (k : Nat) (hk : k ≤ 10) (w : World) (hW : WatchAt w g x) : Calls Try.prog 31 #[.pointer (some ⟨g, 0, none⟩), .int .i64 (k : Nat)] w fun e w' => e = .returned (.bool (x.s k)) ∧ Below w.heap.size w w' :=
  (isSilent_any g x k hk w hW).mono fun e w' ⟨h1, h2⟩ => ⟨h1, by rw [h2]; exact Below.refl _ _⟩

set_option maxHeartbeats 1000000 in
theorem those_late (g : Nat) (x : Wt) (w : World) (hW : WatchAt w g x) : Calls Try.prog 29 #[.pointer (some ⟨g, 0, none⟩), .func (.func 30) #[.pointer (some ⟨g, 0, none⟩)] #[]] w fun e w' => ∃ a cap, e = .returned (.slice a (lsN (lateB x) x.n).length cap) ∧ RowI w' w.heap.size a (lsN (lateB x) x.n) cap ∧ Below w.heap.size w w' := by
  have HW : Hid (WatchAt w g x) := hW
  have n10 := hW.ok.n10
  obtain ⟨p, hp⟩ : ∃ p : Nat → Bool, p = lateB x := ⟨_, rfl⟩
  rw [← hp]
  have HP : Hid _ := hp
  obtain ⟨n, hn⟩ : ∃ n, n = x.n := ⟨_, rfl⟩
  rw [← hn] at n10
  rw [← hn]
  have HN : Hid (n = x.n) := hn
  clear hW hp hn
  go_enter Try.func29, Try.ntmps29
  go_wp2_with fail
  rename_i Kr hKr
  have HKr : Hid _ := hKr
  clear hKr
  go_loopw [5, 6] (fun ov iv wr => ∃ (K k : Nat) (a : Option Addr) (cap m : Nat), K = k + 1 ∧ k ≤ n ∧ m = (lsN p k).length ∧ ov = .slice a m cap ∧ iv = .int .i64 (K : Nat) ∧ RowI wr w.heap.size a (lsN p k) cap ∧ Below w.heap.size w wr) (fun _ iv _ => n + 1 - (Go.RowKit.intOf iv).toNat)
  case atStart => exact ⟨1, 0, none, 0, 0, rfl, Nat.zero_le _, rfl, rfl, rfl, RowI.nil _ _, Below.refl _ _⟩
  case round =>
    obtain ⟨K, k, a, cap, m, hK, hk, hm, rfl, rfl, hR, hB⟩ := hrel
    rename World => wr
    have HB : Hid (m = (lsN p k).length ∧ RowI wr w.heap.size a (lsN p k) cap ∧ Below w.heap.size w wr ∧ K = k + 1) := ⟨hm, hR, hB, hK⟩
    have c0 : wr.cell? ⟨g, 0, none⟩ = some (.int .i64 (n : Nat)) := by rw [HN.out]; exact (HW.out.call (hB.mono (Nat.le_refl _))).c0
    clear hm hR hB
    by_cases hlt : k < n
    · clear HKr
      have hlt' : (K : Int) ≤ (n : Int) := by omega
      have n10' : (n : Int) ≤ 10 := by omega
      have HZ : Hid (k < n ∧ n ≤ 10) := ⟨hlt, n10⟩
      clear hlt hk n10 hK
      go_wp2_with fail
      refine (isLate_any g x K (by have := HZ.out; have := HB.out.2.2.2; omega) _ (HW.out.call HB.out.2.2.1)).mono ?_
      rintro e w1 ⟨rfl, hb1⟩
      have H1 : Hid (RowI w1 w.heap.size a (lsN p k) cap ∧ Below w.heap.size w w1 ∧ (lateB x) K = p K) := ⟨HB.out.2.1.call hb1, below_call0 HB.out.2.2.1 hb1, by rw [HP.out]⟩
      clear hb1
      rw [H1.out.2.2]
      cases hq : p K with
      | true =>
        have HQ : Hid (p K = true) := hq
        clear hq
        have HA : Hid (RowI (w1.alloc (.cells #[.int .i64 (K : Nat)] 3)) w.heap.size a (lsN p k) cap ∧ Below w.heap.size w (w1.alloc (.cells #[.int .i64 (K : Nat)] 3)) ∧ (lsN p k).length ≤ 1000000 ∧ (w1.alloc (.cells #[.int .i64 (K : Nat)] 3)).cell? ⟨w1.heap.size, 0, none⟩ = some (.int .i64 (K : Nat))) :=
          ⟨H1.out.1.call ((Below.refl _ _).alloc (Nat.le_refl _) _), below_alloc0 H1.out.2.1 _, by have := lsN_len p k; have := HZ.out; omega, by simp [go_sem]⟩
        go_wp2_with (at_builtin; refine wpList_append_RowI _ rfl (.tmp 18) (.tmp 20) rfl w.heap.size a m cap (lsN p k) (K : Int) rfl HB.out.1 HA.out.1 HA.out.2.1.size HA.out.2.2.1 ⟨w1.heap.size, 0, none⟩ 1 rfl HA.out.2.2.2 ?_; intro a5 m5 cap5 w5 hm5 hR5 hb5; have H5 : Hid (m5 = m + 1 ∧ RowI w5 w.heap.size a5 (lsN p k ++ [(K : Int)]) cap5 ∧ Below w.heap.size w w5) := ⟨hm5, hR5, HA.out.2.1.trans hb5⟩; clear hm5 hR5 hb5)
        have HL : Hid (lsN p (k + 1) = lsN p k ++ [(K : Int)]) := by
          have e := lsN_yes (p := p) (k := k) (by rw [← HB.out.2.2.2]; exact HQ.out)
          rw [← HB.out.2.2.2] at e
          rw [← HB.out.2.2.2]
          exact e
        have HM : Hid (m5 = (lsN p (k + 1)).length) := by
          show m5 = _
          rw [HL.out, List.length_append, H5.out.1, HB.out.1]; rfl
        go_roundw
        case rel => first | exact ⟨K + 1, k + 1, a5, cap5, m5, by have := HB.out.2.2.2; omega, HZ.out.1, HM.out, rfl, by go_num, by rw [HL.out]; exact H5.out.2.1, H5.out.2.2⟩ | ((repeat apply Exists.intro); exact ⟨⟨K + 1, k + 1, a5, cap5, m5, by have := HB.out.2.2.2; omega, HZ.out.1, HM.out, rfl, by go_num, by rw [HL.out]; exact H5.out.2.1, H5.out.2.2⟩, rfl⟩)
        case measure => have h1 := HZ.out; have h2 := HB.out.2.2.2; simp [Go.RowKit.intOf]; omega
      | false =>
        have HQ : Hid (p (k + 1) = false) := by rw [← HB.out.2.2.2]; exact hq
        clear hq
        go_wp2_with fail
        go_roundw
        case rel => first | exact ⟨K + 1, k + 1, a, cap, m, by have := HB.out.2.2.2; omega, HZ.out.1, by rw [lsN_no HQ.out]; exact HB.out.1, rfl, by go_num, by rw [lsN_no HQ.out]; exact H1.out.1, H1.out.2.1⟩ | ((repeat apply Exists.intro); exact ⟨⟨K + 1, k + 1, a, cap, m, by have := HB.out.2.2.2; omega, HZ.out.1, by rw [lsN_no HQ.out]; exact HB.out.1, rfl, by go_num, by rw [lsN_no HQ.out]; exact H1.out.1, H1.out.2.1⟩, rfl⟩)
        case measure => have h1 := HZ.out; have h2 := HB.out.2.2.2; simp [Go.RowKit.intOf]; omega
    · obtain rfl : k = n := by omega
      have hnl : ¬ ((K : Int) ≤ (k : Int)) := by omega
      clear hlt hk hK
      go_wp2_with fail
      refine HKr.out _ _ ?_
      clear HKr
      go_wp2_with fail
      go_ret
      exact ⟨a, cap, by rw [HB.out.1]; rfl, HB.out.2.1, HB.out.2.2.1⟩

set_option maxHeartbeats 1000000 in
theorem those_silent (g : Nat) (x : Wt) (w : World) (hW : WatchAt w g x) : Calls Try.prog 29 #[.pointer (some ⟨g, 0, none⟩), .func (.func 31) #[.pointer (some ⟨g, 0, none⟩)] #[]] w fun e w' => ∃ a cap, e = .returned (.slice a (lsN (x.s) x.n).length cap) ∧ RowI w' w.heap.size a (lsN (x.s) x.n) cap ∧ Below w.heap.size w w' := by
  have HW : Hid (WatchAt w g x) := hW
  have n10 := hW.ok.n10
  obtain ⟨p, hp⟩ : ∃ p : Nat → Bool, p = x.s := ⟨_, rfl⟩
  rw [← hp]
  have HP : Hid _ := hp
  obtain ⟨n, hn⟩ : ∃ n, n = x.n := ⟨_, rfl⟩
  rw [← hn] at n10
  rw [← hn]
  have HN : Hid (n = x.n) := hn
  clear hW hp hn
  go_enter Try.func29, Try.ntmps29
  go_wp2_with fail
  rename_i Kr hKr
  have HKr : Hid _ := hKr
  clear hKr
  go_loopw [5, 6] (fun ov iv wr => ∃ (K k : Nat) (a : Option Addr) (cap m : Nat), K = k + 1 ∧ k ≤ n ∧ m = (lsN p k).length ∧ ov = .slice a m cap ∧ iv = .int .i64 (K : Nat) ∧ RowI wr w.heap.size a (lsN p k) cap ∧ Below w.heap.size w wr) (fun _ iv _ => n + 1 - (Go.RowKit.intOf iv).toNat)
  case atStart => exact ⟨1, 0, none, 0, 0, rfl, Nat.zero_le _, rfl, rfl, rfl, RowI.nil _ _, Below.refl _ _⟩
  case round =>
    obtain ⟨K, k, a, cap, m, hK, hk, hm, rfl, rfl, hR, hB⟩ := hrel
    rename World => wr
    have HB : Hid (m = (lsN p k).length ∧ RowI wr w.heap.size a (lsN p k) cap ∧ Below w.heap.size w wr ∧ K = k + 1) := ⟨hm, hR, hB, hK⟩
    have c0 : wr.cell? ⟨g, 0, none⟩ = some (.int .i64 (n : Nat)) := by rw [HN.out]; exact (HW.out.call (hB.mono (Nat.le_refl _))).c0
    clear hm hR hB
    by_cases hlt : k < n
    · clear HKr
      have hlt' : (K : Int) ≤ (n : Int) := by omega
      have n10' : (n : Int) ≤ 10 := by omega
      have HZ : Hid (k < n ∧ n ≤ 10) := ⟨hlt, n10⟩
      clear hlt hk n10 hK
      go_wp2_with fail
      refine (isSilent_below g x K (by have := HZ.out; have := HB.out.2.2.2; omega) _ (HW.out.call HB.out.2.2.1)).mono ?_
      rintro e w1 ⟨rfl, hb1⟩
      have H1 : Hid (RowI w1 w.heap.size a (lsN p k) cap ∧ Below w.heap.size w w1 ∧ (x.s) K = p K) := ⟨HB.out.2.1.call hb1, below_call0 HB.out.2.2.1 hb1, by rw [HP.out]⟩
      clear hb1
      rw [H1.out.2.2]
      cases hq : p K with
      | true =>
        have HQ : Hid (p K = true) := hq
        clear hq
        have HA : Hid (RowI (w1.alloc (.cells #[.int .i64 (K : Nat)] 3)) w.heap.size a (lsN p k) cap ∧ Below w.heap.size w (w1.alloc (.cells #[.int .i64 (K : Nat)] 3)) ∧ (lsN p k).length ≤ 1000000 ∧ (w1.alloc (.cells #[.int .i64 (K : Nat)] 3)).cell? ⟨w1.heap.size, 0, none⟩ = some (.int .i64 (K : Nat))) :=
          ⟨H1.out.1.call ((Below.refl _ _).alloc (Nat.le_refl _) _), below_alloc0 H1.out.2.1 _, by have := lsN_len p k; have := HZ.out; omega, by simp [go_sem]⟩
        go_wp2_with (at_builtin; refine wpList_append_RowI _ rfl (.tmp 18) (.tmp 20) rfl w.heap.size a m cap (lsN p k) (K : Int) rfl HB.out.1 HA.out.1 HA.out.2.1.size HA.out.2.2.1 ⟨w1.heap.size, 0, none⟩ 1 rfl HA.out.2.2.2 ?_; intro a5 m5 cap5 w5 hm5 hR5 hb5; have H5 : Hid (m5 = m + 1 ∧ RowI w5 w.heap.size a5 (lsN p k ++ [(K : Int)]) cap5 ∧ Below w.heap.size w w5) := ⟨hm5, hR5, HA.out.2.1.trans hb5⟩; clear hm5 hR5 hb5)
        have HL : Hid (lsN p (k + 1) = lsN p k ++ [(K : Int)]) := by
          have e := lsN_yes (p := p) (k := k) (by rw [← HB.out.2.2.2]; exact HQ.out)
          rw [← HB.out.2.2.2] at e
          rw [← HB.out.2.2.2]
          exact e
        have HM : Hid (m5 = (lsN p (k + 1)).length) := by
          show m5 = _
          rw [HL.out, List.length_append, H5.out.1, HB.out.1]; rfl
        go_roundw
        case rel => first | exact ⟨K + 1, k + 1, a5, cap5, m5, by have := HB.out.2.2.2; omega, HZ.out.1, HM.out, rfl, by go_num, by rw [HL.out]; exact H5.out.2.1, H5.out.2.2⟩ | ((repeat apply Exists.intro); exact ⟨⟨K + 1, k + 1, a5, cap5, m5, by have := HB.out.2.2.2; omega, HZ.out.1, HM.out, rfl, by go_num, by rw [HL.out]; exact H5.out.2.1, H5.out.2.2⟩, rfl⟩)
        case measure => have h1 := HZ.out; have h2 := HB.out.2.2.2; simp [Go.RowKit.intOf]; omega
      | false =>
        have HQ : Hid (p (k + 1) = false) := by rw [← HB.out.2.2.2]; exact hq
        clear hq
        go_wp2_with fail
        go_roundw
        case rel => first | exact ⟨K + 1, k + 1, a, cap, m, by have := HB.out.2.2.2; omega, HZ.out.1, by rw [lsN_no HQ.out]; exact HB.out.1, rfl, by go_num, by rw [lsN_no HQ.out]; exact H1.out.1, H1.out.2.1⟩ | ((repeat apply Exists.intro); exact ⟨⟨K + 1, k + 1, a, cap, m, by have := HB.out.2.2.2; omega, HZ.out.1, by rw [lsN_no HQ.out]; exact HB.out.1, rfl, by go_num, by rw [lsN_no HQ.out]; exact H1.out.1, H1.out.2.1⟩, rfl⟩)
        case measure => have h1 := HZ.out; have h2 := HB.out.2.2.2; simp [Go.RowKit.intOf]; omega
    · obtain rfl : k = n := by omega
      have hnl : ¬ ((K : Int) ≤ (k : Int)) := by omega
      clear hlt hk hK
      go_wp2_with fail
      refine HKr.out _ _ ?_
      clear HKr
      go_wp2_with fail
      go_ret
      exact ⟨a, cap, by rw [HB.out.1]; rfl, HB.out.2.1, HB.out.2.2.1⟩
end Go.Proofs.Ytpgpbfcomobfkaa
