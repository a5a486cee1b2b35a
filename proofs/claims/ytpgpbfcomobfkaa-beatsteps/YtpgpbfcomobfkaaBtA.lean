/- Package beat: a watch in memory, and the calls that only look. -/
import Derived.Test.YtpgpbfcomobfkaaBtN
import Derived.Test.YtpgpbfcomobfkaaRowI
namespace Go.Proofs.Ytpgpbfcomobfkaa
open Go Go.RowKit Go.Lib

/-- A watch at block g. -/
structure WatchAt (w : World) (g : Nat) (x : Wt) : Prop where
  ok : x.Ok
  lt : g < w.heap.size
  c0 : w.cell? ⟨g, 0, none⟩ = some (.int .i64 (x.n : Nat))
  c1 : w.cell? ⟨g, 1, none⟩ = some (.int .i64 (x.self : Nat))
  c2 : w.cell? ⟨g, 2, none⟩ = some (.int .i64 (x.now : Nat))
  ch : ∀ k, k ≤ 10 → w.cell? ⟨g, 3 + k * 3, none⟩ = some (.int .i64 (x.h k : Nat))
  ct : ∀ k, k ≤ 10 → w.cell? ⟨g, 3 + k * 3 + 1, none⟩ = some (.int .i64 (x.t k : Nat))
  cs : ∀ k, k ≤ 10 → w.cell? ⟨g, 3 + k * 3 + 2, none⟩ = some (.bool (x.s k))
  fz : ∀ o, w.frozen? ⟨g, o, none⟩ = false
theorem WatchAt.call {w w' : World} {g : Nat} {x : Wt} (h : WatchAt w g x) (hb : Below w.heap.size w w') : WatchAt w' g x :=
  ⟨h.ok, Nat.lt_of_lt_of_le h.lt hb.size, (hb.cell (p := ⟨g, _, none⟩) h.lt).trans h.c0, (hb.cell (p := ⟨g, _, none⟩) h.lt).trans h.c1, (hb.cell (p := ⟨g, _, none⟩) h.lt).trans h.c2,
   fun k hk => (hb.cell (p := ⟨g, _, none⟩) h.lt).trans (h.ch k hk), fun k hk => (hb.cell (p := ⟨g, _, none⟩) h.lt).trans (h.ct k hk), fun k hk => (hb.cell (p := ⟨g, _, none⟩) h.lt).trans (h.cs k hk), fun o => (hb.frozen (p := ⟨g, o, none⟩) h.lt).trans (h.fz o)⟩
theorem WatchAt.drew {w : World} {g : Nat} {x : Wt} (h : WatchAt w g x) : WatchAt w.drew g x := ⟨h.ok, h.lt, h.c0, h.c1, h.c2, h.ch, h.ct, h.cs, h.fz⟩
/-- Behind what leaves block g alone. -/
theorem WatchAt.block {w w' : World} {g : Nat} {x : Wt} (h : WatchAt w g x) (hz : w.heap.size ≤ w'.heap.size) (hb : w'.heap[g]? = w.heap[g]?) : WatchAt w' g x :=
  have e : ∀ o, w'.cell? ⟨g, o, none⟩ = w.cell? ⟨g, o, none⟩ := fun o => World.cell?_of_block (w := w) (a := ⟨g, o, none⟩) hb
  ⟨h.ok, Nat.lt_of_lt_of_le h.lt hz, (e _).trans h.c0, (e _).trans h.c1, (e _).trans h.c2, fun k hk => (e _).trans (h.ch k hk), fun k hk => (e _).trans (h.ct k hk), fun k hk => (e _).trans (h.cs k hk), fun o => (World.frozen?_of_block (w := w) (a := ⟨g, o, none⟩) hb).trans (h.fz o)⟩

theorem isTable_any (n : Int) (w : World) : Calls Try.prog 24 #[.int .i64 n] w fun e w' => e = .returned (.bool (decide (1 ≤ n ∧ n ≤ 10))) ∧ w' = w := by
  by_cases h1 : 1 ≤ n
  · by_cases h2 : n ≤ 10
    · rw [decide_eq_true (show 1 ≤ n ∧ n ≤ 10 from ⟨h1, h2⟩)]
      go_enter Try.func24, Try.ntmps24
      go_wp2
      go_ret
      exact ⟨rfl, rfl⟩
    · rw [decide_eq_false (show ¬ (1 ≤ n ∧ n ≤ 10) from fun c => h2 c.2)]
      go_enter Try.func24, Try.ntmps24
      go_wp2
      go_ret
      exact ⟨rfl, rfl⟩
  · rw [decide_eq_false (show ¬ (1 ≤ n ∧ n ≤ 10) from fun c => h1 c.1)]
    go_enter Try.func24, Try.ntmps24
    go_wp2
    go_ret
    exact ⟨rfl, rfl⟩
theorem isBig_any (n : Int) (w : World) : Calls Try.prog 26 #[.int .i64 n] w fun e w' => e = .returned (.bool (decide (0 ≤ n ∧ n ≤ 1099511627776))) ∧ w' = w := by
  by_cases h1 : 0 ≤ n
  · by_cases h2 : n ≤ 1099511627776
    · rw [decide_eq_true (show 0 ≤ n ∧ n ≤ 1099511627776 from ⟨h1, h2⟩)]
      go_enter Try.func26, Try.ntmps26
      go_wp2
      go_ret
      exact ⟨rfl, rfl⟩
    · rw [decide_eq_false (show ¬ (0 ≤ n ∧ n ≤ 1099511627776) from fun c => h2 c.2)]
      go_enter Try.func26, Try.ntmps26
      go_wp2
      go_ret
      exact ⟨rfl, rfl⟩
  · rw [decide_eq_false (show ¬ (0 ≤ n ∧ n ≤ 1099511627776) from fun c => h1 c.1)]
    go_enter Try.func26, Try.ntmps26
    go_wp2
    go_ret
    exact ⟨rfl, rfl⟩
theorem isNode_any (n k : Int) (w : World) : Calls Try.prog 25 #[.int .i64 n, .int .i64 k] w fun e w' => e = .returned (.bool (decide (1 ≤ k ∧ k ≤ n))) ∧ w' = w := by
  by_cases h1 : 1 ≤ k
  · by_cases h2 : k ≤ n
    · rw [decide_eq_true (show 1 ≤ k ∧ k ≤ n from ⟨h1, h2⟩)]
      go_enter Try.func25, Try.ntmps25
      go_wp2
      go_ret
      exact ⟨rfl, rfl⟩
    · rw [decide_eq_false (show ¬ (1 ≤ k ∧ k ≤ n) from fun c => h2 c.2)]
      go_enter Try.func25, Try.ntmps25
      go_wp2
      go_ret
      exact ⟨rfl, rfl⟩
  · rw [decide_eq_false (show ¬ (1 ≤ k ∧ k ≤ n) from fun c => h1 c.1)]
    go_enter Try.func25, Try.ntmps25
    go_wp2
    go_ret
    exact ⟨rfl, rfl⟩
theorem has_any (g : Nat) (x : Wt) (k : Int) (w : World) (hW : WatchAt w g x) : Calls Try.prog 27 #[.pointer (some ⟨g, 0, none⟩), .int .i64 k] w fun e w' => e = .returned (.bool (decide (1 ≤ k ∧ k ≤ (x.n : Nat)))) ∧ w' = w := by
  have c0 := hW.c0
  obtain ⟨D, hD⟩ : ∃ D, D = decide (1 ≤ k ∧ k ≤ (x.n : Nat)) := ⟨_, rfl⟩
  rw [← hD]
  have HD : Hid _ := hD
  clear hD hW
  go_enter Try.func27, Try.ntmps27
  go_wp2_with fail
  refine (isNode_any _ _ _).mono ?_
  rintro e w1 ⟨rfl, rfl⟩
  rw [← HD.out]
  go_wp2_with fail
  go_ret
  exact ⟨rfl, rfl⟩
theorem mayBe_any (g : Nat) (x : Wt) (m : Int) (w : World) (hW : WatchAt w g x) : Calls Try.prog 28 #[.pointer (some ⟨g, 0, none⟩), .int .i64 m] w fun e w' => e = .returned (.bool (decide ((x.now : Nat) ≤ m ∧ m ≤ 1099511627776))) ∧ w' = w := by
  have c2 := hW.c2
  clear hW
  by_cases h1 : ((x.now : Nat) : Int) ≤ m
  · obtain ⟨D, hD⟩ : ∃ D, D = decide (((x.now : Nat) : Int) ≤ m ∧ m ≤ 1099511627776) := ⟨_, rfl⟩
    have hE : decide (0 ≤ m ∧ m ≤ 1099511627776) = D := by
      rw [hD]; exact decide_eq_decide.2 ⟨fun c => ⟨h1, c.2⟩, fun c => ⟨by omega, c.2⟩⟩
    rw [← hD]
    have HE : Hid _ := hE
    clear hD hE
    go_enter Try.func28, Try.ntmps28
    go_wp2_with fail
    refine (isBig_any _ _).mono ?_
    rintro e w1 ⟨rfl, rfl⟩
    rw [HE.out]
    go_wp2_with fail
    go_ret
    exact ⟨rfl, rfl⟩
  · rw [decide_eq_false (show ¬ (((x.now : Nat) : Int) ≤ m ∧ m ≤ 1099511627776) from fun c => h1 c.1)]
    go_enter Try.func28, Try.ntmps28
    go_wp2_with fail
    go_ret
    exact ⟨rfl, rfl⟩
theorem wnow_any (g : Nat) (x : Wt) (w : World) (hW : WatchAt w g x) : Calls Try.prog 20 #[.pointer (some ⟨g, 0, none⟩)] w fun e w' => e = .returned (.int .i64 (x.now : Nat)) ∧ w' = w := by
  have c2 := hW.c2
  clear hW
  go_enter Try.func20, Try.ntmps20
  go_wp2_with fail
  go_ret
  exact ⟨rfl, rfl⟩
theorem isSilent_any (g : Nat) (x : Wt) (k : Nat) (hk : k ≤ 10) (w : World) (hW : WatchAt w g x) : Calls Try.prog 31 #[.pointer (some ⟨g, 0, none⟩), .int .i64 (k : Nat)] w fun e w' => e = .returned (.bool (x.s k)) ∧ w' = w := by
  have c := hW.cs k hk
  have k1 : (k : Int) < 11 := by omega
  have k0 : (0 : Int) ≤ (k : Int) := by omega
  clear hW hk
  go_enter Try.func31, Try.ntmps31
  go_wp2_with fail
  go_ret
  exact ⟨rfl, rfl⟩
end Go.Proofs.Ytpgpbfcomobfkaa
