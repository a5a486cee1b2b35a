/- Package king: a node in memory; the calls that only look; New. -/
import Derived.Test.YtcahfkfafdoilaaKgN
import Derived.Test.YtcahfkfafdoilaaRowI
namespace Go.Proofs.Ytcahfkfafdoilaa
open Go Go.RowKit Go.Lib

structure NodeAt (w : World) (g : Nat) (x : Kn) : Prop where
  ok : x.Ok
  lt : g < w.heap.size
  c0 : w.cell? ⟨g, 0, none⟩ = some (.int .i64 (x.n : Nat))
  c1 : w.cell? ⟨g, 1, none⟩ = some (.int .i64 (x.f : Nat))
  c2 : w.cell? ⟨g, 2, none⟩ = some (.int .i64 (x.v : Nat))
  c3 : w.cell? ⟨g, 3, none⟩ = some (.int .i64 (x.r : Nat))
  c4 : w.cell? ⟨g, 4, none⟩ = some (.bool x.m)
  fz : ∀ o, w.frozen? ⟨g, o, none⟩ = false
theorem NodeAt.block {w w' : World} {g : Nat} {x : Kn} (h : NodeAt w g x) (hz : w.heap.size ≤ w'.heap.size) (hb : w'.heap[g]? = w.heap[g]?) : NodeAt w' g x :=
  have e : ∀ o, w'.cell? ⟨g, o, none⟩ = w.cell? ⟨g, o, none⟩ := fun o => World.cell?_of_block (w := w) (a := ⟨g, o, none⟩) hb
  ⟨h.ok, Nat.lt_of_lt_of_le h.lt hz, (e _).trans h.c0, (e _).trans h.c1, (e _).trans h.c2, (e _).trans h.c3, (e _).trans h.c4, fun o => (World.frozen?_of_block (w := w) (a := ⟨g, o, none⟩) hb).trans (h.fz o)⟩
theorem NodeAt.call {w w' : World} {g : Nat} {x : Kn} (h : NodeAt w g x) (hb : Below w.heap.size w w') : NodeAt w' g x := h.block hb.size (hb.block g h.lt)
theorem NodeAt.drew {w : World} {g : Nat} {x : Kn} (h : NodeAt w g x) : NodeAt w.drew g x := ⟨h.ok, h.lt, h.c0, h.c1, h.c2, h.c3, h.c4, h.fz⟩

theorem kisTable_any (n f : Int) (w : World) : Calls Try.prog 23 #[.int .i64 n, .int .i64 f] w fun e w' => e = .returned (.bool (decide (1 ≤ n ∧ n ≤ 10 ∧ 0 ≤ f ∧ 3 * f < n))) ∧ w' = w := by
  by_cases h1 : 1 ≤ n
  · by_cases h2 : n ≤ 10
    · by_cases h3 : 0 ≤ f
      · obtain ⟨q, hq⟩ : ∃ q : Int, q = (n - 1).tdiv 3 := ⟨_, rfl⟩
        obtain ⟨k, rfl⟩ : ∃ k : Nat, n = (k : Int) + 1 := ⟨(n - 1).toNat, by omega⟩
        have e1 : (k : Int) + 1 - 1 = (k : Nat) := by omega
        rw [e1] at hq
        have hq2 : q = ((k / 3 : Nat) : Int) := hq
        obtain ⟨D, hD⟩ : ∃ D, D = decide (1 ≤ (k : Int) + 1 ∧ (k : Int) + 1 ≤ 10 ∧ 0 ≤ f ∧ 3 * f < (k : Int) + 1) := ⟨_, rfl⟩
        have hD2 : decide (f ≤ q) = D := by rw [hD, hq2]; exact decide_eq_decide.2 ⟨fun c => by omega, fun c => by omega⟩
        rw [← hD]
        have hq3 : ((k : Nat) : Int).tdiv 3 = q := hq.symm
        have b0 : 0 ≤ q := by omega
        have b1 : q ≤ 3 := by omega
        clear hD hq hq2
        go_enter Try.func23, Try.ntmps23
        go_wp2
        go_ret
        exact ⟨rfl, rfl⟩
      · rw [decide_eq_false (show ¬ (1 ≤ n ∧ n ≤ 10 ∧ 0 ≤ f ∧ 3 * f < n) from fun c => h3 c.2.2.1)]
        go_enter Try.func23, Try.ntmps23
        go_wp2
        go_ret
        exact ⟨rfl, rfl⟩
    · rw [decide_eq_false (show ¬ (1 ≤ n ∧ n ≤ 10 ∧ 0 ≤ f ∧ 3 * f < n) from fun c => h2 c.2.1)]
      go_enter Try.func23, Try.ntmps23
      go_wp2
      go_ret
      exact ⟨rfl, rfl⟩
  · rw [decide_eq_false (show ¬ (1 ≤ n ∧ n ≤ 10 ∧ 0 ≤ f ∧ 3 * f < n) from fun c => h1 c.1)]
    go_enter Try.func23, Try.ntmps23
    go_wp2
    go_ret
    exact ⟨rfl, rfl⟩
/-- What New asks. -/
def NewOk (n f s v : Int) : Prop := (1 ≤ n ∧ n ≤ 10 ∧ 0 ≤ f ∧ 3 * f < n) ∧ 1 ≤ s ∧ s ≤ n ∧ 0 ≤ v ∧ v ≤ 1
theorem knew_no (n f s v : Int) (h : ¬ NewOk n f s v) (w : World) : Calls Try.prog 8 #[.int .i64 n, .int .i64 f, .int .i64 s, .int .i64 v] w fun e w' => e = .returned (.tuple #[.pointer none, .int .i64 1]) ∧ w' = w := by
  by_cases h1 : 1 ≤ n ∧ n ≤ 10 ∧ 0 ≤ f ∧ 3 * f < n
  · have HD : Hid (decide (1 ≤ n ∧ n ≤ 10 ∧ 0 ≤ f ∧ 3 * f < n) = true) := decide_eq_true h1
    have h2 : s < 1 ∨ (1 ≤ s ∧ n < s) ∨ (1 ≤ s ∧ s ≤ n ∧ v < 0) ∨ (1 ≤ s ∧ s ≤ n ∧ 0 ≤ v ∧ 1 < v) := by unfold NewOk at h; omega
    clear h h1
    rcases h2 with h | ⟨h, h'⟩ | ⟨h, h', h''⟩ | ⟨h, h', h'', h'''⟩
    all_goals
      go_enter Try.func8, Try.ntmps8
      go_wp2_with fail
      refine (kisTable_any _ _ _).mono ?_
      rintro e w1 ⟨rfl, rfl⟩
      rw [HD.out]
      go_wp2_with fail
      go_ret2
      exact ⟨rfl, rfl⟩
  · have HD : Hid (decide (1 ≤ n ∧ n ≤ 10 ∧ 0 ≤ f ∧ 3 * f < n) = false) := decide_eq_false h1
    clear h h1
    go_enter Try.func8, Try.ntmps8
    go_wp2_with fail
    refine (kisTable_any _ _ _).mono ?_
    rintro e w1 ⟨rfl, rfl⟩
    rw [HD.out]
    go_wp2_with fail
    go_ret2
    exact ⟨rfl, rfl⟩
theorem knode_new (n f v : Nat) (h : (newK n f v).Ok) (w : World) : NodeAt (w.alloc (Obj.cells #[.int .i64 (n : Nat), .int .i64 (f : Nat), .int .i64 (v : Nat), .int .i64 0, .bool false] 53)) w.heap.size (newK n f v) :=
  have e : ∀ (c : Array Value) (t : TypeId) (o : Nat), (w.alloc (Obj.cells c t)).cell? ⟨w.heap.size, o, none⟩ = c[o]? := fun c t o => World.cell?_alloc_new _ _ _ _
  ⟨h, by simp, by rw [e]; rfl, by rw [e]; rfl, by rw [e]; rfl, by rw [e]; rfl, by rw [e]; rfl, fun o => World.frozen?_alloc_new _ _ _ _⟩
theorem knew_ok (n f s v : Nat) (h : NewOk n f s v) (w : World) : Calls Try.prog 8 #[.int .i64 (n : Nat), .int .i64 (f : Nat), .int .i64 (s : Nat), .int .i64 (v : Nat)] w fun e w' => e = .returned (.tuple #[.pointer (some ⟨w.heap.size, 0, none⟩), .int .i64 0]) ∧ NodeAt w' w.heap.size (newK n f v) ∧ Below w.heap.size w w' ∧ w'.heap.size = w.heap.size + 1 := by
  have HO : Hid ((newK n f v).Ok) := newK_ok (by unfold NewOk at h; omega) (by unfold NewOk at h; omega) (by unfold NewOk at h; omega) (by unfold NewOk at h; omega)
  have HD : Hid (decide (1 ≤ (n : Int) ∧ (n : Int) ≤ 10 ∧ 0 ≤ (f : Int) ∧ 3 * (f : Int) < (n : Int)) = true) := decide_eq_true h.1
  obtain ⟨-, h1, h2, h3, h4⟩ := h
  go_enter Try.func8, Try.ntmps8
  go_wp2_with fail
  refine (kisTable_any _ _ _).mono ?_
  rintro e w1 ⟨rfl, rfl⟩
  rw [HD.out]
  go_wp2_with fail
  go_ret2
  exact ⟨rfl, knode_new n f v HO.out _, below_alloc0 (Below.refl _ _) _, by simp⟩
theorem kisNone_nil (w : World) : Calls Try.prog 25 #[.pointer none] w fun e w' => e = .returned (.bool true) ∧ w' = w := by
  go_enter Try.func25, Try.ntmps25
  go_wp2
  go_ret
  exact ⟨rfl, rfl⟩
theorem kisNone_in (g : Nat) (x : Kn) (w : World) (h : NodeAt w g x) : Calls Try.prog 25 #[.pointer (some ⟨g, 0, none⟩)] w fun e w' => e = .returned (.bool false) ∧ w' = w := by
  have c0 := h.c0
  have h1 : ¬ ((x.n : Int) = 0) := by have := h.ok.n1; omega
  clear h
  go_enter Try.func25, Try.ntmps25
  go_wp2
  go_ret
  exact ⟨by simpa using h1, rfl⟩
theorem kround_nil (w : World) : Calls Try.prog 17 #[.pointer none] w fun e w' => e = .returned (.int .i64 0) ∧ w' = w := by
  go_enter Try.func17, Try.ntmps17
  go_wp2_with fail
  refine (kisNone_nil _).mono ?_
  rintro e w1 ⟨rfl, rfl⟩
  go_wp2_with fail
  go_ret
  exact ⟨rfl, rfl⟩
theorem krounds_nil (w : World) : Calls Try.prog 13 #[.pointer none] w fun e w' => e = .returned (.int .i64 0) ∧ w' = w := by
  go_enter Try.func13, Try.ntmps13
  go_wp2_with fail
  refine (kisNone_nil _).mono ?_
  rintro e w1 ⟨rfl, rfl⟩
  go_wp2_with fail
  go_ret
  exact ⟨rfl, rfl⟩
theorem kround_in (g : Nat) (x : Kn) (w : World) (h : NodeAt w g x) : Calls Try.prog 17 #[.pointer (some ⟨g, 0, none⟩)] w fun e w' => e = .returned (.int .i64 (x.r : Nat)) ∧ w' = w := by
  have c3 := h.c3
  have H : Hid (NodeAt w g x) := h
  clear h
  go_enter Try.func17, Try.ntmps17
  go_wp2_with fail
  refine (kisNone_in g x _ H.out).mono ?_
  rintro e w1 ⟨rfl, rfl⟩
  go_wp2_with fail
  go_ret
  exact ⟨rfl, rfl⟩
theorem krounds_in (g : Nat) (x : Kn) (w : World) (h : NodeAt w g x) : Calls Try.prog 13 #[.pointer (some ⟨g, 0, none⟩)] w fun e w' => e = .returned (.int .i64 ((3 * (x.f + 1) : Nat) : Int)) ∧ w' = w := by
  have c1 := h.c1
  have hf : (x.f : Int) ≤ 10 := by have := h.ok.hf; have := h.ok.n10; omega
  have H : Hid (NodeAt w g x) := h
  clear h
  go_enter Try.func13, Try.ntmps13
  go_wp2_with fail
  refine (kisNone_in g x _ H.out).mono ?_
  rintro e w1 ⟨rfl, rfl⟩
  go_wp2_with fail
  go_ret
  exact ⟨by go_num, rfl⟩
theorem kgoes_nil (w : World) : Calls Try.prog 24 #[.pointer none] w fun e w' => e = .returned (.bool false) ∧ w' = w := by
  go_enter Try.func24, Try.ntmps24
  go_wp2_with fail
  refine (kround_nil _).mono ?_
  rintro e w1 ⟨rfl, rfl⟩
  go_wp2_with fail
  refine (krounds_nil _).mono ?_
  rintro e w1 ⟨rfl, rfl⟩
  go_wp2_with fail
  go_ret
  exact ⟨rfl, rfl⟩
theorem kgoes_in (g : Nat) (x : Kn) (w : World) (h : NodeAt w g x) : Calls Try.prog 24 #[.pointer (some ⟨g, 0, none⟩)] w fun e w' => e = .returned (.bool (decide (x.r < 3 * (x.f + 1)))) ∧ w' = w := by
  have H : Hid (NodeAt w g x) := h
  obtain ⟨R, hR⟩ : ∃ R, R = 3 * (x.f + 1) := ⟨_, rfl⟩
  have K2 : Hid (∀ w, NodeAt w g x → Calls Try.prog 13 #[.pointer (some ⟨g, 0, none⟩)] w fun e w' => e = .returned (.int .i64 (R : Nat)) ∧ w' = w) := by rw [hR]; exact krounds_in g x
  rw [← hR]
  clear h hR
  go_enter Try.func24, Try.ntmps24
  go_wp2_with fail
  refine (kround_in g x _ H.out).mono ?_
  rintro e w1 ⟨rfl, rfl⟩
  go_wp2_with fail
  refine (K2.out _ H.out).mono ?_
  rintro e w1 ⟨rfl, rfl⟩
  go_wp2_with fail
  go_ret
  exact ⟨by simp, rfl⟩
end Go.Proofs.Ytcahfkfafdoilaa
