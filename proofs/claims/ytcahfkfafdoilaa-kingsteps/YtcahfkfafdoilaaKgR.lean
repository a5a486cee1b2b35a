/- The reference's node: New, Rounds, Send, count, Hear. -/
import Derived.Test.YtcahfkfafdoilaaKgE
namespace Go.Proofs.Ytcahfkfafdoilaa
open Go Go.RowKit Go.Lib

/-- The reference's node in memory: itself, and how many told its value. -/
structure RNode (w : World) (g : Nat) (x : Kn) (s b : Nat) : Prop where
  ok : x.Ok
  lt : g < w.heap.size
  c0 : w.cell? ⟨g, 0, none⟩ = some (.int .i64 (x.n : Nat))
  c1 : w.cell? ⟨g, 1, none⟩ = some (.int .i64 (x.f : Nat))
  c2 : w.cell? ⟨g, 2, none⟩ = some (.int .i64 (s : Nat))
  c3 : w.cell? ⟨g, 3, none⟩ = some (.int .i64 (x.v : Nat))
  c4 : w.cell? ⟨g, 4, none⟩ = some (.int .i64 (x.r : Nat))
  c5 : w.cell? ⟨g, 5, none⟩ = some (.int .i64 (b : Nat))
  fz : ∀ o, w.frozen? ⟨g, o, none⟩ = false
  rel : x.r % 3 = 2 → x.m = firmB x.n x.f x.v b
  b10 : b ≤ 10
theorem RNode.block {w w' : World} {g s b : Nat} {x : Kn} (h : RNode w g x s b) (hz : w.heap.size ≤ w'.heap.size) (hb : w'.heap[g]? = w.heap[g]?) : RNode w' g x s b :=
  have e : ∀ o, w'.cell? ⟨g, o, none⟩ = w.cell? ⟨g, o, none⟩ := fun o => World.cell?_of_block (w := w) (a := ⟨g, o, none⟩) hb
  ⟨h.ok, Nat.lt_of_lt_of_le h.lt hz, (e _).trans h.c0, (e _).trans h.c1, (e _).trans h.c2, (e _).trans h.c3, (e _).trans h.c4, (e _).trans h.c5, fun o => (World.frozen?_of_block (w := w) (a := ⟨g, o, none⟩) hb).trans (h.fz o), h.rel, h.b10⟩
theorem RNode.call {w w' : World} {g s b : Nat} {x : Kn} (h : RNode w g x s b) (hb : Below w.heap.size w w') : RNode w' g x s b := h.block hb.size (hb.block g h.lt)
theorem RNode.drewN {w : World} {g s b n : Nat} {x : Kn} (h : RNode w g x s b) : RNode (w.drewN n) g x s b := ⟨h.ok, h.lt, h.c0, h.c1, h.c2, h.c3, h.c4, h.c5, h.fz, h.rel, h.b10⟩
theorem rtable_any (n f : Int) (w : World) : Calls Try.prog 19 #[.int .i64 n, .int .i64 f] w fun e w' => e = .returned (.bool (decide (1 ≤ n ∧ n ≤ 10 ∧ 0 ≤ f ∧ 3 * f < n))) ∧ w' = w := by
  obtain ⟨D, hD⟩ : ∃ D, D = decide (1 ≤ n ∧ n ≤ 10 ∧ 0 ≤ f ∧ 3 * f < n) := ⟨_, rfl⟩
  rw [← hD]
  have HD : Hid _ := hD
  clear hD
  by_cases h1 : 1 ≤ n
  · by_cases h2 : n ≤ 10
    · by_cases h3 : 0 ≤ f
      · by_cases h4 : f ≤ 3
        · by_cases h5 : 3 * f < n
          · have HE : Hid (D = true) := by rw [HD.out]; exact decide_eq_true ⟨h1, h2, h3, h5⟩
            go_enter Try.func19, Try.ntmps19
            go_wp2_with fail
            go_ret
            rw [HE.out]
            exact ⟨by first | rfl | simp, rfl⟩
          · have HE : Hid (D = false) := by rw [HD.out]; exact decide_eq_false fun c => h5 c.2.2.2
            go_enter Try.func19, Try.ntmps19
            go_wp2_with fail
            go_ret
            rw [HE.out]
            exact ⟨by first | rfl | simp, rfl⟩
        · have HE : Hid (D = false) := by rw [HD.out]; exact decide_eq_false fun c => h4 (by omega)
          go_enter Try.func19, Try.ntmps19
          go_wp2_with fail
          go_ret
          rw [HE.out]
          exact ⟨rfl, rfl⟩
      · have HE : Hid (D = false) := by rw [HD.out]; exact decide_eq_false fun c => h3 c.2.2.1
        go_enter Try.func19, Try.ntmps19
        go_wp2_with fail
        go_ret
        rw [HE.out]
        exact ⟨rfl, rfl⟩
    · have HE : Hid (D = false) := by rw [HD.out]; exact decide_eq_false fun c => h2 c.2.1
      go_enter Try.func19, Try.ntmps19
      go_wp2_with fail
      go_ret
      rw [HE.out]
      exact ⟨rfl, rfl⟩
  · have HE : Hid (D = false) := by rw [HD.out]; exact decide_eq_false fun c => h1 c.1
    go_enter Try.func19, Try.ntmps19
    go_wp2_with fail
    go_ret
    rw [HE.out]
    exact ⟨rfl, rfl⟩
theorem rnew_no (n f s v : Int) (h : ¬ NewOk n f s v) (w : World) : Calls Try.prog 9 #[.int .i64 n, .int .i64 f, .int .i64 s, .int .i64 v] w fun e w' => e = .returned (.tuple #[.pointer none, .int .i64 1]) ∧ w' = w := by
  by_cases h1 : 1 ≤ n ∧ n ≤ 10 ∧ 0 ≤ f ∧ 3 * f < n
  · have HD : Hid (decide (1 ≤ n ∧ n ≤ 10 ∧ 0 ≤ f ∧ 3 * f < n) = true) := decide_eq_true h1
    have h2 : s < 1 ∨ (1 ≤ s ∧ n < s) ∨ (1 ≤ s ∧ s ≤ n ∧ v < 0) ∨ (1 ≤ s ∧ s ≤ n ∧ 0 ≤ v ∧ 1 < v) := by unfold NewOk at h; omega
    clear h h1
    rcases h2 with h | ⟨h, h'⟩ | ⟨h, h', h''⟩ | ⟨h, ha, hb, hc⟩
    all_goals
      go_enter Try.func9, Try.ntmps9
      go_wp2_with fail
      refine (rtable_any _ _ _).mono ?_
      rintro e w1 ⟨rfl, rfl⟩
      rw [HD.out]
      go_wp2_with fail
      go_ret2
      exact ⟨rfl, rfl⟩
  · have HD : Hid (decide (1 ≤ n ∧ n ≤ 10 ∧ 0 ≤ f ∧ 3 * f < n) = false) := decide_eq_false h1
    clear h h1
    go_enter Try.func9, Try.ntmps9
    go_wp2_with fail
    refine (rtable_any _ _ _).mono ?_
    rintro e w1 ⟨rfl, rfl⟩
    rw [HD.out]
    go_wp2_with fail
    go_ret2
    exact ⟨rfl, rfl⟩
theorem rnode_new (n f s v : Nat) (h : (newK n f v).Ok) (w : World) : RNode (w.alloc (Obj.cells #[.int .i64 (n : Nat), .int .i64 (f : Nat), .int .i64 (s : Nat), .int .i64 (v : Nat), .int .i64 0, .int .i64 0] 38)) w.heap.size (newK n f v) s 0 :=
  have e : ∀ (c : Array Value) (t : TypeId) (o : Nat), (w.alloc (Obj.cells c t)).cell? ⟨w.heap.size, o, none⟩ = c[o]? := fun c t o => World.cell?_alloc_new _ _ _ _
  ⟨h, by simp, by rw [e]; rfl, by rw [e]; rfl, by rw [e]; rfl, by rw [e]; rfl, by rw [e]; rfl, by rw [e]; rfl, fun o => World.frozen?_alloc_new _ _ _ _, (fun h => by have h' : (0 : Nat) % 3 = 2 := h; omega), Nat.zero_le _⟩
theorem rnew_ok (n f s v : Nat) (h : NewOk n f s v) (w : World) : Calls Try.prog 9 #[.int .i64 (n : Nat), .int .i64 (f : Nat), .int .i64 (s : Nat), .int .i64 (v : Nat)] w fun e w' => e = .returned (.tuple #[.pointer (some ⟨w.heap.size, 0, none⟩), .int .i64 0]) ∧ RNode w' w.heap.size (newK n f v) s 0 ∧ Below w.heap.size w w' ∧ w'.heap.size = w.heap.size + 1 := by
  have HO : Hid ((newK n f v).Ok) := newK_ok (by unfold NewOk at h; omega) (by unfold NewOk at h; omega) (by unfold NewOk at h; omega) (by unfold NewOk at h; omega)
  have HD : Hid (decide (1 ≤ (n : Int) ∧ (n : Int) ≤ 10 ∧ 0 ≤ (f : Int) ∧ 3 * (f : Int) < (n : Int)) = true) := decide_eq_true h.1
  obtain ⟨-, h1, h2, h3, h4⟩ := h
  go_enter Try.func9, Try.ntmps9
  go_wp2_with fail
  refine (rtable_any _ _ _).mono ?_
  rintro e w1 ⟨rfl, rfl⟩
  rw [HD.out]
  go_wp2_with fail
  go_ret2
  exact ⟨rfl, rnode_new n f s v HO.out _, below_alloc0 (Below.refl _ _) _, by simp⟩
theorem rrounds_in (g : Nat) (x : Kn) (s b : Nat) (w : World) (h : RNode w g x s b) : Calls Try.prog 14 #[.pointer (some ⟨g, 0, none⟩)] w fun e w' => e = .returned (.int .i64 ((3 * (x.f + 1) : Nat) : Int)) ∧ w' = w := by
  have c1 := h.c1
  have hf : (x.f : Int) ≤ 10 := by have := h.ok.hf; have := h.ok.n10; omega
  clear h
  go_enter Try.func14, Try.ntmps14
  go_wp2_with fail
  go_ret
  exact ⟨by go_num, rfl⟩
theorem rsend_in (g : Nat) (x : Kn) (s b : Nat) (w : World) (h : RNode w g x s b) : Calls Try.prog 12 #[.pointer (some ⟨g, 0, none⟩)] w fun e w' => e = .returned (.int .i64 (sendV x : Nat)) ∧ Below w.heap.size w w' := by
  have H : Hid (RNode w g x s b) := h
  have c3 := h.c3
  have c4 := h.c4
  obtain ⟨R, hR⟩ : ∃ R, R = 3 * (x.f + 1) := ⟨_, rfl⟩
  have K1 : Hid (∀ w, RNode w g x s b → Calls Try.prog 14 #[.pointer (some ⟨g, 0, none⟩)] w fun e w' => e = .returned (.int .i64 (R : Nat)) ∧ w' = w) := by rw [hR]; exact rrounds_in g x s b
  by_cases hr : x.r < 3 * (x.f + 1)
  · have HV : Hid (sendV x = x.v) := if_pos hr
    have hne : ¬ ((x.r : Int) = (R : Int)) := by omega
    have hd : decide ((x.r : Int) = (R : Int)) = false := decide_eq_false hne
    have hd2 : ((x.r : Int) == (R : Int)) = false := by simpa using hne
    clear h hr hR
    go_enter Try.func12, Try.ntmps12
    go_wp2_with fail
    go_quiet ((go_at_call 14; exact Calls.quiet_of_same (K1.out _ (RNode.drewN H.out))))
    go_wp2_with fail
    go_ret
    rw [HV.out]
    exact ⟨rfl, below_drewN (Below.refl _ _) _⟩
  · have HV : Hid (sendV x = 2) := if_neg hr
    have hne : (x.r : Int) = (R : Int) := by have := h.ok.hr; omega
    have hd : decide ((x.r : Int) = (R : Int)) = true := decide_eq_true hne
    have hd2 : ((x.r : Int) == (R : Int)) = true := by simpa using hne
    have HN : Hid _ := hne
    clear h hr hR hne
    go_enter Try.func12, Try.ntmps12
    go_wp2_with fail
    go_quiet ((go_at_call 14; exact Calls.quiet_of_same (K1.out _ (RNode.drewN H.out))))
    go_wp2_with fail
    go_ret
    rw [HV.out]
    exact ⟨rfl, below_drewN (Below.refl _ _) _⟩
theorem rhear_state (g : Nat) (x : Kn) (s b : Nat) (v : Value) (w : World) (h : RNode w g x s b) (hr : ¬ x.r < 3 * (x.f + 1)) : Calls Try.prog 16 #[.pointer (some ⟨g, 0, none⟩), v] w fun e w' => e = .returned (.int .i64 7) ∧ Below w.heap.size w w' := by
  have H : Hid (RNode w g x s b) := h
  have c4 := h.c4
  obtain ⟨R, hR⟩ : ∃ R, R = 3 * (x.f + 1) := ⟨_, rfl⟩
  have K1 : Hid (∀ w, RNode w g x s b → Calls Try.prog 14 #[.pointer (some ⟨g, 0, none⟩)] w fun e w' => e = .returned (.int .i64 (R : Nat)) ∧ w' = w) := by rw [hR]; exact rrounds_in g x s b
  have hne : (x.r : Int) = (R : Int) := by have := h.ok.hr; omega
  have hd : decide ((x.r : Int) = (R : Int)) = true := decide_eq_true hne
  have hd2 : ((x.r : Int) == (R : Int)) = true := by simpa using hne
  have HN : Hid _ := hne
  clear h hr hR hne
  go_enter Try.func16, Try.ntmps16
  go_wp2_with fail
  go_quiet ((go_at_call 14; exact Calls.quiet_of_same (K1.out _ (RNode.drewN H.out))))
  go_wp2_with fail
  go_ret
  exact ⟨rfl, below_drewN (Below.refl _ _) _⟩
theorem rhear_arg (g : Nat) (x : Kn) (s b : Nat) (a : Option Addr) (n cap : Nat) (w : World) (h : RNode w g x s b) (hr : x.r < 3 * (x.f + 1)) (hn : n ≠ x.n) : Calls Try.prog 16 #[.pointer (some ⟨g, 0, none⟩), .slice a n cap] w fun e w' => e = .returned (.int .i64 1) ∧ Below w.heap.size w w' := by
  have H : Hid (RNode w g x s b) := h
  have c4 := h.c4
  have c0 := h.c0
  obtain ⟨R, hR⟩ : ∃ R, R = 3 * (x.f + 1) := ⟨_, rfl⟩
  have K1 : Hid (∀ w, RNode w g x s b → Calls Try.prog 14 #[.pointer (some ⟨g, 0, none⟩)] w fun e w' => e = .returned (.int .i64 (R : Nat)) ∧ w' = w) := by rw [hR]; exact rrounds_in g x s b
  have hne : ¬ ((x.r : Int) = (R : Int)) := by omega
  have hd : decide ((x.r : Int) = (R : Int)) = false := decide_eq_false hne
  have hd2 : ((x.r : Int) == (R : Int)) = false := by simpa using hne
  have hn' : ¬ ((n : Int) = (x.n : Int)) := by omega
  clear h hr hR hn
  go_enter Try.func16, Try.ntmps16
  go_wp2_with fail
  go_quiet ((go_at_call 14; exact Calls.quiet_of_same (K1.out _ (RNode.drewN H.out))))
  go_wp2_with fail
  go_ret
  exact ⟨rfl, below_drewN (Below.refl _ _) _⟩
theorem rcnt_take (l : List Int) {i : Nat} {t : Int} (k : Nat) (h : l[i]? = some t) : cnt (l.take (i + 1)) k = cnt (l.take i) k + if hw t = k then 1 else 0 := by rw [take_snoc h, cnt_snoc]
set_option maxHeartbeats 4000000 in
theorem rcount_any (a : Option Addr) (l : List Int) (n cap : Nat) (k : Nat) (hk : k ≤ 2) (hn : n = l.length) (hl : l.length ≤ 10) (w : World) (hI : IntsAt w a l) :
    Calls Try.prog 31 #[.slice a n cap, .int .i64 (k : Nat)] w fun e w' => e = .returned (.int .i64 (cnt l k : Nat)) ∧ w' = w := by
  have HN : Hid (n = l.length ∧ n ≤ 10) := ⟨hn, by omega⟩
  have n10 : (n : Int) ≤ 10 := by omega
  have HI : Hid (IntsAt w a l) := hI
  have hc : k = 0 ∨ k = 1 ∨ k = 2 := by omega
  clear hn hl hI hk
  rcases hc with rfl | rfl | rfl
  · go_enter Try.func31, Try.ntmps31
    go_wp2_with fail
    rename_i Kr hKr
    have HKr : Hid _ := hKr
    clear hKr
    go_loopw [5, 10] (fun cv iv wr => ∃ i : Nat, i ≤ n ∧ iv = .int .i64 (i : Nat) ∧ cv = .int .i64 (cnt (l.take i) 0 : Nat) ∧ w = wr) (fun _ iv _ => n - (Go.RowKit.intOf iv).toNat)
    case atStart => exact ⟨0, Nat.zero_le _, rfl, rfl, rfl⟩
    case round =>
      obtain ⟨i, hi, rfl, rfl, hwr⟩ := hrel
      subst hwr
      by_cases hlt : i < n
      · clear HKr
        have hil : i < l.length := by rw [← HN.out.1]; exact hlt
        have hlt' : (i : Int) < (n : Int) := by omega
        obtain ⟨p, o, ha, cp, pl⟩ := (show IntsAt w a l from HI.out).get hil
        subst ha
        obtain ⟨x, hx⟩ : ∃ x, x = (l[i]'hil) := ⟨_, rfl⟩
        rw [← hx] at cp
        have hx' : l[i]? = some x := by rw [hx]; exact List.getElem?_eq_getElem hil
        have b0 : ((cnt (l.take i) 0 : Nat) : Int) ≤ 10 := by have := cnt_take_le l i 0; have := HN.out.2; omega
        have HT : Hid _ := rcnt_take l 0 hx'
        generalize cnt (l.take i) 0 = c at *
        have HLT : Hid (i < n) := hlt
        clear hx hx' hil hi hlt pl
        have hc : x = 0 ∨ x = 1 ∨ x = 2 ∨ (¬ x = 0 ∧ ¬ x = 1 ∧ ¬ x = 2) := by omega
        rcases hc with rfl | rfl | rfl | ⟨x0, x1, x2⟩
        · go_wp2_with fail
          go_roundw
          case rel =>
            have e : cnt (l.take (i + 1)) 0 = c + 1 := by
              rw [HT.out]
              unfold hw
              simp
            first
            | exact ⟨i + 1, HLT.out, by go_num, by (rw [e]; try go_num), by first | rfl | trivial⟩
            | ((repeat apply Exists.intro); exact ⟨⟨i + 1, HLT.out, by go_num, by (rw [e]; try go_num), by first | rfl | trivial⟩, rfl⟩)
          case measure => have h1 := HLT.out; simp [Go.RowKit.intOf]; omega
        · go_wp2_with fail
          go_roundw
          case rel =>
            have e : cnt (l.take (i + 1)) 0 = c := by
              rw [HT.out]
              unfold hw
              simp
            first
            | exact ⟨i + 1, HLT.out, by go_num, by (rw [e]; try go_num), by first | rfl | trivial⟩
            | ((repeat apply Exists.intro); exact ⟨⟨i + 1, HLT.out, by go_num, by (rw [e]; try go_num), by first | rfl | trivial⟩, rfl⟩)
          case measure => have h1 := HLT.out; simp [Go.RowKit.intOf]; omega
        · go_wp2_with fail
          go_roundw
          case rel =>
            have e : cnt (l.take (i + 1)) 0 = c := by
              rw [HT.out]
              unfold hw
              simp
            first
            | exact ⟨i + 1, HLT.out, by go_num, by (rw [e]; try go_num), by first | rfl | trivial⟩
            | ((repeat apply Exists.intro); exact ⟨⟨i + 1, HLT.out, by go_num, by (rw [e]; try go_num), by first | rfl | trivial⟩, rfl⟩)
          case measure => have h1 := HLT.out; simp [Go.RowKit.intOf]; omega
        · have y2 : (x == 2) = false := by simpa using x2
          have y0 : (x != 0) = true := by simpa using x0
          have y1 : (x != 1) = true := by simpa using x1
          go_wp2_with fail
          go_roundw
          case rel =>
            have e : cnt (l.take (i + 1)) 0 = c := by
              rw [HT.out]
              unfold hw
              simp [x0, x1]
            first
            | exact ⟨i + 1, HLT.out, by go_num, by (rw [e]; try go_num), by first | rfl | trivial⟩
            | ((repeat apply Exists.intro); exact ⟨⟨i + 1, HLT.out, by go_num, by (rw [e]; try go_num), by first | rfl | trivial⟩, rfl⟩)
          case measure => have h1 := HLT.out; simp [Go.RowKit.intOf]; omega
      · obtain rfl : i = n := by omega
        have hnl : ¬ ((i : Int) < (i : Int)) := Int.lt_irrefl _
        have ht : l.take i = l := List.take_of_length_le (by rw [← HN.out.1]; exact Nat.le_refl _)
        rw [ht]
        clear hlt hi ht
        go_wp2_with fail
        refine HKr.out _ _ ?_
        clear HKr
        go_wp2_with fail
        go_ret
        exact ⟨rfl, rfl⟩
  · go_enter Try.func31, Try.ntmps31
    go_wp2_with fail
    rename_i Kr hKr
    have HKr : Hid _ := hKr
    clear hKr
    go_loopw [5, 10] (fun cv iv wr => ∃ i : Nat, i ≤ n ∧ iv = .int .i64 (i : Nat) ∧ cv = .int .i64 (cnt (l.take i) 1 : Nat) ∧ w = wr) (fun _ iv _ => n - (Go.RowKit.intOf iv).toNat)
    case atStart => exact ⟨0, Nat.zero_le _, rfl, rfl, rfl⟩
    case round =>
      obtain ⟨i, hi, rfl, rfl, hwr⟩ := hrel
      subst hwr
      by_cases hlt : i < n
      · clear HKr
        have hil : i < l.length := by rw [← HN.out.1]; exact hlt
        have hlt' : (i : Int) < (n : Int) := by omega
        obtain ⟨p, o, ha, cp, pl⟩ := (show IntsAt w a l from HI.out).get hil
        subst ha
        obtain ⟨x, hx⟩ : ∃ x, x = (l[i]'hil) := ⟨_, rfl⟩
        rw [← hx] at cp
        have hx' : l[i]? = some x := by rw [hx]; exact List.getElem?_eq_getElem hil
        have b0 : ((cnt (l.take i) 1 : Nat) : Int) ≤ 10 := by have := cnt_take_le l i 1; have := HN.out.2; omega
        have HT : Hid _ := rcnt_take l 1 hx'
        generalize cnt (l.take i) 1 = c at *
        have HLT : Hid (i < n) := hlt
        clear hx hx' hil hi hlt pl
        have hc : x = 0 ∨ x = 1 ∨ x = 2 ∨ (¬ x = 0 ∧ ¬ x = 1 ∧ ¬ x = 2) := by omega
        rcases hc with rfl | rfl | rfl | ⟨x0, x1, x2⟩
        · go_wp2_with fail
          go_roundw
          case rel =>
            have e : cnt (l.take (i + 1)) 1 = c := by
              rw [HT.out]
              unfold hw
              simp
            first
            | exact ⟨i + 1, HLT.out, by go_num, by (rw [e]; try go_num), by first | rfl | trivial⟩
            | ((repeat apply Exists.intro); exact ⟨⟨i + 1, HLT.out, by go_num, by (rw [e]; try go_num), by first | rfl | trivial⟩, rfl⟩)
          case measure => have h1 := HLT.out; simp [Go.RowKit.intOf]; omega
        · go_wp2_with fail
          go_roundw
          case rel =>
            have e : cnt (l.take (i + 1)) 1 = c + 1 := by
              rw [HT.out]
              unfold hw
              simp
            first
            | exact ⟨i + 1, HLT.out, by go_num, by (rw [e]; try go_num), by first | rfl | trivial⟩
            | ((repeat apply Exists.intro); exact ⟨⟨i + 1, HLT.out, by go_num, by (rw [e]; try go_num), by first | rfl | trivial⟩, rfl⟩)
          case measure => have h1 := HLT.out; simp [Go.RowKit.intOf]; omega
        · go_wp2_with fail
          go_roundw
          case rel =>
            have e : cnt (l.take (i + 1)) 1 = c := by
              rw [HT.out]
              unfold hw
              simp
            first
            | exact ⟨i + 1, HLT.out, by go_num, by (rw [e]; try go_num), by first | rfl | trivial⟩
            | ((repeat apply Exists.intro); exact ⟨⟨i + 1, HLT.out, by go_num, by (rw [e]; try go_num), by first | rfl | trivial⟩, rfl⟩)
          case measure => have h1 := HLT.out; simp [Go.RowKit.intOf]; omega
        · have y2 : (x == 2) = false := by simpa using x2
          have y0 : (x != 0) = true := by simpa using x0
          have y1 : (x != 1) = true := by simpa using x1
          go_wp2_with fail
          go_roundw
          case rel =>
            have e : cnt (l.take (i + 1)) 1 = c := by
              rw [HT.out]
              unfold hw
              simp [x0, x1]
            first
            | exact ⟨i + 1, HLT.out, by go_num, by (rw [e]; try go_num), by first | rfl | trivial⟩
            | ((repeat apply Exists.intro); exact ⟨⟨i + 1, HLT.out, by go_num, by (rw [e]; try go_num), by first | rfl | trivial⟩, rfl⟩)
          case measure => have h1 := HLT.out; simp [Go.RowKit.intOf]; omega
      · obtain rfl : i = n := by omega
        have hnl : ¬ ((i : Int) < (i : Int)) := Int.lt_irrefl _
        have ht : l.take i = l := List.take_of_length_le (by rw [← HN.out.1]; exact Nat.le_refl _)
        rw [ht]
        clear hlt hi ht
        go_wp2_with fail
        refine HKr.out _ _ ?_
        clear HKr
        go_wp2_with fail
        go_ret
        exact ⟨rfl, rfl⟩
  · go_enter Try.func31, Try.ntmps31
    go_wp2_with fail
    rename_i Kr hKr
    have HKr : Hid _ := hKr
    clear hKr
    go_loopw [5, 10] (fun cv iv wr => ∃ i : Nat, i ≤ n ∧ iv = .int .i64 (i : Nat) ∧ cv = .int .i64 (cnt (l.take i) 2 : Nat) ∧ w = wr) (fun _ iv _ => n - (Go.RowKit.intOf iv).toNat)
    case atStart => exact ⟨0, Nat.zero_le _, rfl, rfl, rfl⟩
    case round =>
      obtain ⟨i, hi, rfl, rfl, hwr⟩ := hrel
      subst hwr
      by_cases hlt : i < n
      · clear HKr
        have hil : i < l.length := by rw [← HN.out.1]; exact hlt
        have hlt' : (i : Int) < (n : Int) := by omega
        obtain ⟨p, o, ha, cp, pl⟩ := (show IntsAt w a l from HI.out).get hil
        subst ha
        obtain ⟨x, hx⟩ : ∃ x, x = (l[i]'hil) := ⟨_, rfl⟩
        rw [← hx] at cp
        have hx' : l[i]? = some x := by rw [hx]; exact List.getElem?_eq_getElem hil
        have b0 : ((cnt (l.take i) 2 : Nat) : Int) ≤ 10 := by have := cnt_take_le l i 2; have := HN.out.2; omega
        have HT : Hid _ := rcnt_take l 2 hx'
        generalize cnt (l.take i) 2 = c at *
        have HLT : Hid (i < n) := hlt
        clear hx hx' hil hi hlt pl
        have hc : x = 0 ∨ x = 1 ∨ x = 2 ∨ (¬ x = 0 ∧ ¬ x = 1 ∧ ¬ x = 2) := by omega
        rcases hc with rfl | rfl | rfl | ⟨x0, x1, x2⟩
        · go_wp2_with fail
          go_roundw
          case rel =>
            have e : cnt (l.take (i + 1)) 2 = c := by
              rw [HT.out]
              unfold hw
              simp
            first
            | exact ⟨i + 1, HLT.out, by go_num, by (rw [e]; try go_num), by first | rfl | trivial⟩
            | ((repeat apply Exists.intro); exact ⟨⟨i + 1, HLT.out, by go_num, by (rw [e]; try go_num), by first | rfl | trivial⟩, rfl⟩)
          case measure => have h1 := HLT.out; simp [Go.RowKit.intOf]; omega
        · go_wp2_with fail
          go_roundw
          case rel =>
            have e : cnt (l.take (i + 1)) 2 = c := by
              rw [HT.out]
              unfold hw
              simp
            first
            | exact ⟨i + 1, HLT.out, by go_num, by (rw [e]; try go_num), by first | rfl | trivial⟩
            | ((repeat apply Exists.intro); exact ⟨⟨i + 1, HLT.out, by go_num, by (rw [e]; try go_num), by first | rfl | trivial⟩, rfl⟩)
          case measure => have h1 := HLT.out; simp [Go.RowKit.intOf]; omega
        · go_wp2_with fail
          go_roundw
          case rel =>
            have e : cnt (l.take (i + 1)) 2 = c + 1 := by
              rw [HT.out]
              unfold hw
              simp
            first
            | exact ⟨i + 1, HLT.out, by go_num, by (rw [e]; try go_num), by first | rfl | trivial⟩
            | ((repeat apply Exists.intro); exact ⟨⟨i + 1, HLT.out, by go_num, by (rw [e]; try go_num), by first | rfl | trivial⟩, rfl⟩)
          case measure => have h1 := HLT.out; simp [Go.RowKit.intOf]; omega
        · have y2 : (x == 2) = false := by simpa using x2
          have y0 : (x != 0) = true := by simpa using x0
          have y1 : (x != 1) = true := by simpa using x1
          go_wp2_with fail
          go_roundw
          case rel =>
            have e : cnt (l.take (i + 1)) 2 = c + 1 := by
              rw [HT.out]
              unfold hw
              simp [x0, x1]
            first
            | exact ⟨i + 1, HLT.out, by go_num, by (rw [e]; try go_num), by first | rfl | trivial⟩
            | ((repeat apply Exists.intro); exact ⟨⟨i + 1, HLT.out, by go_num, by (rw [e]; try go_num), by first | rfl | trivial⟩, rfl⟩)
          case measure => have h1 := HLT.out; simp [Go.RowKit.intOf]; omega
      · obtain rfl : i = n := by omega
        have hnl : ¬ ((i : Int) < (i : Int)) := Int.lt_irrefl _
        have ht : l.take i = l := List.take_of_length_le (by rw [← HN.out.1]; exact Nat.le_refl _)
        rw [ht]
        clear hlt hi ht
        go_wp2_with fail
        refine HKr.out _ _ ?_
        clear HKr
        go_wp2_with fail
        go_ret
        exact ⟨rfl, rfl⟩
end Go.Proofs.Ytcahfkfafdoilaa
