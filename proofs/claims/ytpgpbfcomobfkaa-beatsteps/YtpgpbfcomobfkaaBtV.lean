/- The law BeatSteps. -/
import Derived.Test.YtpgpbfcomobfkaaBtU
import Derived.Test.YtpgpbfcomobfkaaHeldR
import Derived.Deep.CutBlock
namespace Go.Proofs.Ytpgpbfcomobfkaa
open Go Go.RowKit Go.Lib

/-- Both watches, alike. -/
structure Two14 (w wr : World) (g r q cap : Nat) (x : Wt) (n s : Nat) : Prop where
  a : WatchAt wr g x
  b : RWatch wr r q cap x
  f : Below g w wr
  n : x.n = n
  s : x.self = s
  gr : g < r
  rq : r < q
theorem Two14.call {w wr w' : World} {g r q cap n s : Nat} {x : Wt} (h : Two14 w wr g r q cap x n s) (hb : Below wr.heap.size wr w') : Two14 w w' g r q cap x n s :=
  ⟨h.a.call hb, h.b.call hb, h.f.trans (hb.mono (Nat.le_of_lt h.a.lt)), h.n, h.s, h.gr, h.rq⟩
theorem Two14.drewN {w wr : World} {g r q cap n s k : Nat} {x : Wt} (h : Two14 w wr g r q cap x n s) : Two14 w (wr.drewN k) g r q cap x n s := h.call (below_drewN (Below.refl _ _) _)
theorem Two14.step {w wr w1 w2 : World} {g r q cap n s : Nat} {x y : Wt} (h : Two14 w wr g r q cap x n s) (h1 : WatchAt w1 g y) (b1 : But g (From wr.heap.size) wr w1) (h2 : RWatch w2 r q cap y) (b2 : But2 r q (From w1.heap.size) w1 w2) (hn : y.n = n) (hs : y.self = s) : Two14 w w2 g r q cap y n s :=
  ⟨h1.but2 b2 (by have := h.gr; omega) (by have := h.gr; have := h.rq; omega), h2, below_but2 (below_but h.f (Nat.le_refl _) (Nat.le_of_lt h.a.lt) b1) (Nat.le_of_lt h.gr) (by have := h.gr; have := h.rq; omega) (Nat.le_trans (Nat.le_of_lt h.a.lt) b1.size) b2, hn, hs, h.gr, h.rq⟩
theorem Two14.refB {w wr w1 : World} {g r q cap n s : Nat} {x : Wt} (h : Two14 w wr g r q cap x n s) (b1 : But g (From wr.heap.size) wr w1) : RWatch w1 r q cap x :=
  h.b.but b1 (by have := h.gr; omega) (by have := h.gr; have := h.rq; omega)
/-- A cell of a block of the law's own, behind both steps. -/
theorem step_cell {wr w1 w2 : World} {g r q b o : Nat} {v : Value} (h : wr.cell? ⟨b, o, none⟩ = some v) (hb : b < wr.heap.size) (b1 : But g (From wr.heap.size) wr w1) (b2 : But2 r q (From w1.heap.size) w1 w2) (hg : b ≠ g) (hr : b ≠ r) (hq : b ≠ q) : w2.cell? ⟨b, o, none⟩ = some v := by
  have e1 : w1.cell? ⟨b, o, none⟩ = wr.cell? ⟨b, o, none⟩ := b1.cell (p := ⟨b, o, none⟩) (not_from hb) hg
  have e2 : w2.cell? ⟨b, o, none⟩ = w1.cell? ⟨b, o, none⟩ := World.cell?_of_block (w := w1) (a := ⟨b, o, none⟩) (b2.block b (not_from (Nat.lt_of_lt_of_le hb b1.size)) hr hq)
  exact (e2.trans e1).trans h
theorem IntsFrom.but2 {w w' : World} {B r q : Nat} {a : Option Addr} {l : List Int} (h : IntsFrom w B a l) (hr : r < B) (hq : q < B) (hb : But2 r q (From w.heap.size) w w') : IntsFrom w' B a l := fun j s hj => by
  obtain ⟨p, o, h1, h2, h3, h4⟩ := h j s hj
  exact ⟨p, o, h1, (World.cell?_of_block (w := w) (a := ⟨p, o + j, none⟩) (hb.block p (not_from h4) (by omega) (by omega))).trans h2, h3, Nat.lt_of_lt_of_le h4 hb.size⟩
set_option maxRecDepth 100000 in
theorem beatSteps_bad (n s : Int) (a : Option Addr) (len cap : Nat) (h : ¬ ((1 ≤ n ∧ n ≤ 10) ∧ 1 ≤ s ∧ s ≤ n)) (w : World) : Calls Try.prog 3 #[.int .i64 n, .int .i64 s, .slice a len cap] w fun e w' => e = .returned (.bool true) ∧ Below w.heap.size w w' := by
  have K1 : Hid (∀ w', Calls Try.prog 9 #[.int .i64 n, .int .i64 s, .int .i64 3] w' fun e w'' => e = .returned (.tuple #[.pointer none, .int .i64 1]) ∧ w'' = w') :=
    fun w' => new_no n s 3 (fun c => h ⟨c.1, c.2.1⟩) w'
  have K2 : Hid (∀ w', Calls Try.prog 10 #[.int .i64 n, .int .i64 s, .int .i64 3] w' fun e w'' => e = .returned (.tuple #[.pointer none, .int .i64 1]) ∧ w'' = w') :=
    fun w' => rnew_no n s 3 (fun c => h ⟨c.1, c.2.1⟩) w'
  clear h
  go_enter Try.func3, Try.ntmps3
  go_wp2_with fail
  refine (K1.out _).mono ?_
  rintro e w1 ⟨rfl, rfl⟩
  go_wp2_with fail
  refine (K2.out _).mono ?_
  rintro e w1 ⟨rfl, rfl⟩
  go_wp2_with fail
  refine (five_any _).mono ?_
  rintro e w2 ⟨rfl, hb⟩
  have HB : Hid _ := hb
  clear hb
  go_wp2_with fail
  go_ret
  exact ⟨rfl, HB.out⟩
set_option maxRecDepth 100000 in
set_option maxHeartbeats 8000000 in
theorem beatSteps_ok (n s : Nat) (a : Option Addr) (len cap0 : Nat) (n1 : 1 ≤ n) (n10 : n ≤ 10) (s1 : 1 ≤ s) (sn : s ≤ n) (w : World) (hS : StepsIn w a len) : Calls Try.prog 3 #[.int .i64 (n : Nat), .int .i64 (s : Nat), .slice a len cap0] w fun e w' => e = .returned (.bool true) ∧ Below w.heap.size w w' := by
  have HS : Hid (StepsIn w a len ∧ n ≤ 10 ∧ 1 ≤ s ∧ s ≤ n) := ⟨hS, n10, s1, sn⟩
  have K1 : Hid (∀ w', Calls Try.prog 9 #[.int .i64 (n : Nat), .int .i64 (s : Nat), .int .i64 3] w' fun e w'' => e = .returned (.tuple #[.pointer (some ⟨w'.heap.size, 0, none⟩), .int .i64 0]) ∧ WatchAt w'' w'.heap.size (newW n s 3) ∧ Below w'.heap.size w' w'') :=
    fun w' => new_ok n s 3 n1 n10 s1 sn (by decide) w'
  have K2 : Hid (∀ w', Calls Try.prog 10 #[.int .i64 (n : Nat), .int .i64 (s : Nat), .int .i64 3] w' fun e w'' => ∃ q cap, e = .returned (.tuple #[.pointer (some ⟨w'.heap.size, 0, none⟩), .int .i64 0]) ∧ RWatch w'' w'.heap.size q cap (newW n s 3) ∧ w'.heap.size < q ∧ Below w'.heap.size w' w'') :=
    fun w' => rnew_ok n s 3 n1 n10 s1 sn (by decide) w'
  clear hS n1 n10 s1 sn
  go_enter Try.func3, Try.ntmps3
  go_wp2_with fail
  refine (K1.out _).mono ?_
  rintro e w1 ⟨rfl, hW1, hb1⟩
  obtain ⟨g, hg⟩ : ∃ g, g = w.heap.size := ⟨_, rfl⟩
  have HG : Hid (g = w.heap.size) := hg
  have H1 : Hid (WatchAt w1 g (newW n s 3) ∧ Below g w w1) := ⟨by rw [hg]; exact hW1, by rw [hg]; exact hb1⟩
  rw [← hg]
  clear hW1 hb1 hg K1
  go_wp2_with fail
  refine (K2.out _).mono ?_
  rintro e w2 ⟨q, cap, rfl, hR2, hq, hb2⟩
  obtain ⟨r, hr⟩ : ∃ r, r = w1.heap.size := ⟨_, rfl⟩
  have H2 : Hid (Two14 w w2 g r q cap (newW n s 3) n s) := by
    rw [hr]
    exact ⟨H1.out.1.call hb2, hR2, H1.out.2.trans (hb2.mono (Nat.le_of_lt H1.out.1.lt)), rfl, rfl, H1.out.1.lt, hq⟩
  rw [← hr]
  clear hR2 hb2 hr hq K2 H1
  rcases Nat.lt_or_ge 400 len with hl | hl
  · have h1 : (400 : Int) < (len : Nat) := by omega
    clear hl
    go_wp2_with fail
    refine (five_any _).mono ?_
    rintro e w3 ⟨rfl, hb⟩
    have HB : Hid _ := hb
    clear hb
    go_wp2_with fail
    go_ret
    refine ⟨rfl, ?_⟩
    have h := H2.out.f
    rw [HG.out] at h
    exact below_call0 h HB.out
  have h1 : ((len : Nat) : Int) ≤ 400 := by omega
  clear hl
  go_wp2_with fail
  rename_i Kr hKr
  have HKr : Hid _ := hKr
  clear hKr
  go_loopw [57] (fun iv wr => ∃ (i : Nat) (x : Wt), i ≤ len ∧ iv = .int .i64 (i : Nat) ∧ Two14 w wr g r q cap x n s) (fun iv _ => len - (Go.RowKit.intOf iv).toNat)
  case atStart => exact ⟨0, newW n s 3, Nat.zero_le _, rfl, H2.out⟩
  case round =>
    obtain ⟨i, x, hi, rfl, hV⟩ := hrel
    rename World => wr
    have HV : Hid (Two14 w wr g r q cap x n s) := hV
    clear H2
    by_cases hlt : i < len
    · clear HKr
      have hlt' : (i : Int) < (len : Nat) := by omega
      obtain ⟨p, o, X, N, M, ha, c0, c1, c2, pl⟩ := HS.out.1 i hlt
      subst ha
      have e0 : wr.cell? ⟨p, o + i * 3, none⟩ = some (.int .i64 X) := (hV.f.cell (p := ⟨p, _, none⟩) (by rw [HG.out]; exact pl)).trans c0
      have e1 : wr.cell? ⟨p, o + i * 3 + 1, none⟩ = some (.int .i64 N) := (hV.f.cell (p := ⟨p, _, none⟩) (by rw [HG.out]; exact pl)).trans c1
      have e2 : wr.cell? ⟨p, o + i * 3 + 2, none⟩ = some (.int .i64 M) := (hV.f.cell (p := ⟨p, _, none⟩) (by rw [HG.out]; exact pl)).trans c2
      have HL : Hid (i < len) := hlt
      obtain ⟨wx, hwx⟩ : ∃ y, y = wr.alloc (.cells #[.int .i64 X, .int .i64 N, .int .i64 M] 32) := ⟨_, rfl⟩
      obtain ⟨xb, hxb⟩ : ∃ y, y = wr.heap.size := ⟨_, rfl⟩
      have HX : Hid (Two14 w wx g r q cap x n s ∧ wx.cell? ⟨xb, 0, none⟩ = some (.int .i64 X) ∧ wx.cell? ⟨xb, 1, none⟩ = some (.int .i64 N) ∧ wx.cell? ⟨xb, 2, none⟩ = some (.int .i64 M) ∧ xb < wx.heap.size ∧ xb ≠ g ∧ xb ≠ r ∧ xb ≠ q) := by
        rw [hwx, hxb]
        exact ⟨hV.call (below_alloc0 (Below.refl _ _) _), by simp [go_sem], by simp [go_sem], by simp [go_sem], by simp, Nat.ne_of_gt hV.a.lt, Nat.ne_of_gt hV.b.rl, Nat.ne_of_gt hV.b.ql⟩
      have HXW : Hid (wx = wr.alloc (.cells #[.int .i64 X, .int .i64 N, .int .i64 M] 32) ∧ xb = wr.heap.size) := ⟨hwx, hxb⟩
      clear hwx hxb c0 c1 c2 pl hi hV hlt HV
      obtain ⟨T, hT⟩ : ∃ T, T = x.now := ⟨_, rfl⟩
      have HT : Hid (T = x.now ∧ T ≤ 1099511627776) := ⟨hT, by rw [hT]; exact HX.out.1.a.ok.now⟩
      have cT : wx.cell? ⟨r, 2, none⟩ = some (.int .i64 (T : Nat)) := by rw [hT]; exact HX.out.1.b.c2
      clear hT
      go_upto_region 11 with fail
      rw [← HXW.out.1, ← HXW.out.2]
      have x2 := HX.out.2.2.2.1
      clear e0 e1 e2
      obtain ⟨B, hB⟩ : ∃ B, B = decide (0 ≤ M ∧ M < 1000) := ⟨_, rfl⟩
      have HBB : Hid (B = decide (0 ≤ M ∧ M < 1000)) := hB
      clear hB
      go_cut [70] from 58 to 195 (fun s70 wz => s70 = .bool B ∧ wz = wx)
      case first =>
        have q0 : (0 ≤ M ∧ M < 1000) ∨ M < 0 ∨ (0 ≤ M ∧ 1000 ≤ M) := by omega
        rcases q0 with ⟨q0, q1⟩ | q0 | ⟨q0, q1⟩
        · have HE : Hid (B = true) := HBB.out.trans (decide_eq_true ⟨q0, q1⟩)
          go_wp2_with fail
          go_meet
          exact ⟨by rw [HE.out], rfl⟩
        · have HE : Hid (B = false) := HBB.out.trans (decide_eq_false (by omega))
          go_wp2_with fail
          go_meet
          exact ⟨by rw [HE.out], rfl⟩
        · have HE : Hid (B = false) := HBB.out.trans (decide_eq_false (by omega))
          go_wp2_with fail
          go_meet
          exact ⟨by rw [HE.out]; first | rfl | (rw [decide_eq_false (by omega)]), rfl⟩
      obtain ⟨rfl, rfl⟩ := hcut
      go_upto_if 70 with fail
      go_cut [13] from 58 to 195 (fun s13 wy => ∃ Z : Int, s13 = .int .i64 Z ∧ Two14 w wy g r q cap x n s ∧ wy.cell? ⟨xb, 0, none⟩ = some (.int .i64 X) ∧ wy.cell? ⟨xb, 1, none⟩ = some (.int .i64 N) ∧ xb < wy.heap.size ∧ xb ≠ g ∧ xb ≠ r ∧ xb ≠ q)
      case first =>
        cases B with
        | true =>
          have hM : 0 ≤ M ∧ M < 1000 := of_decide_eq_true HBB.out.symm
          obtain ⟨m, rfl⟩ : ∃ m : Nat, M = (m : Nat) := ⟨M.toNat, by omega⟩
          have m1 : ((m : Nat) : Int) < 1000 := hM.2
          have m0 : (0 : Int) ≤ (m : Nat) := hM.1
          obtain ⟨z0, hz0⟩ : ∃ z, z = T + m := ⟨_, rfl⟩
          have z1 : (T : Int) + (m : Int) = (z0 : Nat) := by omega
          have z2 : IntKind.i64.wrap ((z0 : Nat) : Int) = (z0 : Nat) := IntWalk.i64_in _ (by have := HT.out.2; omega)
          clear hM hz0
          go_wp2_with fail
          go_quiet (fail)
          rename_i nq
          go_wp2_with fail
          go_meet
          exact ⟨_, rfl, HX.out.1.drewN, HX.out.2.1, HX.out.2.2.1, HX.out.2.2.2.2⟩
        | false =>
          go_wp2_with fail
          go_meet
          exact ⟨_, rfl, HX.out.1, HX.out.2.1, HX.out.2.2.1, HX.out.2.2.2.2⟩
      case rest =>
        obtain ⟨Z, rfl, hY⟩ := hcut
        rename World => wy
        have HY : Hid (Two14 w wy g r q cap x n s ∧ wy.cell? ⟨xb, 0, none⟩ = some (.int .i64 X) ∧ wy.cell? ⟨xb, 1, none⟩ = some (.int .i64 N) ∧ xb < wy.heap.size ∧ xb ≠ g ∧ xb ≠ r ∧ xb ≠ q) := hY
        clear hY HX HXW x2 cT
        have x0 := HY.out.2.1
        go_upto_block 2 with fail
        clear x0
        have x0 := HY.out.2.1
        go_cut [14, 15, 16, 17, 18, 19, 20, 21] from 58 to 195 (fun _s14 _s15 _s16 _s17 _s18 _s19 _s20 _s21 wc => ∃ y, Two14 w wc g r q cap y n s ∧ wc.cell? ⟨xb, 1, none⟩ = some (.int .i64 N) ∧ xb < wc.heap.size)
        case first =>
          clear x0
          by_cases e0 : X = 0
          · subst e0
            by_cases hc : (1 ≤ N ∧ N ≤ (n : Nat)) ∧ (T : Nat) ≤ Z ∧ Z ≤ 1099511627776
            · as_aux_lemma =>
                have x1 := HY.out.2.2.1
                obtain ⟨k, hk⟩ : ∃ k : Nat, N = (k : Nat) := ⟨N.toNat, by omega⟩
                obtain ⟨z, hz⟩ : ∃ z : Nat, Z = (z : Nat) := ⟨Z.toNat, by omega⟩
                obtain ⟨S1, hS1⟩ : ∃ S1, S1 = x.s k := ⟨_, rfl⟩
                obtain ⟨y, hy⟩ : ∃ y, y = heardW x k z := ⟨_, rfl⟩
                have Ka : Hid (∀ w', WatchAt w' g x → Calls Try.prog 12 #[.pointer (some ⟨g, 0, none⟩), .int .i64 N, .int .i64 Z] w' fun e w'' => e = .returned (.tuple #[.bool S1, .int .i64 0]) ∧ WatchAt w'' g y ∧ But g (From w'.heap.size) w' w'') :=
                  fun w' h => by rw [hk, hz, hS1, hy]; exact heard_ok g x k z (by omega) (by have := HY.out.1.n; omega) (by have := HT.out.1; omega) (by omega) w' h
                have Kb : Hid (∀ w', RWatch w' r q cap x → Calls Try.prog 13 #[.pointer (some ⟨r, 0, none⟩), .int .i64 N, .int .i64 Z] w' fun e w'' => e = .returned (.tuple #[.bool S1, .int .i64 0]) ∧ RWatch w'' r q cap y ∧ But2 r q (From w'.heap.size) w' w'') :=
                  fun w' h => by rw [hk, hz, hS1, hy]; exact rheard_ok r q cap x k z (by omega) (by have := HY.out.1.n; omega) (by have := HT.out.1; omega) (by omega) w' h
                have HE : Hid (y.n = n ∧ y.self = s) := by rw [hy]; exact ⟨HY.out.1.n, HY.out.1.s⟩
                clear hc hk hz hS1 hy
                go_wp2_with fail
                refine (Ka.out _ HY.out.1.a).mono ?_
                rintro e w4 ⟨rfl, hW4, hb4⟩
                have H4 : Hid (WatchAt w4 g y ∧ But g (From wy.heap.size) wy w4) := ⟨hW4, hb4⟩
                clear x1
                have x1 : w4.cell? ⟨xb, 1, none⟩ = some (.int .i64 N) := (hb4.cell (p := ⟨xb, 1, none⟩) (not_from HY.out.2.2.2.1) HY.out.2.2.2.2.1).trans HY.out.2.2.1
                clear hW4 hb4
                go_wp2_with fail
                refine (Kb.out _ (HY.out.1.refB H4.out.2)).mono ?_
                rintro e w5 ⟨rfl, hW5, hb5⟩
                have H5 : Hid (Two14 w w5 g r q cap y n s ∧ w5.cell? ⟨xb, 1, none⟩ = some (.int .i64 N) ∧ xb < w5.heap.size) := ⟨HY.out.1.step H4.out.1 H4.out.2 hW5 hb5 HE.out.1 HE.out.2, step_cell HY.out.2.2.1 HY.out.2.2.2.1 H4.out.2 hb5 HY.out.2.2.2.2.1 HY.out.2.2.2.2.2.1 HY.out.2.2.2.2.2.2, Nat.lt_of_lt_of_le HY.out.2.2.2.1 (Nat.le_trans H4.out.2.size hb5.size)⟩
                clear hW5 hb5 H4 x1
                go_wp2_with fail
                go_meet
                exact ⟨y, H5.out⟩
            · as_aux_lemma =>
                have Ka : Hid (∀ w', WatchAt w' g x → Calls Try.prog 12 #[.pointer (some ⟨g, 0, none⟩), .int .i64 N, .int .i64 Z] w' fun e w'' => e = .returned (.tuple #[.bool false, .int .i64 1]) ∧ w'' = w') :=
                  fun w' h => heard_no g x N Z (by rw [HY.out.1.n, ← HT.out.1]; exact hc) w' h
                have Kb : Hid (∀ w', RWatch w' r q cap x → Calls Try.prog 13 #[.pointer (some ⟨r, 0, none⟩), .int .i64 N, .int .i64 Z] w' fun e w'' => e = .returned (.tuple #[.bool false, .int .i64 1]) ∧ w'' = w') :=
                  fun w' h => rheard_no r q cap x N Z (by rw [HY.out.1.n, ← HT.out.1]; exact hc) w' h
                clear hc
                have x1 := HY.out.2.2.1
                go_wp2_with fail
                refine (Ka.out _ HY.out.1.a).mono ?_
                rintro e w4 ⟨rfl, rfl⟩
                go_wp2_with fail
                refine (Kb.out _ HY.out.1.b).mono ?_
                rintro e w4 ⟨rfl, rfl⟩
                clear x1
                go_wp2_with fail
                go_meet
                exact ⟨x, HY.out.1, HY.out.2.2.1, HY.out.2.2.2.1⟩
          by_cases e1 : X = 1
          · subst e1
            by_cases hc : (1 ≤ N ∧ N ≤ (n : Nat)) ∧ (T : Nat) ≤ Z ∧ Z ≤ 1099511627776
            · as_aux_lemma =>
                have x1 := HY.out.2.2.1
                obtain ⟨k, hk⟩ : ∃ k : Nat, N = (k : Nat) := ⟨N.toNat, by omega⟩
                obtain ⟨z, hz⟩ : ∃ z : Nat, Z = (z : Nat) := ⟨Z.toNat, by omega⟩
                obtain ⟨S1, hS1⟩ : ∃ S1, S1 = x.s k := ⟨_, rfl⟩
                obtain ⟨y, hy⟩ : ∃ y, y = heardW x k z := ⟨_, rfl⟩
                have Ka : Hid (∀ w', WatchAt w' g x → Calls Try.prog 12 #[.pointer (some ⟨g, 0, none⟩), .int .i64 N, .int .i64 Z] w' fun e w'' => e = .returned (.tuple #[.bool S1, .int .i64 0]) ∧ WatchAt w'' g y ∧ But g (From w'.heap.size) w' w'') :=
                  fun w' h => by rw [hk, hz, hS1, hy]; exact heard_ok g x k z (by omega) (by have := HY.out.1.n; omega) (by have := HT.out.1; omega) (by omega) w' h
                have Kb : Hid (∀ w', RWatch w' r q cap x → Calls Try.prog 13 #[.pointer (some ⟨r, 0, none⟩), .int .i64 N, .int .i64 Z] w' fun e w'' => e = .returned (.tuple #[.bool S1, .int .i64 0]) ∧ RWatch w'' r q cap y ∧ But2 r q (From w'.heap.size) w' w'') :=
                  fun w' h => by rw [hk, hz, hS1, hy]; exact rheard_ok r q cap x k z (by omega) (by have := HY.out.1.n; omega) (by have := HT.out.1; omega) (by omega) w' h
                have HE : Hid (y.n = n ∧ y.self = s) := by rw [hy]; exact ⟨HY.out.1.n, HY.out.1.s⟩
                clear hc hk hz hS1 hy
                go_wp2_with fail
                refine (Ka.out _ HY.out.1.a).mono ?_
                rintro e w4 ⟨rfl, hW4, hb4⟩
                have H4 : Hid (WatchAt w4 g y ∧ But g (From wy.heap.size) wy w4) := ⟨hW4, hb4⟩
                clear x1
                have x1 : w4.cell? ⟨xb, 1, none⟩ = some (.int .i64 N) := (hb4.cell (p := ⟨xb, 1, none⟩) (not_from HY.out.2.2.2.1) HY.out.2.2.2.2.1).trans HY.out.2.2.1
                clear hW4 hb4
                go_wp2_with fail
                refine (Kb.out _ (HY.out.1.refB H4.out.2)).mono ?_
                rintro e w5 ⟨rfl, hW5, hb5⟩
                have H5 : Hid (Two14 w w5 g r q cap y n s ∧ w5.cell? ⟨xb, 1, none⟩ = some (.int .i64 N) ∧ xb < w5.heap.size) := ⟨HY.out.1.step H4.out.1 H4.out.2 hW5 hb5 HE.out.1 HE.out.2, step_cell HY.out.2.2.1 HY.out.2.2.2.1 H4.out.2 hb5 HY.out.2.2.2.2.1 HY.out.2.2.2.2.2.1 HY.out.2.2.2.2.2.2, Nat.lt_of_lt_of_le HY.out.2.2.2.1 (Nat.le_trans H4.out.2.size hb5.size)⟩
                clear hW5 hb5 H4 x1
                go_wp2_with fail
                go_meet
                exact ⟨y, H5.out⟩
            · as_aux_lemma =>
                have Ka : Hid (∀ w', WatchAt w' g x → Calls Try.prog 12 #[.pointer (some ⟨g, 0, none⟩), .int .i64 N, .int .i64 Z] w' fun e w'' => e = .returned (.tuple #[.bool false, .int .i64 1]) ∧ w'' = w') :=
                  fun w' h => heard_no g x N Z (by rw [HY.out.1.n, ← HT.out.1]; exact hc) w' h
                have Kb : Hid (∀ w', RWatch w' r q cap x → Calls Try.prog 13 #[.pointer (some ⟨r, 0, none⟩), .int .i64 N, .int .i64 Z] w' fun e w'' => e = .returned (.tuple #[.bool false, .int .i64 1]) ∧ w'' = w') :=
                  fun w' h => rheard_no r q cap x N Z (by rw [HY.out.1.n, ← HT.out.1]; exact hc) w' h
                clear hc
                have x1 := HY.out.2.2.1
                go_wp2_with fail
                refine (Ka.out _ HY.out.1.a).mono ?_
                rintro e w4 ⟨rfl, rfl⟩
                go_wp2_with fail
                refine (Kb.out _ HY.out.1.b).mono ?_
                rintro e w4 ⟨rfl, rfl⟩
                clear x1
                go_wp2_with fail
                go_meet
                exact ⟨x, HY.out.1, HY.out.2.2.1, HY.out.2.2.2.1⟩
          by_cases e2 : X = 2
          · subst e2
            by_cases hc : (T : Nat) ≤ Z ∧ Z ≤ 1099511627776
            · as_aux_lemma =>
                obtain ⟨z, hz⟩ : ∃ z : Nat, Z = (z : Nat) := ⟨Z.toNat, by omega⟩
                obtain ⟨L, hL⟩ : ∃ L, L = lateL (atW x z) := ⟨_, rfl⟩
                obtain ⟨nL, hnL⟩ : ∃ nL, nL = L.length := ⟨_, rfl⟩
                obtain ⟨y, hy⟩ : ∃ y, y = checkW x z := ⟨_, rfl⟩
                have Ka : Hid (∀ w', WatchAt w' g x → Calls Try.prog 14 #[.pointer (some ⟨g, 0, none⟩), .int .i64 Z] w' fun e w'' => ∃ a cap, e = .returned (.tuple #[.slice a nL cap, .int .i64 0]) ∧ IntsFrom w'' w'.heap.size a L ∧ WatchAt w'' g y ∧ But g (From w'.heap.size) w' w'') :=
                  fun w' h => by rw [hz, hnL, hL, hy]; exact check_ok g x z (by have := HT.out.1; omega) (by omega) w' h
                have Kb : Hid (∀ w', RWatch w' r q cap x → Calls Try.prog 15 #[.pointer (some ⟨r, 0, none⟩), .int .i64 Z] w' fun e w'' => ∃ a cap', e = .returned (.tuple #[.slice a nL cap', .int .i64 0]) ∧ IntsFrom w'' w'.heap.size a L ∧ RWatch w'' r q cap y ∧ But2 r q (From w'.heap.size) w' w'') :=
                  fun w' h => by rw [hz, hnL, hL, hy]; exact rcheck_ok r q cap x z (by have := HT.out.1; omega) (by omega) w' h
                have Kc : Hid (∀ (w' : World) (a b : Option Addr) (ca cb : Nat), IntsAt w' a L → IntsAt w' b L → Calls Try.prog 16 #[.slice a nL ca, .slice b nL cb] w' fun e w'' => e = .returned (.bool true) ∧ Below w'.heap.size w' w'') :=
                  fun w' a b ca cb h1 h2 => by
                    rw [hnL]
                    have hb := lsN_len (lateB (atW x z)) (atW x z).n
                    have h10 := HY.out.1.a.ok.n10
                    have h := pints_any a b L L ca cb (by rw [hL]; show (lsN (lateB (atW x z)) (atW x z).n).length ≤ _; have : (atW x z).n = x.n := rfl; omega) w' h1 h2
                    rw [decide_eq_true rfl] at h
                    exact h
                have HE : Hid (y.n = n ∧ y.self = s) := by rw [hy]; exact ⟨HY.out.1.n, HY.out.1.s⟩
                clear hc hz hL hnL hy
                go_wp2_with fail
                refine (Ka.out _ HY.out.1.a).mono ?_
                rintro e w4 ⟨a4, cap4, rfl, hI4, hW4, hb4⟩
                have H4 : Hid (WatchAt w4 g y ∧ But g (From wy.heap.size) wy w4 ∧ IntsFrom w4 wy.heap.size a4 L) := ⟨hW4, hb4, hI4⟩
                clear hW4 hb4 hI4
                go_wp2_with fail
                refine (Kb.out _ (HY.out.1.refB H4.out.2.1)).mono ?_
                rintro e w5 ⟨a5, cap5, rfl, hI5, hW5, hb5⟩
                have H5 : Hid (Two14 w w5 g r q cap y n s ∧ w5.cell? ⟨xb, 1, none⟩ = some (.int .i64 N) ∧ xb < w5.heap.size ∧ IntsAt w5 a4 L ∧ IntsAt w5 a5 L) := ⟨HY.out.1.step H4.out.1 H4.out.2.1 hW5 hb5 HE.out.1 HE.out.2, step_cell HY.out.2.2.1 HY.out.2.2.2.1 H4.out.2.1 hb5 HY.out.2.2.2.2.1 HY.out.2.2.2.2.2.1 HY.out.2.2.2.2.2.2, Nat.lt_of_lt_of_le HY.out.2.2.2.1 (Nat.le_trans H4.out.2.1.size hb5.size), (H4.out.2.2.but2 HY.out.1.b.rl HY.out.1.b.ql hb5).ints, hI5.ints⟩
                clear hW5 hb5 hI5 H4
                go_wp2_with fail
                refine (Kc.out _ _ _ _ _ H5.out.2.2.2.1 H5.out.2.2.2.2).mono ?_
                rintro e w6 ⟨rfl, hb6⟩
                have H6 : Hid (Two14 w w6 g r q cap y n s ∧ w6.cell? ⟨xb, 1, none⟩ = some (.int .i64 N) ∧ xb < w6.heap.size) := ⟨H5.out.1.call hb6, (hb6.cell (p := ⟨xb, 1, none⟩) H5.out.2.2.1).trans H5.out.2.1, Nat.lt_of_lt_of_le H5.out.2.2.1 hb6.size⟩
                clear hb6 H5
                go_wp2_with fail
                go_meet
                exact ⟨y, H6.out⟩
            · as_aux_lemma =>
                have Ka : Hid (∀ w', WatchAt w' g x → Calls Try.prog 14 #[.pointer (some ⟨g, 0, none⟩), .int .i64 Z] w' fun e w'' => e = .returned (.tuple #[.slice none 0 0, .int .i64 1]) ∧ w'' = w') :=
                  fun w' h => check_no g x Z (by rw [← HT.out.1]; exact hc) w' h
                have Kb : Hid (∀ w', RWatch w' r q cap x → Calls Try.prog 15 #[.pointer (some ⟨r, 0, none⟩), .int .i64 Z] w' fun e w'' => e = .returned (.tuple #[.slice none 0 0, .int .i64 1]) ∧ w'' = w') :=
                  fun w' h => rcheck_no r q cap x Z (by rw [← HT.out.1]; exact hc) w' h
                have Kc : Hid (∀ (w' : World), Calls Try.prog 16 #[.slice none 0 0, .slice none 0 0] w' fun e w'' => e = .returned (.bool true) ∧ Below w'.heap.size w' w'') :=
                  fun w' => pints_any none none [] [] 0 0 (by decide) w' (fun j n hj => by simp at hj) (fun j n hj => by simp at hj)
                clear hc
                go_wp2_with fail
                refine (Ka.out _ HY.out.1.a).mono ?_
                rintro e w4 ⟨rfl, rfl⟩
                go_wp2_with fail
                refine (Kb.out _ HY.out.1.b).mono ?_
                rintro e w4 ⟨rfl, rfl⟩
                go_wp2_with fail
                refine (Kc.out _).mono ?_
                rintro e w6 ⟨rfl, hb6⟩
                have H6 : Hid (Two14 w w6 g r q cap x n s ∧ w6.cell? ⟨xb, 1, none⟩ = some (.int .i64 N) ∧ xb < w6.heap.size) := ⟨HY.out.1.call hb6, (hb6.cell (p := ⟨xb, 1, none⟩) HY.out.2.2.2.1).trans HY.out.2.2.1, Nat.lt_of_lt_of_le HY.out.2.2.2.1 hb6.size⟩
                clear hb6
                go_wp2_with fail
                go_meet
                exact ⟨x, H6.out⟩
          · go_wp2_with fail
            go_meet
            exact ⟨x, HY.out.1, HY.out.2.2.1, HY.out.2.2.2.1⟩
        case rest =>
          obtain ⟨y, hV, x1, xl⟩ := hcut
          have HY2 : Hid (Two14 w wc g r q cap y n s ∧ xb < wc.heap.size) := ⟨hV, xl⟩
          obtain ⟨TY, hTY⟩ : ∃ T, T = y.now := ⟨_, rfl⟩
          obtain ⟨LS, hLS⟩ : ∃ L, L = silL y := ⟨_, rfl⟩
          obtain ⟨nS, hnS⟩ : ∃ k, k = LS.length := ⟨_, rfl⟩
          have HTY : Hid (TY = y.now ∧ TY ≤ 1099511627776) := ⟨hTY, by rw [hTY]; exact hV.a.ok.now⟩
          have KS : Hid (∀ w', WatchAt w' g y → Calls Try.prog 18 #[.pointer (some ⟨g, 0, none⟩)] w' fun e w'' => ∃ a cap, e = .returned (.slice a nS cap) ∧ IntsAt w'' a LS ∧ Below w'.heap.size w' w'') :=
            fun w' h => by rw [hnS, hLS]; exact (silent_any g y w' h).mono fun e w'' ⟨a, c, h1, h2, h3⟩ => ⟨a, c, h1, h2.ints, h3⟩
          have KR : Hid (∀ w', RWatch w' r q cap y → Calls Try.prog 19 #[.pointer (some ⟨r, 0, none⟩)] w' fun e w'' => ∃ a cap, e = .returned (.slice a nS cap) ∧ IntsAt w'' a LS ∧ Below w'.heap.size w' w'') :=
            fun w' h => by rw [hnS, hLS]; exact (rsilent_any r q cap y w' h).mono fun e w'' ⟨a, c, h1, h2, h3⟩ => ⟨a, c, h1, h2.ints, h3⟩
          have KI : Hid (∀ (w' : World) (a b : Option Addr) (ca cb : Nat), IntsAt w' a LS → IntsAt w' b LS → Calls Try.prog 16 #[.slice a nS ca, .slice b nS cb] w' fun e w'' => e = .returned (.bool true) ∧ Below w'.heap.size w' w'') :=
            fun w' a b ca cb h1 h2 => by
              rw [hnS]
              have hb := lsN_len y.s y.n
              have h10 := hV.a.ok.n10
              have h := pints_any a b LS LS ca cb (by rw [hLS]; show (lsN y.s y.n).length ≤ _; omega) w' h1 h2
              rw [decide_eq_true rfl] at h
              exact h
          have KN : Hid (∀ w', WatchAt w' g y → Calls Try.prog 20 #[.pointer (some ⟨g, 0, none⟩)] w' fun e w'' => e = .returned (.int .i64 (TY : Nat)) ∧ w'' = w') :=
            fun w' h => by rw [hTY]; exact wnow_any g y w' h
          clear hTY hLS hnS xl
          by_cases hNs : N = (s : Nat)
          · as_aux_lemma =>
              subst hNs
              have KT : Hid (∀ w', WatchAt w' g y → Calls Try.prog 17 #[.pointer (some ⟨g, 0, none⟩), .int .i64 ((s : Nat) : Int)] w' fun e w'' => e = .returned (.tuple #[.int .i64 0, .int .i64 0]) ∧ w'' = w') :=
                fun w' h => by rw [← HY2.out.1.s]; exact timeout_self g y w' h
              have n1 : (1 : Int) ≤ (s : Nat) := by have := HS.out.2.2.1; omega
              have n2 : ((s : Nat) : Int) ≤ (n : Nat) := by have := HS.out.2.2.2; omega
              have d1 : decide ((1 : Int) ≤ (s : Nat)) = true := decide_eq_true n1
              have d2 : decide (((s : Nat) : Int) ≤ (n : Nat)) = true := decide_eq_true n2
              have d2' : decide (s ≤ n) = true := decide_eq_true (by omega)
              have d3 : (((s : Nat) : Int) != ((s : Nat) : Int)) = false := by simp
              clear hV
              go_wp2_with fail
              refine (KT.out _ HY2.out.1.a).mono ?_
              rintro e w6 ⟨rfl, h6⟩
              subst h6
              go_wp2_with fail
              have HZ : Hid (Two14 w w6.drew g r q cap y n s ∧ w6.drew.cell? ⟨xb, 1, none⟩ = some (.int .i64 ((s : Nat) : Int)) ∧ xb < w6.drew.heap.size) := ⟨HY2.out.1.call (Below.refl _ _).drew, x1, HY2.out.2⟩
              clear x1
              refine wp_region_H (fun w' => Two14 w w' g r q cap y n s ∧ w'.cell? ⟨xb, 1, none⟩ = some (.int .i64 ((s : Nat) : Int)) ∧ xb < w'.heap.size) 34 rfl (by kernel_rfl) ?_
              refine wpAnyH_take (i := 0) (oi := ?o0v1) (v := ?v0v1) ?hi0v1 (by kernel_rfl) (by kernel_rfl) (by kernel_rfl) ?hQ0v1 ?hy0v1 HZ.out ?more0v1
              case hi0v1 => rw [List.getElem?_toArray]; exact rfl
              case hQ0v1 => exact fun _ _ _ h => h
              case hy0v1 =>
                refine Or.inl ⟨by rfl, ?_⟩
                intro w' hSw
                obtain ⟨sV, sx, -⟩ := hSw
                have s2 : w'.cell? ⟨r, 2, none⟩ = some (.int .i64 (TY : Nat)) := by rw [HTY.out.1]; exact sV.b.c2
                clear sV
                go_simp
                try with_reducible rfl
              simp only [Act.put, List.setIfInBounds_toArray, List.set_cons_zero, List.set_cons_succ]
              refine wpAnyH_take (i := 1) (oi := ?o1v1) (v := ?v1v1) ?hi1v1 (by kernel_rfl) (by kernel_rfl) (by kernel_rfl) ?hQ1v1 ?hy1v1 HZ.out ?more1v1
              case hi1v1 => rw [List.getElem?_toArray]; exact rfl
              case hQ1v1 => exact fun _ _ _ h => h
              case hy1v1 =>
                refine Or.inl ⟨by rfl, ?_⟩
                intro w' hSw
                obtain ⟨sV, sx, -⟩ := hSw
                have s2 : w'.cell? ⟨r, 2, none⟩ = some (.int .i64 (TY : Nat)) := by rw [HTY.out.1]; exact sV.b.c2
                clear sV
                go_simp
                try with_reducible rfl
              simp only [Act.put, List.setIfInBounds_toArray, List.set_cons_zero, List.set_cons_succ]
              refine wpAnyH_take (i := 2) (oi := ?o2v1) (v := ?v2v1) ?hi2v1 (by kernel_rfl) (by kernel_rfl) (by kernel_rfl) ?hQ2v1 ?hy2v1 HZ.out ?more2v1
              case hi2v1 => rw [List.getElem?_toArray]; exact rfl
              case hQ2v1 => exact fun _ _ _ h => h
              case hy2v1 =>
                refine Or.inl ⟨by rfl, ?_⟩
                intro w' hSw
                obtain ⟨sV, sx, -⟩ := hSw
                have s2 : w'.cell? ⟨r, 2, none⟩ = some (.int .i64 (TY : Nat)) := by rw [HTY.out.1]; exact sV.b.c2
                clear sV
                go_simp
                try with_reducible rfl
              simp only [Act.put, List.setIfInBounds_toArray, List.set_cons_zero, List.set_cons_succ]
              refine wpAnyH_take (i := 3) (oi := ?o3v1) (v := ?v3v1) ?hi3v1 (by kernel_rfl) (by kernel_rfl) (by kernel_rfl) ?hQ3v1 ?hy3v1 HZ.out ?more3v1
              case hi3v1 => rw [List.getElem?_toArray]; exact rfl
              case hQ3v1 => exact fun _ _ _ h => h
              case hy3v1 =>
                refine Or.inl ⟨by rfl, ?_⟩
                intro w' hSw
                obtain ⟨sV, sx, -⟩ := hSw
                have s2 : w'.cell? ⟨r, 2, none⟩ = some (.int .i64 (TY : Nat)) := by rw [HTY.out.1]; exact sV.b.c2
                clear sV
                go_simp
                try with_reducible rfl
              simp only [Act.put, List.setIfInBounds_toArray, List.set_cons_zero, List.set_cons_succ]
              refine wpAnyH_take (i := 4) (oi := ?o4v1) (v := ?v4v1) ?hi4v1 (by kernel_rfl) (by kernel_rfl) (by kernel_rfl) ?hQ4v1 ?hy4v1 HZ.out ?more4v1
              case hi4v1 => rw [List.getElem?_toArray]; exact rfl
              case hQ4v1 => exact fun _ _ _ h => h
              case hy4v1 =>
                refine Or.inl ⟨by rfl, ?_⟩
                intro w' hSw
                obtain ⟨sV, sx, -⟩ := hSw
                have s2 : w'.cell? ⟨r, 2, none⟩ = some (.int .i64 (TY : Nat)) := by rw [HTY.out.1]; exact sV.b.c2
                clear sV
                go_simp
                try with_reducible rfl
              simp only [Act.put, List.setIfInBounds_toArray, List.set_cons_zero, List.set_cons_succ]
              refine wpAnyH_take (i := 5) (oi := ?o5v1) (v := ?v5v1) ?hi5v1 (by kernel_rfl) (by kernel_rfl) (by kernel_rfl) ?hQ5v1 ?hy5v1 HZ.out ?more5v1
              case hi5v1 => rw [List.getElem?_toArray]; exact rfl
              case hQ5v1 => exact fun _ _ _ h => h
              case hy5v1 =>
                refine Or.inl ⟨by rfl, ?_⟩
                intro w' hSw
                obtain ⟨sV, sx, -⟩ := hSw
                have s2 : w'.cell? ⟨r, 2, none⟩ = some (.int .i64 (TY : Nat)) := by rw [HTY.out.1]; exact sV.b.c2
                clear sV
                go_simp
                try with_reducible rfl
              simp only [Act.put, List.setIfInBounds_toArray, List.set_cons_zero, List.set_cons_succ]
              refine wpAnyH_take (i := 6) (oi := ?o6v1) (v := ?v6v1) ?hi6v1 (by kernel_rfl) (by kernel_rfl) (by kernel_rfl) ?hQ6v1 ?hy6v1 HZ.out ?more6v1
              case hi6v1 => rw [List.getElem?_toArray]; exact rfl
              case hQ6v1 => exact fun _ _ _ h => h
              case hy6v1 =>
                refine Or.inl ⟨by rfl, ?_⟩
                intro w' hSw
                obtain ⟨sV, sx, -⟩ := hSw
                have s2 : w'.cell? ⟨r, 2, none⟩ = some (.int .i64 (TY : Nat)) := by rw [HTY.out.1]; exact sV.b.c2
                clear sV
                go_simp
                try with_reducible rfl
              simp only [Act.put, List.setIfInBounds_toArray, List.set_cons_zero, List.set_cons_succ]
              refine wpAnyH_take (i := 7) (oi := ?o7v1) (v := ?v7v1) ?hi7v1 (by kernel_rfl) (by kernel_rfl) (by kernel_rfl) ?hQ7v1 ?hy7v1 HZ.out ?more7v1
              case hi7v1 => rw [List.getElem?_toArray]; exact rfl
              case hQ7v1 => exact fun _ _ _ h => h
              case hy7v1 =>
                refine Or.inl ⟨by rfl, ?_⟩
                intro w' hSw
                obtain ⟨sV, sx, -⟩ := hSw
                have s2 : w'.cell? ⟨r, 2, none⟩ = some (.int .i64 (TY : Nat)) := by rw [HTY.out.1]; exact sV.b.c2
                clear sV
                go_simp
                try with_reducible rfl
              simp only [Act.put, List.setIfInBounds_toArray, List.set_cons_zero, List.set_cons_succ]
              refine wpAnyH_take (i := 8) (oi := ?o8v1) (v := ?v8v1) ?hi8v1 (by kernel_rfl) (by kernel_rfl) (by kernel_rfl) ?hQ8v1 ?hy8v1 HZ.out ?more8v1
              case hi8v1 => rw [List.getElem?_toArray]; exact rfl
              case hQ8v1 => exact fun _ _ _ h => h
              case hy8v1 =>
                refine Or.inl ⟨by rfl, ?_⟩
                intro w' hSw
                obtain ⟨sV, sx, -⟩ := hSw
                have s2 : w'.cell? ⟨r, 2, none⟩ = some (.int .i64 (TY : Nat)) := by rw [HTY.out.1]; exact sV.b.c2
                clear sV
                go_simp
                try with_reducible rfl
              simp only [Act.put, List.setIfInBounds_toArray, List.set_cons_zero, List.set_cons_succ]
              refine wpAnyH_take (i := 9) (oi := ?o9v1) (v := ?v9v1) ?hi9v1 (by kernel_rfl) (by kernel_rfl) (by kernel_rfl) ?hQ9v1 ?hy9v1 HZ.out ?more9v1
              case hi9v1 => rw [List.getElem?_toArray]; exact rfl
              case hQ9v1 => exact fun _ _ _ h => h
              case hy9v1 =>
                refine Or.inl ⟨by rfl, ?_⟩
                intro w' hSw
                obtain ⟨sV, sx, -⟩ := hSw
                have s2 : w'.cell? ⟨r, 2, none⟩ = some (.int .i64 (TY : Nat)) := by rw [HTY.out.1]; exact sV.b.c2
                clear sV
                go_simp
                try with_reducible rfl
              simp only [Act.put, List.setIfInBounds_toArray, List.set_cons_zero, List.set_cons_succ]
              refine wpAnyH_take (i := 10) (oi := ?o10v1) (v := ?v10v1) ?hi10v1 (by kernel_rfl) (by kernel_rfl) (by kernel_rfl) ?hQ10v1 ?hy10v1 HZ.out ?more10v1
              case hi10v1 => rw [List.getElem?_toArray]; exact rfl
              case hQ10v1 => exact fun _ _ _ h => h
              case hy10v1 =>
                refine Or.inl ⟨by rfl, ?_⟩
                intro w' hSw
                obtain ⟨sV, sx, -⟩ := hSw
                have s2 : w'.cell? ⟨r, 2, none⟩ = some (.int .i64 (TY : Nat)) := by rw [HTY.out.1]; exact sV.b.c2
                clear sV
                go_simp
                try with_reducible rfl
              simp only [Act.put, List.setIfInBounds_toArray, List.set_cons_zero, List.set_cons_succ]
              refine wpAnyH_take (i := 11) (oi := ?o11v1) (v := ?v11v1) ?hi11v1 (by kernel_rfl) (by kernel_rfl) (by kernel_rfl) ?hQ11v1 ?hy11v1 HZ.out ?more11v1
              case hi11v1 => rw [List.getElem?_toArray]; exact rfl
              case hQ11v1 => exact fun _ _ _ h => h
              case hy11v1 =>
                refine Or.inl ⟨by rfl, ?_⟩
                intro w' hSw
                obtain ⟨sV, sx, -⟩ := hSw
                have s2 : w'.cell? ⟨r, 2, none⟩ = some (.int .i64 (TY : Nat)) := by rw [HTY.out.1]; exact sV.b.c2
                clear sV
                go_simp
                try with_reducible rfl
              simp only [Act.put, List.setIfInBounds_toArray, List.set_cons_zero, List.set_cons_succ]
              refine wpAnyH_take (i := 12) (oi := ?o12v1) (v := ?v12v1) ?hi12v1 (by kernel_rfl) (by kernel_rfl) (by kernel_rfl) ?hQ12v1 ?hy12v1 HZ.out ?more12v1
              case hi12v1 => rw [List.getElem?_toArray]; exact rfl
              case hQ12v1 => exact fun _ _ _ h => h
              case hy12v1 =>
                refine Or.inl ⟨by rfl, ?_⟩
                intro w' hSw
                obtain ⟨sV, sx, -⟩ := hSw
                have s2 : w'.cell? ⟨r, 2, none⟩ = some (.int .i64 (TY : Nat)) := by rw [HTY.out.1]; exact sV.b.c2
                clear sV
                go_simp
                try with_reducible rfl
              simp only [Act.put, List.setIfInBounds_toArray, List.set_cons_zero, List.set_cons_succ]
              refine wpAnyH_take (i := 13) (oi := ?o13v1) (v := ?v13v1) ?hi13v1 (by kernel_rfl) (by kernel_rfl) (by kernel_rfl) ?hQ13v1 ?hy13v1 HZ.out ?more13v1
              case hi13v1 => rw [List.getElem?_toArray]; exact rfl
              case hQ13v1 => exact fun _ _ _ h => h
              case hy13v1 =>
                refine Or.inl ⟨by rfl, ?_⟩
                intro w' hSw
                obtain ⟨sV, sx, -⟩ := hSw
                have s2 : w'.cell? ⟨r, 2, none⟩ = some (.int .i64 (TY : Nat)) := by rw [HTY.out.1]; exact sV.b.c2
                clear sV
                go_simp
                try with_reducible rfl
              simp only [Act.put, List.setIfInBounds_toArray, List.set_cons_zero, List.set_cons_succ]
              refine wpAnyH_take (i := 14) (oi := ?o14v1) (v := ?v14v1) ?hi14v1 (by kernel_rfl) (by kernel_rfl) (by kernel_rfl) ?hQ14v1 ?hy14v1 HZ.out ?more14v1
              case hi14v1 => rw [List.getElem?_toArray]; exact rfl
              case hQ14v1 => exact fun _ _ _ h => h
              case hy14v1 =>
                refine Or.inl ⟨by rfl, ?_⟩
                intro w' hSw
                obtain ⟨sV, sx, -⟩ := hSw
                have s2 : w'.cell? ⟨r, 2, none⟩ = some (.int .i64 (TY : Nat)) := by rw [HTY.out.1]; exact sV.b.c2
                clear sV
                go_simp
                try with_reducible rfl
              simp only [Act.put, List.setIfInBounds_toArray, List.set_cons_zero, List.set_cons_succ]
              refine wpAnyH_take (i := 15) (oi := ?o15v1) (v := ?v15v1) ?hi15v1 (by kernel_rfl) (by kernel_rfl) (by kernel_rfl) ?hQ15v1 ?hy15v1 HZ.out ?more15v1
              case hi15v1 => rw [List.getElem?_toArray]; exact rfl
              case hQ15v1 => exact fun _ _ _ h => h
              case hy15v1 =>
                refine Or.inl ⟨by rfl, ?_⟩
                intro w' hSw
                obtain ⟨sV, sx, -⟩ := hSw
                have s2 : w'.cell? ⟨r, 2, none⟩ = some (.int .i64 (TY : Nat)) := by rw [HTY.out.1]; exact sV.b.c2
                clear sV
                go_simp
                try with_reducible rfl
              simp only [Act.put, List.setIfInBounds_toArray, List.set_cons_zero, List.set_cons_succ]
              refine wpAnyH_take (i := 16) (oi := ?o16v1) (v := ?v16v1) ?hi16v1 (by kernel_rfl) (by kernel_rfl) (by kernel_rfl) ?hQ16v1 ?hy16v1 HZ.out ?more16v1
              case hi16v1 => rw [List.getElem?_toArray]; exact rfl
              case hQ16v1 => exact fun _ _ _ h => h
              case hy16v1 =>
                refine Or.inl ⟨by rfl, ?_⟩
                intro w' hSw
                obtain ⟨sV, sx, -⟩ := hSw
                have s2 : w'.cell? ⟨r, 2, none⟩ = some (.int .i64 (TY : Nat)) := by rw [HTY.out.1]; exact sV.b.c2
                clear sV
                go_simp
                try with_reducible rfl
              simp only [Act.put, List.setIfInBounds_toArray, List.set_cons_zero, List.set_cons_succ]
              refine wpAnyH_take (i := 17) (oi := ?o17v1) (v := ?v17v1) ?hi17v1 (by kernel_rfl) (by kernel_rfl) (by kernel_rfl) ?hQ17v1 ?hy17v1 HZ.out ?more17v1
              case hi17v1 => rw [List.getElem?_toArray]; exact rfl
              case hQ17v1 => exact fun _ _ _ h => h
              case hy17v1 =>
                refine Or.inl ⟨by rfl, ?_⟩
                intro w' hSw
                obtain ⟨sV, sx, -⟩ := hSw
                have s2 : w'.cell? ⟨r, 2, none⟩ = some (.int .i64 (TY : Nat)) := by rw [HTY.out.1]; exact sV.b.c2
                clear sV
                go_simp
                try with_reducible rfl
              simp only [Act.put, List.setIfInBounds_toArray, List.set_cons_zero, List.set_cons_succ]
              refine wpAnyH_take (i := 18) (oi := ?o18v1) (v := ?v18v1) ?hi18v1 (by kernel_rfl) (by kernel_rfl) (by kernel_rfl) ?hQ18v1 ?hy18v1 HZ.out ?more18v1
              case hi18v1 => rw [List.getElem?_toArray]; exact rfl
              case hQ18v1 => exact fun _ _ _ h => h
              case hy18v1 =>
                refine Or.inl ⟨by rfl, ?_⟩
                intro w' hSw
                obtain ⟨sV, sx, -⟩ := hSw
                have s2 : w'.cell? ⟨r, 2, none⟩ = some (.int .i64 (TY : Nat)) := by rw [HTY.out.1]; exact sV.b.c2
                clear sV
                go_simp
                try with_reducible rfl
              simp only [Act.put, List.setIfInBounds_toArray, List.set_cons_zero, List.set_cons_succ]
              refine wpAnyH_take (i := 20) (oi := ?o20v1) (v := ?v20v1) ?hi20v1 (by kernel_rfl) (by kernel_rfl) (by kernel_rfl) ?hQ20v1 ?hy20v1 HZ.out ?more20v1
              case hi20v1 => rw [List.getElem?_toArray]; exact rfl
              case hQ20v1 => exact fun _ _ _ h => h
              case hy20v1 =>
                refine Or.inl ⟨by rfl, ?_⟩
                intro w' hSw
                obtain ⟨sV, sx, -⟩ := hSw
                have s2 : w'.cell? ⟨r, 2, none⟩ = some (.int .i64 (TY : Nat)) := by rw [HTY.out.1]; exact sV.b.c2
                clear sV
                go_simp
                try with_reducible rfl
              simp only [Act.put, List.setIfInBounds_toArray, List.set_cons_zero, List.set_cons_succ]
              refine wpAnyH_one (i := 19) (o := ?o19v1) (by kernel_rfl) ?hi19v1 ?hw19v1 ?st19v1
              case hi19v1 => rw [List.getElem?_toArray]; exact rfl
              case hw19v1 => exact rfl
              intro K hK
              have HK19v1 : Hid _ := hK
              clear hK
              go_simp
              refine (KS.out _ HZ.out.1.a).mono ?_
              rintro e w19 ⟨a19, c19, rfl, hI19, hb19⟩
              have H19 : Hid ((fun w' => Two14 w w' g r q cap y n s ∧ w'.cell? ⟨xb, 1, none⟩ = some (.int .i64 ((s : Nat) : Int)) ∧ xb < w'.heap.size) w19) := ⟨HZ.out.1.call hb19, (hb19.cell (p := ⟨xb, 1, none⟩) HZ.out.2.2).trans HZ.out.2.1, Nat.lt_of_lt_of_le HZ.out.2.2 hb19.size⟩
              have HI19 : Hid (IntsAt w19 a19 LS) := hI19
              clear hb19 hI19
              go_wp2_with fail
              refine HK19v1.out _ _ ⟨H19.out, ?_⟩
              clear HK19v1 K
              try simp only [Act.put, List.setIfInBounds_toArray, List.set_cons_zero, List.set_cons_succ]
              refine wpAnyH_one (i := 21) (o := ?o21v1) (by kernel_rfl) ?hi21v1 ?hw21v1 ?st21v1
              case hi21v1 => rw [List.getElem?_toArray]; exact rfl
              case hw21v1 => exact rfl
              intro K hK
              have HK21v1 : Hid _ := hK
              clear hK
              go_simp
              refine (KR.out _ H19.out.1.b).mono ?_
              rintro e w21 ⟨a21, c21, rfl, hI21, hb21⟩
              have H21 : Hid ((fun w' => Two14 w w' g r q cap y n s ∧ w'.cell? ⟨xb, 1, none⟩ = some (.int .i64 ((s : Nat) : Int)) ∧ xb < w'.heap.size) w21) := ⟨H19.out.1.call hb21, (hb21.cell (p := ⟨xb, 1, none⟩) H19.out.2.2).trans H19.out.2.1, Nat.lt_of_lt_of_le H19.out.2.2 hb21.size⟩
              have HI21 : Hid (IntsAt w21 a19 LS ∧ IntsAt w21 a21 LS) := ⟨HI19.out.call hb21, hI21⟩
              clear hb21 hI21 HI19
              go_wp2_with fail
              refine HK21v1.out _ _ ⟨H21.out, ?_⟩
              clear HK21v1 K
              try simp only [Act.put, List.setIfInBounds_toArray, List.set_cons_zero, List.set_cons_succ]
              refine wpAnyH_one (i := 22) (o := ?o22v1) (by kernel_rfl) ?hi22v1 ?hw22v1 ?st22v1
              case hi22v1 => rw [List.getElem?_toArray]; exact rfl
              case hw22v1 => exact rfl
              intro K hK
              have HK22v1 : Hid _ := hK
              clear hK
              go_simp
              refine (KI.out _ _ _ _ _ HI21.out.1 HI21.out.2).mono ?_
              rintro e w22 ⟨rfl, hb22⟩
              have H22 : Hid ((fun w' => Two14 w w' g r q cap y n s ∧ w'.cell? ⟨xb, 1, none⟩ = some (.int .i64 ((s : Nat) : Int)) ∧ xb < w'.heap.size) w22) := ⟨H21.out.1.call hb22, (hb22.cell (p := ⟨xb, 1, none⟩) H21.out.2.2).trans H21.out.2.1, Nat.lt_of_lt_of_le H21.out.2.2 hb22.size⟩
              clear hb22 HI21
              go_wp2_with fail
              refine HK22v1.out _ _ ⟨H22.out, ?_⟩
              clear HK22v1 K
              try simp only [Act.put, List.setIfInBounds_toArray, List.set_cons_zero, List.set_cons_succ]
              refine wpAnyH_take (i := 23) (oi := ?o23v1) (v := ?v23v1) ?hi23v1 (by kernel_rfl) (by kernel_rfl) (by kernel_rfl) ?hQ23v1 ?hy23v1 H22.out ?more23v1
              case hi23v1 => rw [List.getElem?_toArray]; exact rfl
              case hQ23v1 => exact fun _ _ _ h => h
              case hy23v1 =>
                refine Or.inl ⟨by rfl, ?_⟩
                intro w' hSw
                obtain ⟨sV, sx, -⟩ := hSw
                have s2 : w'.cell? ⟨r, 2, none⟩ = some (.int .i64 (TY : Nat)) := by rw [HTY.out.1]; exact sV.b.c2
                clear sV
                go_simp
                try with_reducible rfl
              simp only [Act.put, List.setIfInBounds_toArray, List.set_cons_zero, List.set_cons_succ]
              refine wpAnyH_take (i := 24) (oi := ?o24v1) (v := ?v24v1) ?hi24v1 (by kernel_rfl) (by kernel_rfl) (by kernel_rfl) ?hQ24v1 ?hy24v1 H22.out ?more24v1
              case hi24v1 => rw [List.getElem?_toArray]; exact rfl
              case hQ24v1 => exact fun _ _ _ h => h
              case hy24v1 =>
                refine Or.inl ⟨by rfl, ?_⟩
                intro w' hSw
                obtain ⟨sV, sx, -⟩ := hSw
                have s2 : w'.cell? ⟨r, 2, none⟩ = some (.int .i64 (TY : Nat)) := by rw [HTY.out.1]; exact sV.b.c2
                clear sV
                go_simp
                try with_reducible rfl
              simp only [Act.put, List.setIfInBounds_toArray, List.set_cons_zero, List.set_cons_succ]
              refine wpAnyH_take (i := 25) (oi := ?o25v1) (v := ?v25v1) ?hi25v1 (by kernel_rfl) (by kernel_rfl) (by kernel_rfl) ?hQ25v1 ?hy25v1 H22.out ?more25v1
              case hi25v1 => rw [List.getElem?_toArray]; exact rfl
              case hQ25v1 => exact fun _ _ _ h => h
              case hy25v1 =>
                refine Or.inl ⟨by rfl, ?_⟩
                intro w' hSw
                obtain ⟨sV, sx, -⟩ := hSw
                have s2 : w'.cell? ⟨r, 2, none⟩ = some (.int .i64 (TY : Nat)) := by rw [HTY.out.1]; exact sV.b.c2
                clear sV
                go_simp
                try with_reducible rfl
              simp only [Act.put, List.setIfInBounds_toArray, List.set_cons_zero, List.set_cons_succ]
              refine wpAnyH_take (i := 26) (oi := ?o26v1) (v := ?v26v1) ?hi26v1 (by kernel_rfl) (by kernel_rfl) (by kernel_rfl) ?hQ26v1 ?hy26v1 H22.out ?more26v1
              case hi26v1 => rw [List.getElem?_toArray]; exact rfl
              case hQ26v1 => exact fun _ _ _ h => h
              case hy26v1 =>
                refine Or.inl ⟨by rfl, ?_⟩
                intro w' hSw
                obtain ⟨sV, sx, -⟩ := hSw
                have s2 : w'.cell? ⟨r, 2, none⟩ = some (.int .i64 (TY : Nat)) := by rw [HTY.out.1]; exact sV.b.c2
                clear sV
                go_simp
                try with_reducible rfl
              simp only [Act.put, List.setIfInBounds_toArray, List.set_cons_zero, List.set_cons_succ]
              refine wpAnyH_take (i := 28) (oi := ?o28v1) (v := ?v28v1) ?hi28v1 (by kernel_rfl) (by kernel_rfl) (by kernel_rfl) ?hQ28v1 ?hy28v1 H22.out ?more28v1
              case hi28v1 => rw [List.getElem?_toArray]; exact rfl
              case hQ28v1 => exact fun _ _ _ h => h
              case hy28v1 =>
                refine Or.inl ⟨by rfl, ?_⟩
                intro w' hSw
                obtain ⟨sV, sx, -⟩ := hSw
                have s2 : w'.cell? ⟨r, 2, none⟩ = some (.int .i64 (TY : Nat)) := by rw [HTY.out.1]; exact sV.b.c2
                clear sV
                go_simp
                try with_reducible rfl
              simp only [Act.put, List.setIfInBounds_toArray, List.set_cons_zero, List.set_cons_succ]
              refine wpAnyH_take (i := 29) (oi := ?o29v1) (v := ?v29v1) ?hi29v1 (by kernel_rfl) (by kernel_rfl) (by kernel_rfl) ?hQ29v1 ?hy29v1 H22.out ?more29v1
              case hi29v1 => rw [List.getElem?_toArray]; exact rfl
              case hQ29v1 => exact fun _ _ _ h => h
              case hy29v1 =>
                refine Or.inl ⟨by rfl, ?_⟩
                intro w' hSw
                obtain ⟨sV, sx, -⟩ := hSw
                have s2 : w'.cell? ⟨r, 2, none⟩ = some (.int .i64 (TY : Nat)) := by rw [HTY.out.1]; exact sV.b.c2
                clear sV
                go_simp
                try with_reducible rfl
              simp only [Act.put, List.setIfInBounds_toArray, List.set_cons_zero, List.set_cons_succ]
              refine wpAnyH_take (i := 30) (oi := ?o30v1) (v := ?v30v1) ?hi30v1 (by kernel_rfl) (by kernel_rfl) (by kernel_rfl) ?hQ30v1 ?hy30v1 H22.out ?more30v1
              case hi30v1 => rw [List.getElem?_toArray]; exact rfl
              case hQ30v1 => exact fun _ _ _ h => h
              case hy30v1 =>
                refine Or.inl ⟨by rfl, ?_⟩
                intro w' hSw
                obtain ⟨sV, sx, -⟩ := hSw
                have s2 : w'.cell? ⟨r, 2, none⟩ = some (.int .i64 (TY : Nat)) := by rw [HTY.out.1]; exact sV.b.c2
                clear sV
                go_simp
                try with_reducible rfl
              simp only [Act.put, List.setIfInBounds_toArray, List.set_cons_zero, List.set_cons_succ]
              refine wpAnyH_take (i := 31) (oi := ?o31v1) (v := ?v31v1) ?hi31v1 (by kernel_rfl) (by kernel_rfl) (by kernel_rfl) ?hQ31v1 ?hy31v1 H22.out ?more31v1
              case hi31v1 => rw [List.getElem?_toArray]; exact rfl
              case hQ31v1 => exact fun _ _ _ h => h
              case hy31v1 =>
                refine Or.inl ⟨by rfl, ?_⟩
                intro w' hSw
                obtain ⟨sV, sx, -⟩ := hSw
                have s2 : w'.cell? ⟨r, 2, none⟩ = some (.int .i64 (TY : Nat)) := by rw [HTY.out.1]; exact sV.b.c2
                clear sV
                go_simp
                try with_reducible rfl
              simp only [Act.put, List.setIfInBounds_toArray, List.set_cons_zero, List.set_cons_succ]
              refine wpAnyH_one (i := 27) (o := ?o27v1) (by kernel_rfl) ?hi27v1 ?hw27v1 ?st27v1
              case hi27v1 => rw [List.getElem?_toArray]; exact rfl
              case hw27v1 => exact rfl
              intro K hK
              have HK27v1 : Hid _ := hK
              clear hK
              go_simp
              refine (KN.out _ H22.out.1.a).mono ?_
              rintro e w27 ⟨rfl, h27⟩
              have H27 : Hid ((fun w' => Two14 w w' g r q cap y n s ∧ w'.cell? ⟨xb, 1, none⟩ = some (.int .i64 ((s : Nat) : Int)) ∧ xb < w'.heap.size) w27) := by rw [h27]; exact H22.out
              clear h27
              go_wp2_with fail
              refine HK27v1.out _ _ ⟨H27.out, ?_⟩
              clear HK27v1 K
              try simp only [Act.put, List.setIfInBounds_toArray, List.set_cons_zero, List.set_cons_succ]
              refine wpAnyH_take (i := 32) (oi := ?o32v1) (v := ?v32v1) ?hi32v1 (by kernel_rfl) (by kernel_rfl) (by kernel_rfl) ?hQ32v1 ?hy32v1 H27.out ?more32v1
              case hi32v1 => rw [List.getElem?_toArray]; exact rfl
              case hQ32v1 => exact fun _ _ _ h => h
              case hy32v1 =>
                refine Or.inl ⟨by rfl, ?_⟩
                intro w' hSw
                obtain ⟨sV, sx, -⟩ := hSw
                have s2 : w'.cell? ⟨r, 2, none⟩ = some (.int .i64 (TY : Nat)) := by rw [HTY.out.1]; exact sV.b.c2
                clear sV
                go_simp
                try with_reducible rfl
              simp only [Act.put, List.setIfInBounds_toArray, List.set_cons_zero, List.set_cons_succ]
              refine wpAnyH_take (i := 33) (oi := ?o33v1) (v := ?v33v1) ?hi33v1 (by kernel_rfl) (by kernel_rfl) (by kernel_rfl) ?hQ33v1 ?hy33v1 H27.out ?more33v1
              case hi33v1 => rw [List.getElem?_toArray]; exact rfl
              case hQ33v1 => exact fun _ _ _ h => h
              case hy33v1 =>
                refine Or.inl ⟨by rfl, ?_⟩
                intro w' hSw
                obtain ⟨sV, sx, -⟩ := hSw
                have s2 : w'.cell? ⟨r, 2, none⟩ = some (.int .i64 (TY : Nat)) := by rw [HTY.out.1]; exact sV.b.c2
                clear sV
                go_simp
                try with_reducible rfl
              simp only [Act.put, List.setIfInBounds_toArray, List.set_cons_zero, List.set_cons_succ]
              refine wpAnyH_done (by kernel_rfl) ?_ _
              go_wp2_with fail
              go_roundw
              case rel => first | exact ⟨i + 1, y, HL.out, by go_num, H27.out.1⟩ | ((repeat apply Exists.intro); exact ⟨⟨i + 1, y, HL.out, by go_num, H27.out.1⟩, rfl⟩)
              case measure => have h1 := HL.out; simp [Go.RowKit.intOf]; omega
          by_cases hN : 1 ≤ N ∧ N ≤ (n : Nat)
          · as_aux_lemma =>
              obtain ⟨k, rfl⟩ : ∃ k : Nat, N = (k : Nat) := ⟨N.toNat, by omega⟩
              obtain ⟨U, hU⟩ : ∃ U, U = y.t k := ⟨_, rfl⟩
              have KT : Hid (∀ w', WatchAt w' g y → Calls Try.prog 17 #[.pointer (some ⟨g, 0, none⟩), .int .i64 ((k : Nat) : Int)] w' fun e w'' => e = .returned (.tuple #[.int .i64 ((U : Nat) : Int), .int .i64 0]) ∧ w'' = w') :=
                fun w' h => by rw [hU]; exact timeout_ok g y k (by omega) (by rw [HY2.out.1.n]; omega) (by rw [HY2.out.1.s]; omega) w' h
              obtain ⟨m1, hm1⟩ : ∃ m1, m1 = n + 1 := ⟨_, rfl⟩
              have c3 : wc.cell? ⟨r, 3, none⟩ = some (.slice (some ⟨q, 0, none⟩) m1 cap) := by rw [hm1, ← hV.n]; exact hV.b.c3
              have ct : wc.cell? ⟨q, k * 3 + 1, none⟩ = some (.int .i64 (U : Nat)) := by rw [hU]; exact hV.b.ct k (by rw [hV.n]; omega)
              have n1 : (1 : Int) ≤ (k : Nat) := hN.1
              have n2 : ((k : Nat) : Int) ≤ (n : Nat) := hN.2
              have n3 : ¬ (((k : Nat) : Int) = (s : Nat)) := hNs
              have b5 : ((k : Nat) : Int) < (m1 : Nat) := by omega
              have b6 : k < m1 := by omega
              have d1 : decide ((1 : Int) ≤ (k : Nat)) = true := decide_eq_true n1
              have d2 : decide (((k : Nat) : Int) ≤ (n : Nat)) = true := decide_eq_true n2
              have d2' : decide (k ≤ n) = true := decide_eq_true (by omega)
              have d3 : (((k : Nat) : Int) != ((s : Nat) : Int)) = true := by simpa using n3
              have d4 : (((U : Nat) : Int) != ((U : Nat) : Int)) = false := by simp
              clear hV hU hm1 hN hNs
              go_wp2_with fail
              refine (KT.out _ HY2.out.1.a).mono ?_
              rintro e w6 ⟨rfl, h6⟩
              subst h6
              go_wp2_with fail
              go_quiet (fail)
              rename_i nq
              obtain ⟨w7, hw7⟩ : ∃ y, y = w6.drewN nq := ⟨_, rfl⟩
              rw [← hw7]
              have HY3 : Hid (Two14 w w7 g r q cap y n s ∧ xb < w7.heap.size) := by rw [hw7]; exact ⟨HY2.out.1.drewN, HY2.out.2⟩
              have y1 : w7.cell? ⟨xb, 1, none⟩ = some (.int .i64 ((k : Nat) : Int)) := by rw [hw7]; exact x1
              clear hw7 x1 c3 ct HY2
              have HY2 : Hid (Two14 w w7 g r q cap y n s ∧ xb < w7.heap.size) := HY3.out
              have x1 := y1
              clear y1 HY3
              go_wp2_with fail
              have HZ : Hid (Two14 w w7.drew g r q cap y n s ∧ w7.drew.cell? ⟨xb, 1, none⟩ = some (.int .i64 ((k : Nat) : Int)) ∧ xb < w7.drew.heap.size) := ⟨HY2.out.1.call (Below.refl _ _).drew, x1, HY2.out.2⟩
              clear x1
              refine wp_region_H (fun w' => Two14 w w' g r q cap y n s ∧ w'.cell? ⟨xb, 1, none⟩ = some (.int .i64 ((k : Nat) : Int)) ∧ xb < w'.heap.size) 34 rfl (by kernel_rfl) ?_
              refine wpAnyH_take (i := 0) (oi := ?o0v2) (v := ?v0v2) ?hi0v2 (by kernel_rfl) (by kernel_rfl) (by kernel_rfl) ?hQ0v2 ?hy0v2 HZ.out ?more0v2
              case hi0v2 => rw [List.getElem?_toArray]; exact rfl
              case hQ0v2 => exact fun _ _ _ h => h
              case hy0v2 =>
                refine Or.inl ⟨by rfl, ?_⟩
                intro w' hSw
                obtain ⟨sV, sx, -⟩ := hSw
                have s2 : w'.cell? ⟨r, 2, none⟩ = some (.int .i64 (TY : Nat)) := by rw [HTY.out.1]; exact sV.b.c2
                clear sV
                go_simp
                try with_reducible rfl
              simp only [Act.put, List.setIfInBounds_toArray, List.set_cons_zero, List.set_cons_succ]
              refine wpAnyH_take (i := 1) (oi := ?o1v2) (v := ?v1v2) ?hi1v2 (by kernel_rfl) (by kernel_rfl) (by kernel_rfl) ?hQ1v2 ?hy1v2 HZ.out ?more1v2
              case hi1v2 => rw [List.getElem?_toArray]; exact rfl
              case hQ1v2 => exact fun _ _ _ h => h
              case hy1v2 =>
                refine Or.inl ⟨by rfl, ?_⟩
                intro w' hSw
                obtain ⟨sV, sx, -⟩ := hSw
                have s2 : w'.cell? ⟨r, 2, none⟩ = some (.int .i64 (TY : Nat)) := by rw [HTY.out.1]; exact sV.b.c2
                clear sV
                go_simp
                try with_reducible rfl
              simp only [Act.put, List.setIfInBounds_toArray, List.set_cons_zero, List.set_cons_succ]
              refine wpAnyH_take (i := 2) (oi := ?o2v2) (v := ?v2v2) ?hi2v2 (by kernel_rfl) (by kernel_rfl) (by kernel_rfl) ?hQ2v2 ?hy2v2 HZ.out ?more2v2
              case hi2v2 => rw [List.getElem?_toArray]; exact rfl
              case hQ2v2 => exact fun _ _ _ h => h
              case hy2v2 =>
                refine Or.inl ⟨by rfl, ?_⟩
                intro w' hSw
                obtain ⟨sV, sx, -⟩ := hSw
                have s2 : w'.cell? ⟨r, 2, none⟩ = some (.int .i64 (TY : Nat)) := by rw [HTY.out.1]; exact sV.b.c2
                clear sV
                go_simp
                try with_reducible rfl
              simp only [Act.put, List.setIfInBounds_toArray, List.set_cons_zero, List.set_cons_succ]
              refine wpAnyH_take (i := 3) (oi := ?o3v2) (v := ?v3v2) ?hi3v2 (by kernel_rfl) (by kernel_rfl) (by kernel_rfl) ?hQ3v2 ?hy3v2 HZ.out ?more3v2
              case hi3v2 => rw [List.getElem?_toArray]; exact rfl
              case hQ3v2 => exact fun _ _ _ h => h
              case hy3v2 =>
                refine Or.inl ⟨by rfl, ?_⟩
                intro w' hSw
                obtain ⟨sV, sx, -⟩ := hSw
                have s2 : w'.cell? ⟨r, 2, none⟩ = some (.int .i64 (TY : Nat)) := by rw [HTY.out.1]; exact sV.b.c2
                clear sV
                go_simp
                try with_reducible rfl
              simp only [Act.put, List.setIfInBounds_toArray, List.set_cons_zero, List.set_cons_succ]
              refine wpAnyH_take (i := 4) (oi := ?o4v2) (v := ?v4v2) ?hi4v2 (by kernel_rfl) (by kernel_rfl) (by kernel_rfl) ?hQ4v2 ?hy4v2 HZ.out ?more4v2
              case hi4v2 => rw [List.getElem?_toArray]; exact rfl
              case hQ4v2 => exact fun _ _ _ h => h
              case hy4v2 =>
                refine Or.inl ⟨by rfl, ?_⟩
                intro w' hSw
                obtain ⟨sV, sx, -⟩ := hSw
                have s2 : w'.cell? ⟨r, 2, none⟩ = some (.int .i64 (TY : Nat)) := by rw [HTY.out.1]; exact sV.b.c2
                clear sV
                go_simp
                try with_reducible rfl
              simp only [Act.put, List.setIfInBounds_toArray, List.set_cons_zero, List.set_cons_succ]
              refine wpAnyH_take (i := 5) (oi := ?o5v2) (v := ?v5v2) ?hi5v2 (by kernel_rfl) (by kernel_rfl) (by kernel_rfl) ?hQ5v2 ?hy5v2 HZ.out ?more5v2
              case hi5v2 => rw [List.getElem?_toArray]; exact rfl
              case hQ5v2 => exact fun _ _ _ h => h
              case hy5v2 =>
                refine Or.inl ⟨by rfl, ?_⟩
                intro w' hSw
                obtain ⟨sV, sx, -⟩ := hSw
                have s2 : w'.cell? ⟨r, 2, none⟩ = some (.int .i64 (TY : Nat)) := by rw [HTY.out.1]; exact sV.b.c2
                clear sV
                go_simp
                try with_reducible rfl
              simp only [Act.put, List.setIfInBounds_toArray, List.set_cons_zero, List.set_cons_succ]
              refine wpAnyH_take (i := 6) (oi := ?o6v2) (v := ?v6v2) ?hi6v2 (by kernel_rfl) (by kernel_rfl) (by kernel_rfl) ?hQ6v2 ?hy6v2 HZ.out ?more6v2
              case hi6v2 => rw [List.getElem?_toArray]; exact rfl
              case hQ6v2 => exact fun _ _ _ h => h
              case hy6v2 =>
                refine Or.inl ⟨by rfl, ?_⟩
                intro w' hSw
                obtain ⟨sV, sx, -⟩ := hSw
                have s2 : w'.cell? ⟨r, 2, none⟩ = some (.int .i64 (TY : Nat)) := by rw [HTY.out.1]; exact sV.b.c2
                clear sV
                go_simp
                try with_reducible rfl
              simp only [Act.put, List.setIfInBounds_toArray, List.set_cons_zero, List.set_cons_succ]
              refine wpAnyH_take (i := 7) (oi := ?o7v2) (v := ?v7v2) ?hi7v2 (by kernel_rfl) (by kernel_rfl) (by kernel_rfl) ?hQ7v2 ?hy7v2 HZ.out ?more7v2
              case hi7v2 => rw [List.getElem?_toArray]; exact rfl
              case hQ7v2 => exact fun _ _ _ h => h
              case hy7v2 =>
                refine Or.inl ⟨by rfl, ?_⟩
                intro w' hSw
                obtain ⟨sV, sx, -⟩ := hSw
                have s2 : w'.cell? ⟨r, 2, none⟩ = some (.int .i64 (TY : Nat)) := by rw [HTY.out.1]; exact sV.b.c2
                clear sV
                go_simp
                try with_reducible rfl
              simp only [Act.put, List.setIfInBounds_toArray, List.set_cons_zero, List.set_cons_succ]
              refine wpAnyH_take (i := 8) (oi := ?o8v2) (v := ?v8v2) ?hi8v2 (by kernel_rfl) (by kernel_rfl) (by kernel_rfl) ?hQ8v2 ?hy8v2 HZ.out ?more8v2
              case hi8v2 => rw [List.getElem?_toArray]; exact rfl
              case hQ8v2 => exact fun _ _ _ h => h
              case hy8v2 =>
                refine Or.inl ⟨by rfl, ?_⟩
                intro w' hSw
                obtain ⟨sV, sx, -⟩ := hSw
                have s2 : w'.cell? ⟨r, 2, none⟩ = some (.int .i64 (TY : Nat)) := by rw [HTY.out.1]; exact sV.b.c2
                clear sV
                go_simp
                try with_reducible rfl
              simp only [Act.put, List.setIfInBounds_toArray, List.set_cons_zero, List.set_cons_succ]
              refine wpAnyH_take (i := 9) (oi := ?o9v2) (v := ?v9v2) ?hi9v2 (by kernel_rfl) (by kernel_rfl) (by kernel_rfl) ?hQ9v2 ?hy9v2 HZ.out ?more9v2
              case hi9v2 => rw [List.getElem?_toArray]; exact rfl
              case hQ9v2 => exact fun _ _ _ h => h
              case hy9v2 =>
                refine Or.inl ⟨by rfl, ?_⟩
                intro w' hSw
                obtain ⟨sV, sx, -⟩ := hSw
                have s2 : w'.cell? ⟨r, 2, none⟩ = some (.int .i64 (TY : Nat)) := by rw [HTY.out.1]; exact sV.b.c2
                clear sV
                go_simp
                try with_reducible rfl
              simp only [Act.put, List.setIfInBounds_toArray, List.set_cons_zero, List.set_cons_succ]
              refine wpAnyH_take (i := 10) (oi := ?o10v2) (v := ?v10v2) ?hi10v2 (by kernel_rfl) (by kernel_rfl) (by kernel_rfl) ?hQ10v2 ?hy10v2 HZ.out ?more10v2
              case hi10v2 => rw [List.getElem?_toArray]; exact rfl
              case hQ10v2 => exact fun _ _ _ h => h
              case hy10v2 =>
                refine Or.inl ⟨by rfl, ?_⟩
                intro w' hSw
                obtain ⟨sV, sx, -⟩ := hSw
                have s2 : w'.cell? ⟨r, 2, none⟩ = some (.int .i64 (TY : Nat)) := by rw [HTY.out.1]; exact sV.b.c2
                clear sV
                go_simp
                try with_reducible rfl
              simp only [Act.put, List.setIfInBounds_toArray, List.set_cons_zero, List.set_cons_succ]
              refine wpAnyH_take (i := 11) (oi := ?o11v2) (v := ?v11v2) ?hi11v2 (by kernel_rfl) (by kernel_rfl) (by kernel_rfl) ?hQ11v2 ?hy11v2 HZ.out ?more11v2
              case hi11v2 => rw [List.getElem?_toArray]; exact rfl
              case hQ11v2 => exact fun _ _ _ h => h
              case hy11v2 =>
                refine Or.inl ⟨by rfl, ?_⟩
                intro w' hSw
                obtain ⟨sV, sx, -⟩ := hSw
                have s2 : w'.cell? ⟨r, 2, none⟩ = some (.int .i64 (TY : Nat)) := by rw [HTY.out.1]; exact sV.b.c2
                clear sV
                go_simp
                try with_reducible rfl
              simp only [Act.put, List.setIfInBounds_toArray, List.set_cons_zero, List.set_cons_succ]
              refine wpAnyH_take (i := 12) (oi := ?o12v2) (v := ?v12v2) ?hi12v2 (by kernel_rfl) (by kernel_rfl) (by kernel_rfl) ?hQ12v2 ?hy12v2 HZ.out ?more12v2
              case hi12v2 => rw [List.getElem?_toArray]; exact rfl
              case hQ12v2 => exact fun _ _ _ h => h
              case hy12v2 =>
                refine Or.inl ⟨by rfl, ?_⟩
                intro w' hSw
                obtain ⟨sV, sx, -⟩ := hSw
                have s2 : w'.cell? ⟨r, 2, none⟩ = some (.int .i64 (TY : Nat)) := by rw [HTY.out.1]; exact sV.b.c2
                clear sV
                go_simp
                try with_reducible rfl
              simp only [Act.put, List.setIfInBounds_toArray, List.set_cons_zero, List.set_cons_succ]
              refine wpAnyH_take (i := 13) (oi := ?o13v2) (v := ?v13v2) ?hi13v2 (by kernel_rfl) (by kernel_rfl) (by kernel_rfl) ?hQ13v2 ?hy13v2 HZ.out ?more13v2
              case hi13v2 => rw [List.getElem?_toArray]; exact rfl
              case hQ13v2 => exact fun _ _ _ h => h
              case hy13v2 =>
                refine Or.inl ⟨by rfl, ?_⟩
                intro w' hSw
                obtain ⟨sV, sx, -⟩ := hSw
                have s2 : w'.cell? ⟨r, 2, none⟩ = some (.int .i64 (TY : Nat)) := by rw [HTY.out.1]; exact sV.b.c2
                clear sV
                go_simp
                try with_reducible rfl
              simp only [Act.put, List.setIfInBounds_toArray, List.set_cons_zero, List.set_cons_succ]
              refine wpAnyH_take (i := 14) (oi := ?o14v2) (v := ?v14v2) ?hi14v2 (by kernel_rfl) (by kernel_rfl) (by kernel_rfl) ?hQ14v2 ?hy14v2 HZ.out ?more14v2
              case hi14v2 => rw [List.getElem?_toArray]; exact rfl
              case hQ14v2 => exact fun _ _ _ h => h
              case hy14v2 =>
                refine Or.inl ⟨by rfl, ?_⟩
                intro w' hSw
                obtain ⟨sV, sx, -⟩ := hSw
                have s2 : w'.cell? ⟨r, 2, none⟩ = some (.int .i64 (TY : Nat)) := by rw [HTY.out.1]; exact sV.b.c2
                clear sV
                go_simp
                try with_reducible rfl
              simp only [Act.put, List.setIfInBounds_toArray, List.set_cons_zero, List.set_cons_succ]
              refine wpAnyH_take (i := 15) (oi := ?o15v2) (v := ?v15v2) ?hi15v2 (by kernel_rfl) (by kernel_rfl) (by kernel_rfl) ?hQ15v2 ?hy15v2 HZ.out ?more15v2
              case hi15v2 => rw [List.getElem?_toArray]; exact rfl
              case hQ15v2 => exact fun _ _ _ h => h
              case hy15v2 =>
                refine Or.inl ⟨by rfl, ?_⟩
                intro w' hSw
                obtain ⟨sV, sx, -⟩ := hSw
                have s2 : w'.cell? ⟨r, 2, none⟩ = some (.int .i64 (TY : Nat)) := by rw [HTY.out.1]; exact sV.b.c2
                clear sV
                go_simp
                try with_reducible rfl
              simp only [Act.put, List.setIfInBounds_toArray, List.set_cons_zero, List.set_cons_succ]
              refine wpAnyH_take (i := 16) (oi := ?o16v2) (v := ?v16v2) ?hi16v2 (by kernel_rfl) (by kernel_rfl) (by kernel_rfl) ?hQ16v2 ?hy16v2 HZ.out ?more16v2
              case hi16v2 => rw [List.getElem?_toArray]; exact rfl
              case hQ16v2 => exact fun _ _ _ h => h
              case hy16v2 =>
                refine Or.inl ⟨by rfl, ?_⟩
                intro w' hSw
                obtain ⟨sV, sx, -⟩ := hSw
                have s2 : w'.cell? ⟨r, 2, none⟩ = some (.int .i64 (TY : Nat)) := by rw [HTY.out.1]; exact sV.b.c2
                clear sV
                go_simp
                try with_reducible rfl
              simp only [Act.put, List.setIfInBounds_toArray, List.set_cons_zero, List.set_cons_succ]
              refine wpAnyH_take (i := 17) (oi := ?o17v2) (v := ?v17v2) ?hi17v2 (by kernel_rfl) (by kernel_rfl) (by kernel_rfl) ?hQ17v2 ?hy17v2 HZ.out ?more17v2
              case hi17v2 => rw [List.getElem?_toArray]; exact rfl
              case hQ17v2 => exact fun _ _ _ h => h
              case hy17v2 =>
                refine Or.inl ⟨by rfl, ?_⟩
                intro w' hSw
                obtain ⟨sV, sx, -⟩ := hSw
                have s2 : w'.cell? ⟨r, 2, none⟩ = some (.int .i64 (TY : Nat)) := by rw [HTY.out.1]; exact sV.b.c2
                clear sV
                go_simp
                try with_reducible rfl
              simp only [Act.put, List.setIfInBounds_toArray, List.set_cons_zero, List.set_cons_succ]
              refine wpAnyH_take (i := 18) (oi := ?o18v2) (v := ?v18v2) ?hi18v2 (by kernel_rfl) (by kernel_rfl) (by kernel_rfl) ?hQ18v2 ?hy18v2 HZ.out ?more18v2
              case hi18v2 => rw [List.getElem?_toArray]; exact rfl
              case hQ18v2 => exact fun _ _ _ h => h
              case hy18v2 =>
                refine Or.inl ⟨by rfl, ?_⟩
                intro w' hSw
                obtain ⟨sV, sx, -⟩ := hSw
                have s2 : w'.cell? ⟨r, 2, none⟩ = some (.int .i64 (TY : Nat)) := by rw [HTY.out.1]; exact sV.b.c2
                clear sV
                go_simp
                try with_reducible rfl
              simp only [Act.put, List.setIfInBounds_toArray, List.set_cons_zero, List.set_cons_succ]
              refine wpAnyH_take (i := 20) (oi := ?o20v2) (v := ?v20v2) ?hi20v2 (by kernel_rfl) (by kernel_rfl) (by kernel_rfl) ?hQ20v2 ?hy20v2 HZ.out ?more20v2
              case hi20v2 => rw [List.getElem?_toArray]; exact rfl
              case hQ20v2 => exact fun _ _ _ h => h
              case hy20v2 =>
                refine Or.inl ⟨by rfl, ?_⟩
                intro w' hSw
                obtain ⟨sV, sx, -⟩ := hSw
                have s2 : w'.cell? ⟨r, 2, none⟩ = some (.int .i64 (TY : Nat)) := by rw [HTY.out.1]; exact sV.b.c2
                clear sV
                go_simp
                try with_reducible rfl
              simp only [Act.put, List.setIfInBounds_toArray, List.set_cons_zero, List.set_cons_succ]
              refine wpAnyH_one (i := 19) (o := ?o19v2) (by kernel_rfl) ?hi19v2 ?hw19v2 ?st19v2
              case hi19v2 => rw [List.getElem?_toArray]; exact rfl
              case hw19v2 => exact rfl
              intro K hK
              have HK19v2 : Hid _ := hK
              clear hK
              go_simp
              refine (KS.out _ HZ.out.1.a).mono ?_
              rintro e w19 ⟨a19, c19, rfl, hI19, hb19⟩
              have H19 : Hid ((fun w' => Two14 w w' g r q cap y n s ∧ w'.cell? ⟨xb, 1, none⟩ = some (.int .i64 ((k : Nat) : Int)) ∧ xb < w'.heap.size) w19) := ⟨HZ.out.1.call hb19, (hb19.cell (p := ⟨xb, 1, none⟩) HZ.out.2.2).trans HZ.out.2.1, Nat.lt_of_lt_of_le HZ.out.2.2 hb19.size⟩
              have HI19 : Hid (IntsAt w19 a19 LS) := hI19
              clear hb19 hI19
              go_wp2_with fail
              refine HK19v2.out _ _ ⟨H19.out, ?_⟩
              clear HK19v2 K
              try simp only [Act.put, List.setIfInBounds_toArray, List.set_cons_zero, List.set_cons_succ]
              refine wpAnyH_one (i := 21) (o := ?o21v2) (by kernel_rfl) ?hi21v2 ?hw21v2 ?st21v2
              case hi21v2 => rw [List.getElem?_toArray]; exact rfl
              case hw21v2 => exact rfl
              intro K hK
              have HK21v2 : Hid _ := hK
              clear hK
              go_simp
              refine (KR.out _ H19.out.1.b).mono ?_
              rintro e w21 ⟨a21, c21, rfl, hI21, hb21⟩
              have H21 : Hid ((fun w' => Two14 w w' g r q cap y n s ∧ w'.cell? ⟨xb, 1, none⟩ = some (.int .i64 ((k : Nat) : Int)) ∧ xb < w'.heap.size) w21) := ⟨H19.out.1.call hb21, (hb21.cell (p := ⟨xb, 1, none⟩) H19.out.2.2).trans H19.out.2.1, Nat.lt_of_lt_of_le H19.out.2.2 hb21.size⟩
              have HI21 : Hid (IntsAt w21 a19 LS ∧ IntsAt w21 a21 LS) := ⟨HI19.out.call hb21, hI21⟩
              clear hb21 hI21 HI19
              go_wp2_with fail
              refine HK21v2.out _ _ ⟨H21.out, ?_⟩
              clear HK21v2 K
              try simp only [Act.put, List.setIfInBounds_toArray, List.set_cons_zero, List.set_cons_succ]
              refine wpAnyH_one (i := 22) (o := ?o22v2) (by kernel_rfl) ?hi22v2 ?hw22v2 ?st22v2
              case hi22v2 => rw [List.getElem?_toArray]; exact rfl
              case hw22v2 => exact rfl
              intro K hK
              have HK22v2 : Hid _ := hK
              clear hK
              go_simp
              refine (KI.out _ _ _ _ _ HI21.out.1 HI21.out.2).mono ?_
              rintro e w22 ⟨rfl, hb22⟩
              have H22 : Hid ((fun w' => Two14 w w' g r q cap y n s ∧ w'.cell? ⟨xb, 1, none⟩ = some (.int .i64 ((k : Nat) : Int)) ∧ xb < w'.heap.size) w22) := ⟨H21.out.1.call hb22, (hb22.cell (p := ⟨xb, 1, none⟩) H21.out.2.2).trans H21.out.2.1, Nat.lt_of_lt_of_le H21.out.2.2 hb22.size⟩
              clear hb22 HI21
              go_wp2_with fail
              refine HK22v2.out _ _ ⟨H22.out, ?_⟩
              clear HK22v2 K
              try simp only [Act.put, List.setIfInBounds_toArray, List.set_cons_zero, List.set_cons_succ]
              refine wpAnyH_take (i := 23) (oi := ?o23v2) (v := ?v23v2) ?hi23v2 (by kernel_rfl) (by kernel_rfl) (by kernel_rfl) ?hQ23v2 ?hy23v2 H22.out ?more23v2
              case hi23v2 => rw [List.getElem?_toArray]; exact rfl
              case hQ23v2 => exact fun _ _ _ h => h
              case hy23v2 =>
                refine Or.inl ⟨by rfl, ?_⟩
                intro w' hSw
                obtain ⟨sV, sx, -⟩ := hSw
                have s2 : w'.cell? ⟨r, 2, none⟩ = some (.int .i64 (TY : Nat)) := by rw [HTY.out.1]; exact sV.b.c2
                clear sV
                go_simp
                try with_reducible rfl
              simp only [Act.put, List.setIfInBounds_toArray, List.set_cons_zero, List.set_cons_succ]
              refine wpAnyH_take (i := 24) (oi := ?o24v2) (v := ?v24v2) ?hi24v2 (by kernel_rfl) (by kernel_rfl) (by kernel_rfl) ?hQ24v2 ?hy24v2 H22.out ?more24v2
              case hi24v2 => rw [List.getElem?_toArray]; exact rfl
              case hQ24v2 => exact fun _ _ _ h => h
              case hy24v2 =>
                refine Or.inl ⟨by rfl, ?_⟩
                intro w' hSw
                obtain ⟨sV, sx, -⟩ := hSw
                have s2 : w'.cell? ⟨r, 2, none⟩ = some (.int .i64 (TY : Nat)) := by rw [HTY.out.1]; exact sV.b.c2
                clear sV
                go_simp
                try with_reducible rfl
              simp only [Act.put, List.setIfInBounds_toArray, List.set_cons_zero, List.set_cons_succ]
              refine wpAnyH_take (i := 25) (oi := ?o25v2) (v := ?v25v2) ?hi25v2 (by kernel_rfl) (by kernel_rfl) (by kernel_rfl) ?hQ25v2 ?hy25v2 H22.out ?more25v2
              case hi25v2 => rw [List.getElem?_toArray]; exact rfl
              case hQ25v2 => exact fun _ _ _ h => h
              case hy25v2 =>
                refine Or.inl ⟨by rfl, ?_⟩
                intro w' hSw
                obtain ⟨sV, sx, -⟩ := hSw
                have s2 : w'.cell? ⟨r, 2, none⟩ = some (.int .i64 (TY : Nat)) := by rw [HTY.out.1]; exact sV.b.c2
                clear sV
                go_simp
                try with_reducible rfl
              simp only [Act.put, List.setIfInBounds_toArray, List.set_cons_zero, List.set_cons_succ]
              refine wpAnyH_take (i := 26) (oi := ?o26v2) (v := ?v26v2) ?hi26v2 (by kernel_rfl) (by kernel_rfl) (by kernel_rfl) ?hQ26v2 ?hy26v2 H22.out ?more26v2
              case hi26v2 => rw [List.getElem?_toArray]; exact rfl
              case hQ26v2 => exact fun _ _ _ h => h
              case hy26v2 =>
                refine Or.inl ⟨by rfl, ?_⟩
                intro w' hSw
                obtain ⟨sV, sx, -⟩ := hSw
                have s2 : w'.cell? ⟨r, 2, none⟩ = some (.int .i64 (TY : Nat)) := by rw [HTY.out.1]; exact sV.b.c2
                clear sV
                go_simp
                try with_reducible rfl
              simp only [Act.put, List.setIfInBounds_toArray, List.set_cons_zero, List.set_cons_succ]
              refine wpAnyH_take (i := 28) (oi := ?o28v2) (v := ?v28v2) ?hi28v2 (by kernel_rfl) (by kernel_rfl) (by kernel_rfl) ?hQ28v2 ?hy28v2 H22.out ?more28v2
              case hi28v2 => rw [List.getElem?_toArray]; exact rfl
              case hQ28v2 => exact fun _ _ _ h => h
              case hy28v2 =>
                refine Or.inl ⟨by rfl, ?_⟩
                intro w' hSw
                obtain ⟨sV, sx, -⟩ := hSw
                have s2 : w'.cell? ⟨r, 2, none⟩ = some (.int .i64 (TY : Nat)) := by rw [HTY.out.1]; exact sV.b.c2
                clear sV
                go_simp
                try with_reducible rfl
              simp only [Act.put, List.setIfInBounds_toArray, List.set_cons_zero, List.set_cons_succ]
              refine wpAnyH_take (i := 29) (oi := ?o29v2) (v := ?v29v2) ?hi29v2 (by kernel_rfl) (by kernel_rfl) (by kernel_rfl) ?hQ29v2 ?hy29v2 H22.out ?more29v2
              case hi29v2 => rw [List.getElem?_toArray]; exact rfl
              case hQ29v2 => exact fun _ _ _ h => h
              case hy29v2 =>
                refine Or.inl ⟨by rfl, ?_⟩
                intro w' hSw
                obtain ⟨sV, sx, -⟩ := hSw
                have s2 : w'.cell? ⟨r, 2, none⟩ = some (.int .i64 (TY : Nat)) := by rw [HTY.out.1]; exact sV.b.c2
                clear sV
                go_simp
                try with_reducible rfl
              simp only [Act.put, List.setIfInBounds_toArray, List.set_cons_zero, List.set_cons_succ]
              refine wpAnyH_take (i := 30) (oi := ?o30v2) (v := ?v30v2) ?hi30v2 (by kernel_rfl) (by kernel_rfl) (by kernel_rfl) ?hQ30v2 ?hy30v2 H22.out ?more30v2
              case hi30v2 => rw [List.getElem?_toArray]; exact rfl
              case hQ30v2 => exact fun _ _ _ h => h
              case hy30v2 =>
                refine Or.inl ⟨by rfl, ?_⟩
                intro w' hSw
                obtain ⟨sV, sx, -⟩ := hSw
                have s2 : w'.cell? ⟨r, 2, none⟩ = some (.int .i64 (TY : Nat)) := by rw [HTY.out.1]; exact sV.b.c2
                clear sV
                go_simp
                try with_reducible rfl
              simp only [Act.put, List.setIfInBounds_toArray, List.set_cons_zero, List.set_cons_succ]
              refine wpAnyH_take (i := 31) (oi := ?o31v2) (v := ?v31v2) ?hi31v2 (by kernel_rfl) (by kernel_rfl) (by kernel_rfl) ?hQ31v2 ?hy31v2 H22.out ?more31v2
              case hi31v2 => rw [List.getElem?_toArray]; exact rfl
              case hQ31v2 => exact fun _ _ _ h => h
              case hy31v2 =>
                refine Or.inl ⟨by rfl, ?_⟩
                intro w' hSw
                obtain ⟨sV, sx, -⟩ := hSw
                have s2 : w'.cell? ⟨r, 2, none⟩ = some (.int .i64 (TY : Nat)) := by rw [HTY.out.1]; exact sV.b.c2
                clear sV
                go_simp
                try with_reducible rfl
              simp only [Act.put, List.setIfInBounds_toArray, List.set_cons_zero, List.set_cons_succ]
              refine wpAnyH_one (i := 27) (o := ?o27v2) (by kernel_rfl) ?hi27v2 ?hw27v2 ?st27v2
              case hi27v2 => rw [List.getElem?_toArray]; exact rfl
              case hw27v2 => exact rfl
              intro K hK
              have HK27v2 : Hid _ := hK
              clear hK
              go_simp
              refine (KN.out _ H22.out.1.a).mono ?_
              rintro e w27 ⟨rfl, h27⟩
              have H27 : Hid ((fun w' => Two14 w w' g r q cap y n s ∧ w'.cell? ⟨xb, 1, none⟩ = some (.int .i64 ((k : Nat) : Int)) ∧ xb < w'.heap.size) w27) := by rw [h27]; exact H22.out
              clear h27
              go_wp2_with fail
              refine HK27v2.out _ _ ⟨H27.out, ?_⟩
              clear HK27v2 K
              try simp only [Act.put, List.setIfInBounds_toArray, List.set_cons_zero, List.set_cons_succ]
              refine wpAnyH_take (i := 32) (oi := ?o32v2) (v := ?v32v2) ?hi32v2 (by kernel_rfl) (by kernel_rfl) (by kernel_rfl) ?hQ32v2 ?hy32v2 H27.out ?more32v2
              case hi32v2 => rw [List.getElem?_toArray]; exact rfl
              case hQ32v2 => exact fun _ _ _ h => h
              case hy32v2 =>
                refine Or.inl ⟨by rfl, ?_⟩
                intro w' hSw
                obtain ⟨sV, sx, -⟩ := hSw
                have s2 : w'.cell? ⟨r, 2, none⟩ = some (.int .i64 (TY : Nat)) := by rw [HTY.out.1]; exact sV.b.c2
                clear sV
                go_simp
                try with_reducible rfl
              simp only [Act.put, List.setIfInBounds_toArray, List.set_cons_zero, List.set_cons_succ]
              refine wpAnyH_take (i := 33) (oi := ?o33v2) (v := ?v33v2) ?hi33v2 (by kernel_rfl) (by kernel_rfl) (by kernel_rfl) ?hQ33v2 ?hy33v2 H27.out ?more33v2
              case hi33v2 => rw [List.getElem?_toArray]; exact rfl
              case hQ33v2 => exact fun _ _ _ h => h
              case hy33v2 =>
                refine Or.inl ⟨by rfl, ?_⟩
                intro w' hSw
                obtain ⟨sV, sx, -⟩ := hSw
                have s2 : w'.cell? ⟨r, 2, none⟩ = some (.int .i64 (TY : Nat)) := by rw [HTY.out.1]; exact sV.b.c2
                clear sV
                go_simp
                try with_reducible rfl
              simp only [Act.put, List.setIfInBounds_toArray, List.set_cons_zero, List.set_cons_succ]
              refine wpAnyH_done (by kernel_rfl) ?_ _
              go_wp2_with fail
              go_roundw
              case rel => first | exact ⟨i + 1, y, HL.out, by go_num, H27.out.1⟩ | ((repeat apply Exists.intro); exact ⟨⟨i + 1, y, HL.out, by go_num, H27.out.1⟩, rfl⟩)
              case measure => have h1 := HL.out; simp [Go.RowKit.intOf]; omega
          · as_aux_lemma =>
              have KT : Hid (∀ w', WatchAt w' g y → Calls Try.prog 17 #[.pointer (some ⟨g, 0, none⟩), .int .i64 N] w' fun e w'' => e = .returned (.tuple #[.int .i64 0, .int .i64 1]) ∧ w'' = w') :=
                fun w' h => timeout_no g y N (by rw [HY2.out.1.n]; exact hN) w' h
              clear hV
              by_cases hN1 : 1 ≤ N
              · have d1 : decide ((1 : Int) ≤ N) = true := decide_eq_true hN1
                have n2 : ¬ (N ≤ (n : Nat)) := by omega
                have d2 : decide (N ≤ ((n : Nat) : Int)) = false := decide_eq_false n2
                clear hN
                go_wp2_with fail
                refine (KT.out _ HY2.out.1.a).mono ?_
                rintro e w6 ⟨rfl, h6⟩
                subst h6
                go_wp2_with fail
                have HZ : Hid (Two14 w w6.drew g r q cap y n s ∧ w6.drew.cell? ⟨xb, 1, none⟩ = some (.int .i64 N) ∧ xb < w6.drew.heap.size) := ⟨HY2.out.1.call (Below.refl _ _).drew, x1, HY2.out.2⟩
                clear x1
                refine wp_region_H (fun w' => Two14 w w' g r q cap y n s ∧ w'.cell? ⟨xb, 1, none⟩ = some (.int .i64 N) ∧ xb < w'.heap.size) 34 rfl (by kernel_rfl) ?_
                refine wpAnyH_take (i := 0) (oi := ?o0v3) (v := ?v0v3) ?hi0v3 (by kernel_rfl) (by kernel_rfl) (by kernel_rfl) ?hQ0v3 ?hy0v3 HZ.out ?more0v3
                case hi0v3 => rw [List.getElem?_toArray]; exact rfl
                case hQ0v3 => exact fun _ _ _ h => h
                case hy0v3 =>
                  refine Or.inl ⟨by rfl, ?_⟩
                  intro w' hSw
                  obtain ⟨sV, sx, -⟩ := hSw
                  have s2 : w'.cell? ⟨r, 2, none⟩ = some (.int .i64 (TY : Nat)) := by rw [HTY.out.1]; exact sV.b.c2
                  clear sV
                  go_simp
                  try with_reducible rfl
                simp only [Act.put, List.setIfInBounds_toArray, List.set_cons_zero, List.set_cons_succ]
                refine wpAnyH_take (i := 1) (oi := ?o1v3) (v := ?v1v3) ?hi1v3 (by kernel_rfl) (by kernel_rfl) (by kernel_rfl) ?hQ1v3 ?hy1v3 HZ.out ?more1v3
                case hi1v3 => rw [List.getElem?_toArray]; exact rfl
                case hQ1v3 => exact fun _ _ _ h => h
                case hy1v3 =>
                  refine Or.inl ⟨by rfl, ?_⟩
                  intro w' hSw
                  obtain ⟨sV, sx, -⟩ := hSw
                  have s2 : w'.cell? ⟨r, 2, none⟩ = some (.int .i64 (TY : Nat)) := by rw [HTY.out.1]; exact sV.b.c2
                  clear sV
                  go_simp
                  try with_reducible rfl
                simp only [Act.put, List.setIfInBounds_toArray, List.set_cons_zero, List.set_cons_succ]
                refine wpAnyH_take (i := 2) (oi := ?o2v3) (v := ?v2v3) ?hi2v3 (by kernel_rfl) (by kernel_rfl) (by kernel_rfl) ?hQ2v3 ?hy2v3 HZ.out ?more2v3
                case hi2v3 => rw [List.getElem?_toArray]; exact rfl
                case hQ2v3 => exact fun _ _ _ h => h
                case hy2v3 =>
                  refine Or.inl ⟨by rfl, ?_⟩
                  intro w' hSw
                  obtain ⟨sV, sx, -⟩ := hSw
                  have s2 : w'.cell? ⟨r, 2, none⟩ = some (.int .i64 (TY : Nat)) := by rw [HTY.out.1]; exact sV.b.c2
                  clear sV
                  go_simp
                  try with_reducible rfl
                simp only [Act.put, List.setIfInBounds_toArray, List.set_cons_zero, List.set_cons_succ]
                refine wpAnyH_take (i := 3) (oi := ?o3v3) (v := ?v3v3) ?hi3v3 (by kernel_rfl) (by kernel_rfl) (by kernel_rfl) ?hQ3v3 ?hy3v3 HZ.out ?more3v3
                case hi3v3 => rw [List.getElem?_toArray]; exact rfl
                case hQ3v3 => exact fun _ _ _ h => h
                case hy3v3 =>
                  refine Or.inl ⟨by rfl, ?_⟩
                  intro w' hSw
                  obtain ⟨sV, sx, -⟩ := hSw
                  have s2 : w'.cell? ⟨r, 2, none⟩ = some (.int .i64 (TY : Nat)) := by rw [HTY.out.1]; exact sV.b.c2
                  clear sV
                  go_simp
                  try with_reducible rfl
                simp only [Act.put, List.setIfInBounds_toArray, List.set_cons_zero, List.set_cons_succ]
                refine wpAnyH_take (i := 4) (oi := ?o4v3) (v := ?v4v3) ?hi4v3 (by kernel_rfl) (by kernel_rfl) (by kernel_rfl) ?hQ4v3 ?hy4v3 HZ.out ?more4v3
                case hi4v3 => rw [List.getElem?_toArray]; exact rfl
                case hQ4v3 => exact fun _ _ _ h => h
                case hy4v3 =>
                  refine Or.inl ⟨by rfl, ?_⟩
                  intro w' hSw
                  obtain ⟨sV, sx, -⟩ := hSw
                  have s2 : w'.cell? ⟨r, 2, none⟩ = some (.int .i64 (TY : Nat)) := by rw [HTY.out.1]; exact sV.b.c2
                  clear sV
                  go_simp
                  try with_reducible rfl
                simp only [Act.put, List.setIfInBounds_toArray, List.set_cons_zero, List.set_cons_succ]
                refine wpAnyH_take (i := 5) (oi := ?o5v3) (v := ?v5v3) ?hi5v3 (by kernel_rfl) (by kernel_rfl) (by kernel_rfl) ?hQ5v3 ?hy5v3 HZ.out ?more5v3
                case hi5v3 => rw [List.getElem?_toArray]; exact rfl
                case hQ5v3 => exact fun _ _ _ h => h
                case hy5v3 =>
                  refine Or.inl ⟨by rfl, ?_⟩
                  intro w' hSw
                  obtain ⟨sV, sx, -⟩ := hSw
                  have s2 : w'.cell? ⟨r, 2, none⟩ = some (.int .i64 (TY : Nat)) := by rw [HTY.out.1]; exact sV.b.c2
                  clear sV
                  go_simp
                  try with_reducible rfl
                simp only [Act.put, List.setIfInBounds_toArray, List.set_cons_zero, List.set_cons_succ]
                refine wpAnyH_take (i := 6) (oi := ?o6v3) (v := ?v6v3) ?hi6v3 (by kernel_rfl) (by kernel_rfl) (by kernel_rfl) ?hQ6v3 ?hy6v3 HZ.out ?more6v3
                case hi6v3 => rw [List.getElem?_toArray]; exact rfl
                case hQ6v3 => exact fun _ _ _ h => h
                case hy6v3 =>
                  refine Or.inl ⟨by rfl, ?_⟩
                  intro w' hSw
                  obtain ⟨sV, sx, -⟩ := hSw
                  have s2 : w'.cell? ⟨r, 2, none⟩ = some (.int .i64 (TY : Nat)) := by rw [HTY.out.1]; exact sV.b.c2
                  clear sV
                  go_simp
                  try with_reducible rfl
                simp only [Act.put, List.setIfInBounds_toArray, List.set_cons_zero, List.set_cons_succ]
                refine wpAnyH_take (i := 7) (oi := ?o7v3) (v := ?v7v3) ?hi7v3 (by kernel_rfl) (by kernel_rfl) (by kernel_rfl) ?hQ7v3 ?hy7v3 HZ.out ?more7v3
                case hi7v3 => rw [List.getElem?_toArray]; exact rfl
                case hQ7v3 => exact fun _ _ _ h => h
                case hy7v3 =>
                  refine Or.inl ⟨by rfl, ?_⟩
                  intro w' hSw
                  obtain ⟨sV, sx, -⟩ := hSw
                  have s2 : w'.cell? ⟨r, 2, none⟩ = some (.int .i64 (TY : Nat)) := by rw [HTY.out.1]; exact sV.b.c2
                  clear sV
                  go_simp
                  try with_reducible rfl
                simp only [Act.put, List.setIfInBounds_toArray, List.set_cons_zero, List.set_cons_succ]
                refine wpAnyH_take (i := 8) (oi := ?o8v3) (v := ?v8v3) ?hi8v3 (by kernel_rfl) (by kernel_rfl) (by kernel_rfl) ?hQ8v3 ?hy8v3 HZ.out ?more8v3
                case hi8v3 => rw [List.getElem?_toArray]; exact rfl
                case hQ8v3 => exact fun _ _ _ h => h
                case hy8v3 =>
                  refine Or.inl ⟨by rfl, ?_⟩
                  intro w' hSw
                  obtain ⟨sV, sx, -⟩ := hSw
                  have s2 : w'.cell? ⟨r, 2, none⟩ = some (.int .i64 (TY : Nat)) := by rw [HTY.out.1]; exact sV.b.c2
                  clear sV
                  go_simp
                  try with_reducible rfl
                simp only [Act.put, List.setIfInBounds_toArray, List.set_cons_zero, List.set_cons_succ]
                refine wpAnyH_take (i := 9) (oi := ?o9v3) (v := ?v9v3) ?hi9v3 (by kernel_rfl) (by kernel_rfl) (by kernel_rfl) ?hQ9v3 ?hy9v3 HZ.out ?more9v3
                case hi9v3 => rw [List.getElem?_toArray]; exact rfl
                case hQ9v3 => exact fun _ _ _ h => h
                case hy9v3 =>
                  refine Or.inl ⟨by rfl, ?_⟩
                  intro w' hSw
                  obtain ⟨sV, sx, -⟩ := hSw
                  have s2 : w'.cell? ⟨r, 2, none⟩ = some (.int .i64 (TY : Nat)) := by rw [HTY.out.1]; exact sV.b.c2
                  clear sV
                  go_simp
                  try with_reducible rfl
                simp only [Act.put, List.setIfInBounds_toArray, List.set_cons_zero, List.set_cons_succ]
                refine wpAnyH_take (i := 10) (oi := ?o10v3) (v := ?v10v3) ?hi10v3 (by kernel_rfl) (by kernel_rfl) (by kernel_rfl) ?hQ10v3 ?hy10v3 HZ.out ?more10v3
                case hi10v3 => rw [List.getElem?_toArray]; exact rfl
                case hQ10v3 => exact fun _ _ _ h => h
                case hy10v3 =>
                  refine Or.inl ⟨by rfl, ?_⟩
                  intro w' hSw
                  obtain ⟨sV, sx, -⟩ := hSw
                  have s2 : w'.cell? ⟨r, 2, none⟩ = some (.int .i64 (TY : Nat)) := by rw [HTY.out.1]; exact sV.b.c2
                  clear sV
                  go_simp
                  try with_reducible rfl
                simp only [Act.put, List.setIfInBounds_toArray, List.set_cons_zero, List.set_cons_succ]
                refine wpAnyH_take (i := 11) (oi := ?o11v3) (v := ?v11v3) ?hi11v3 (by kernel_rfl) (by kernel_rfl) (by kernel_rfl) ?hQ11v3 ?hy11v3 HZ.out ?more11v3
                case hi11v3 => rw [List.getElem?_toArray]; exact rfl
                case hQ11v3 => exact fun _ _ _ h => h
                case hy11v3 =>
                  refine Or.inl ⟨by rfl, ?_⟩
                  intro w' hSw
                  obtain ⟨sV, sx, -⟩ := hSw
                  have s2 : w'.cell? ⟨r, 2, none⟩ = some (.int .i64 (TY : Nat)) := by rw [HTY.out.1]; exact sV.b.c2
                  clear sV
                  go_simp
                  try with_reducible rfl
                simp only [Act.put, List.setIfInBounds_toArray, List.set_cons_zero, List.set_cons_succ]
                refine wpAnyH_take (i := 12) (oi := ?o12v3) (v := ?v12v3) ?hi12v3 (by kernel_rfl) (by kernel_rfl) (by kernel_rfl) ?hQ12v3 ?hy12v3 HZ.out ?more12v3
                case hi12v3 => rw [List.getElem?_toArray]; exact rfl
                case hQ12v3 => exact fun _ _ _ h => h
                case hy12v3 =>
                  refine Or.inl ⟨by rfl, ?_⟩
                  intro w' hSw
                  obtain ⟨sV, sx, -⟩ := hSw
                  have s2 : w'.cell? ⟨r, 2, none⟩ = some (.int .i64 (TY : Nat)) := by rw [HTY.out.1]; exact sV.b.c2
                  clear sV
                  go_simp
                  try with_reducible rfl
                simp only [Act.put, List.setIfInBounds_toArray, List.set_cons_zero, List.set_cons_succ]
                refine wpAnyH_take (i := 13) (oi := ?o13v3) (v := ?v13v3) ?hi13v3 (by kernel_rfl) (by kernel_rfl) (by kernel_rfl) ?hQ13v3 ?hy13v3 HZ.out ?more13v3
                case hi13v3 => rw [List.getElem?_toArray]; exact rfl
                case hQ13v3 => exact fun _ _ _ h => h
                case hy13v3 =>
                  refine Or.inl ⟨by rfl, ?_⟩
                  intro w' hSw
                  obtain ⟨sV, sx, -⟩ := hSw
                  have s2 : w'.cell? ⟨r, 2, none⟩ = some (.int .i64 (TY : Nat)) := by rw [HTY.out.1]; exact sV.b.c2
                  clear sV
                  go_simp
                  try with_reducible rfl
                simp only [Act.put, List.setIfInBounds_toArray, List.set_cons_zero, List.set_cons_succ]
                refine wpAnyH_take (i := 14) (oi := ?o14v3) (v := ?v14v3) ?hi14v3 (by kernel_rfl) (by kernel_rfl) (by kernel_rfl) ?hQ14v3 ?hy14v3 HZ.out ?more14v3
                case hi14v3 => rw [List.getElem?_toArray]; exact rfl
                case hQ14v3 => exact fun _ _ _ h => h
                case hy14v3 =>
                  refine Or.inl ⟨by rfl, ?_⟩
                  intro w' hSw
                  obtain ⟨sV, sx, -⟩ := hSw
                  have s2 : w'.cell? ⟨r, 2, none⟩ = some (.int .i64 (TY : Nat)) := by rw [HTY.out.1]; exact sV.b.c2
                  clear sV
                  go_simp
                  try with_reducible rfl
                simp only [Act.put, List.setIfInBounds_toArray, List.set_cons_zero, List.set_cons_succ]
                refine wpAnyH_take (i := 15) (oi := ?o15v3) (v := ?v15v3) ?hi15v3 (by kernel_rfl) (by kernel_rfl) (by kernel_rfl) ?hQ15v3 ?hy15v3 HZ.out ?more15v3
                case hi15v3 => rw [List.getElem?_toArray]; exact rfl
                case hQ15v3 => exact fun _ _ _ h => h
                case hy15v3 =>
                  refine Or.inl ⟨by rfl, ?_⟩
                  intro w' hSw
                  obtain ⟨sV, sx, -⟩ := hSw
                  have s2 : w'.cell? ⟨r, 2, none⟩ = some (.int .i64 (TY : Nat)) := by rw [HTY.out.1]; exact sV.b.c2
                  clear sV
                  go_simp
                  try with_reducible rfl
                simp only [Act.put, List.setIfInBounds_toArray, List.set_cons_zero, List.set_cons_succ]
                refine wpAnyH_take (i := 16) (oi := ?o16v3) (v := ?v16v3) ?hi16v3 (by kernel_rfl) (by kernel_rfl) (by kernel_rfl) ?hQ16v3 ?hy16v3 HZ.out ?more16v3
                case hi16v3 => rw [List.getElem?_toArray]; exact rfl
                case hQ16v3 => exact fun _ _ _ h => h
                case hy16v3 =>
                  refine Or.inl ⟨by rfl, ?_⟩
                  intro w' hSw
                  obtain ⟨sV, sx, -⟩ := hSw
                  have s2 : w'.cell? ⟨r, 2, none⟩ = some (.int .i64 (TY : Nat)) := by rw [HTY.out.1]; exact sV.b.c2
                  clear sV
                  go_simp
                  try with_reducible rfl
                simp only [Act.put, List.setIfInBounds_toArray, List.set_cons_zero, List.set_cons_succ]
                refine wpAnyH_take (i := 17) (oi := ?o17v3) (v := ?v17v3) ?hi17v3 (by kernel_rfl) (by kernel_rfl) (by kernel_rfl) ?hQ17v3 ?hy17v3 HZ.out ?more17v3
                case hi17v3 => rw [List.getElem?_toArray]; exact rfl
                case hQ17v3 => exact fun _ _ _ h => h
                case hy17v3 =>
                  refine Or.inl ⟨by rfl, ?_⟩
                  intro w' hSw
                  obtain ⟨sV, sx, -⟩ := hSw
                  have s2 : w'.cell? ⟨r, 2, none⟩ = some (.int .i64 (TY : Nat)) := by rw [HTY.out.1]; exact sV.b.c2
                  clear sV
                  go_simp
                  try with_reducible rfl
                simp only [Act.put, List.setIfInBounds_toArray, List.set_cons_zero, List.set_cons_succ]
                refine wpAnyH_take (i := 18) (oi := ?o18v3) (v := ?v18v3) ?hi18v3 (by kernel_rfl) (by kernel_rfl) (by kernel_rfl) ?hQ18v3 ?hy18v3 HZ.out ?more18v3
                case hi18v3 => rw [List.getElem?_toArray]; exact rfl
                case hQ18v3 => exact fun _ _ _ h => h
                case hy18v3 =>
                  refine Or.inl ⟨by rfl, ?_⟩
                  intro w' hSw
                  obtain ⟨sV, sx, -⟩ := hSw
                  have s2 : w'.cell? ⟨r, 2, none⟩ = some (.int .i64 (TY : Nat)) := by rw [HTY.out.1]; exact sV.b.c2
                  clear sV
                  go_simp
                  try with_reducible rfl
                simp only [Act.put, List.setIfInBounds_toArray, List.set_cons_zero, List.set_cons_succ]
                refine wpAnyH_take (i := 20) (oi := ?o20v3) (v := ?v20v3) ?hi20v3 (by kernel_rfl) (by kernel_rfl) (by kernel_rfl) ?hQ20v3 ?hy20v3 HZ.out ?more20v3
                case hi20v3 => rw [List.getElem?_toArray]; exact rfl
                case hQ20v3 => exact fun _ _ _ h => h
                case hy20v3 =>
                  refine Or.inl ⟨by rfl, ?_⟩
                  intro w' hSw
                  obtain ⟨sV, sx, -⟩ := hSw
                  have s2 : w'.cell? ⟨r, 2, none⟩ = some (.int .i64 (TY : Nat)) := by rw [HTY.out.1]; exact sV.b.c2
                  clear sV
                  go_simp
                  try with_reducible rfl
                simp only [Act.put, List.setIfInBounds_toArray, List.set_cons_zero, List.set_cons_succ]
                refine wpAnyH_one (i := 19) (o := ?o19v3) (by kernel_rfl) ?hi19v3 ?hw19v3 ?st19v3
                case hi19v3 => rw [List.getElem?_toArray]; exact rfl
                case hw19v3 => exact rfl
                intro K hK
                have HK19v3 : Hid _ := hK
                clear hK
                go_simp
                refine (KS.out _ HZ.out.1.a).mono ?_
                rintro e w19 ⟨a19, c19, rfl, hI19, hb19⟩
                have H19 : Hid ((fun w' => Two14 w w' g r q cap y n s ∧ w'.cell? ⟨xb, 1, none⟩ = some (.int .i64 N) ∧ xb < w'.heap.size) w19) := ⟨HZ.out.1.call hb19, (hb19.cell (p := ⟨xb, 1, none⟩) HZ.out.2.2).trans HZ.out.2.1, Nat.lt_of_lt_of_le HZ.out.2.2 hb19.size⟩
                have HI19 : Hid (IntsAt w19 a19 LS) := hI19
                clear hb19 hI19
                go_wp2_with fail
                refine HK19v3.out _ _ ⟨H19.out, ?_⟩
                clear HK19v3 K
                try simp only [Act.put, List.setIfInBounds_toArray, List.set_cons_zero, List.set_cons_succ]
                refine wpAnyH_one (i := 21) (o := ?o21v3) (by kernel_rfl) ?hi21v3 ?hw21v3 ?st21v3
                case hi21v3 => rw [List.getElem?_toArray]; exact rfl
                case hw21v3 => exact rfl
                intro K hK
                have HK21v3 : Hid _ := hK
                clear hK
                go_simp
                refine (KR.out _ H19.out.1.b).mono ?_
                rintro e w21 ⟨a21, c21, rfl, hI21, hb21⟩
                have H21 : Hid ((fun w' => Two14 w w' g r q cap y n s ∧ w'.cell? ⟨xb, 1, none⟩ = some (.int .i64 N) ∧ xb < w'.heap.size) w21) := ⟨H19.out.1.call hb21, (hb21.cell (p := ⟨xb, 1, none⟩) H19.out.2.2).trans H19.out.2.1, Nat.lt_of_lt_of_le H19.out.2.2 hb21.size⟩
                have HI21 : Hid (IntsAt w21 a19 LS ∧ IntsAt w21 a21 LS) := ⟨HI19.out.call hb21, hI21⟩
                clear hb21 hI21 HI19
                go_wp2_with fail
                refine HK21v3.out _ _ ⟨H21.out, ?_⟩
                clear HK21v3 K
                try simp only [Act.put, List.setIfInBounds_toArray, List.set_cons_zero, List.set_cons_succ]
                refine wpAnyH_one (i := 22) (o := ?o22v3) (by kernel_rfl) ?hi22v3 ?hw22v3 ?st22v3
                case hi22v3 => rw [List.getElem?_toArray]; exact rfl
                case hw22v3 => exact rfl
                intro K hK
                have HK22v3 : Hid _ := hK
                clear hK
                go_simp
                refine (KI.out _ _ _ _ _ HI21.out.1 HI21.out.2).mono ?_
                rintro e w22 ⟨rfl, hb22⟩
                have H22 : Hid ((fun w' => Two14 w w' g r q cap y n s ∧ w'.cell? ⟨xb, 1, none⟩ = some (.int .i64 N) ∧ xb < w'.heap.size) w22) := ⟨H21.out.1.call hb22, (hb22.cell (p := ⟨xb, 1, none⟩) H21.out.2.2).trans H21.out.2.1, Nat.lt_of_lt_of_le H21.out.2.2 hb22.size⟩
                clear hb22 HI21
                go_wp2_with fail
                refine HK22v3.out _ _ ⟨H22.out, ?_⟩
                clear HK22v3 K
                try simp only [Act.put, List.setIfInBounds_toArray, List.set_cons_zero, List.set_cons_succ]
                refine wpAnyH_take (i := 23) (oi := ?o23v3) (v := ?v23v3) ?hi23v3 (by kernel_rfl) (by kernel_rfl) (by kernel_rfl) ?hQ23v3 ?hy23v3 H22.out ?more23v3
                case hi23v3 => rw [List.getElem?_toArray]; exact rfl
                case hQ23v3 => exact fun _ _ _ h => h
                case hy23v3 =>
                  refine Or.inl ⟨by rfl, ?_⟩
                  intro w' hSw
                  obtain ⟨sV, sx, -⟩ := hSw
                  have s2 : w'.cell? ⟨r, 2, none⟩ = some (.int .i64 (TY : Nat)) := by rw [HTY.out.1]; exact sV.b.c2
                  clear sV
                  go_simp
                  try with_reducible rfl
                simp only [Act.put, List.setIfInBounds_toArray, List.set_cons_zero, List.set_cons_succ]
                refine wpAnyH_take (i := 24) (oi := ?o24v3) (v := ?v24v3) ?hi24v3 (by kernel_rfl) (by kernel_rfl) (by kernel_rfl) ?hQ24v3 ?hy24v3 H22.out ?more24v3
                case hi24v3 => rw [List.getElem?_toArray]; exact rfl
                case hQ24v3 => exact fun _ _ _ h => h
                case hy24v3 =>
                  refine Or.inl ⟨by rfl, ?_⟩
                  intro w' hSw
                  obtain ⟨sV, sx, -⟩ := hSw
                  have s2 : w'.cell? ⟨r, 2, none⟩ = some (.int .i64 (TY : Nat)) := by rw [HTY.out.1]; exact sV.b.c2
                  clear sV
                  go_simp
                  try with_reducible rfl
                simp only [Act.put, List.setIfInBounds_toArray, List.set_cons_zero, List.set_cons_succ]
                refine wpAnyH_take (i := 25) (oi := ?o25v3) (v := ?v25v3) ?hi25v3 (by kernel_rfl) (by kernel_rfl) (by kernel_rfl) ?hQ25v3 ?hy25v3 H22.out ?more25v3
                case hi25v3 => rw [List.getElem?_toArray]; exact rfl
                case hQ25v3 => exact fun _ _ _ h => h
                case hy25v3 =>
                  refine Or.inl ⟨by rfl, ?_⟩
                  intro w' hSw
                  obtain ⟨sV, sx, -⟩ := hSw
                  have s2 : w'.cell? ⟨r, 2, none⟩ = some (.int .i64 (TY : Nat)) := by rw [HTY.out.1]; exact sV.b.c2
                  clear sV
                  go_simp
                  try with_reducible rfl
                simp only [Act.put, List.setIfInBounds_toArray, List.set_cons_zero, List.set_cons_succ]
                refine wpAnyH_take (i := 26) (oi := ?o26v3) (v := ?v26v3) ?hi26v3 (by kernel_rfl) (by kernel_rfl) (by kernel_rfl) ?hQ26v3 ?hy26v3 H22.out ?more26v3
                case hi26v3 => rw [List.getElem?_toArray]; exact rfl
                case hQ26v3 => exact fun _ _ _ h => h
                case hy26v3 =>
                  refine Or.inl ⟨by rfl, ?_⟩
                  intro w' hSw
                  obtain ⟨sV, sx, -⟩ := hSw
                  have s2 : w'.cell? ⟨r, 2, none⟩ = some (.int .i64 (TY : Nat)) := by rw [HTY.out.1]; exact sV.b.c2
                  clear sV
                  go_simp
                  try with_reducible rfl
                simp only [Act.put, List.setIfInBounds_toArray, List.set_cons_zero, List.set_cons_succ]
                refine wpAnyH_take (i := 28) (oi := ?o28v3) (v := ?v28v3) ?hi28v3 (by kernel_rfl) (by kernel_rfl) (by kernel_rfl) ?hQ28v3 ?hy28v3 H22.out ?more28v3
                case hi28v3 => rw [List.getElem?_toArray]; exact rfl
                case hQ28v3 => exact fun _ _ _ h => h
                case hy28v3 =>
                  refine Or.inl ⟨by rfl, ?_⟩
                  intro w' hSw
                  obtain ⟨sV, sx, -⟩ := hSw
                  have s2 : w'.cell? ⟨r, 2, none⟩ = some (.int .i64 (TY : Nat)) := by rw [HTY.out.1]; exact sV.b.c2
                  clear sV
                  go_simp
                  try with_reducible rfl
                simp only [Act.put, List.setIfInBounds_toArray, List.set_cons_zero, List.set_cons_succ]
                refine wpAnyH_take (i := 29) (oi := ?o29v3) (v := ?v29v3) ?hi29v3 (by kernel_rfl) (by kernel_rfl) (by kernel_rfl) ?hQ29v3 ?hy29v3 H22.out ?more29v3
                case hi29v3 => rw [List.getElem?_toArray]; exact rfl
                case hQ29v3 => exact fun _ _ _ h => h
                case hy29v3 =>
                  refine Or.inl ⟨by rfl, ?_⟩
                  intro w' hSw
                  obtain ⟨sV, sx, -⟩ := hSw
                  have s2 : w'.cell? ⟨r, 2, none⟩ = some (.int .i64 (TY : Nat)) := by rw [HTY.out.1]; exact sV.b.c2
                  clear sV
                  go_simp
                  try with_reducible rfl
                simp only [Act.put, List.setIfInBounds_toArray, List.set_cons_zero, List.set_cons_succ]
                refine wpAnyH_take (i := 30) (oi := ?o30v3) (v := ?v30v3) ?hi30v3 (by kernel_rfl) (by kernel_rfl) (by kernel_rfl) ?hQ30v3 ?hy30v3 H22.out ?more30v3
                case hi30v3 => rw [List.getElem?_toArray]; exact rfl
                case hQ30v3 => exact fun _ _ _ h => h
                case hy30v3 =>
                  refine Or.inl ⟨by rfl, ?_⟩
                  intro w' hSw
                  obtain ⟨sV, sx, -⟩ := hSw
                  have s2 : w'.cell? ⟨r, 2, none⟩ = some (.int .i64 (TY : Nat)) := by rw [HTY.out.1]; exact sV.b.c2
                  clear sV
                  go_simp
                  try with_reducible rfl
                simp only [Act.put, List.setIfInBounds_toArray, List.set_cons_zero, List.set_cons_succ]
                refine wpAnyH_take (i := 31) (oi := ?o31v3) (v := ?v31v3) ?hi31v3 (by kernel_rfl) (by kernel_rfl) (by kernel_rfl) ?hQ31v3 ?hy31v3 H22.out ?more31v3
                case hi31v3 => rw [List.getElem?_toArray]; exact rfl
                case hQ31v3 => exact fun _ _ _ h => h
                case hy31v3 =>
                  refine Or.inl ⟨by rfl, ?_⟩
                  intro w' hSw
                  obtain ⟨sV, sx, -⟩ := hSw
                  have s2 : w'.cell? ⟨r, 2, none⟩ = some (.int .i64 (TY : Nat)) := by rw [HTY.out.1]; exact sV.b.c2
                  clear sV
                  go_simp
                  try with_reducible rfl
                simp only [Act.put, List.setIfInBounds_toArray, List.set_cons_zero, List.set_cons_succ]
                refine wpAnyH_one (i := 27) (o := ?o27v3) (by kernel_rfl) ?hi27v3 ?hw27v3 ?st27v3
                case hi27v3 => rw [List.getElem?_toArray]; exact rfl
                case hw27v3 => exact rfl
                intro K hK
                have HK27v3 : Hid _ := hK
                clear hK
                go_simp
                refine (KN.out _ H22.out.1.a).mono ?_
                rintro e w27 ⟨rfl, h27⟩
                have H27 : Hid ((fun w' => Two14 w w' g r q cap y n s ∧ w'.cell? ⟨xb, 1, none⟩ = some (.int .i64 N) ∧ xb < w'.heap.size) w27) := by rw [h27]; exact H22.out
                clear h27
                go_wp2_with fail
                refine HK27v3.out _ _ ⟨H27.out, ?_⟩
                clear HK27v3 K
                try simp only [Act.put, List.setIfInBounds_toArray, List.set_cons_zero, List.set_cons_succ]
                refine wpAnyH_take (i := 32) (oi := ?o32v3) (v := ?v32v3) ?hi32v3 (by kernel_rfl) (by kernel_rfl) (by kernel_rfl) ?hQ32v3 ?hy32v3 H27.out ?more32v3
                case hi32v3 => rw [List.getElem?_toArray]; exact rfl
                case hQ32v3 => exact fun _ _ _ h => h
                case hy32v3 =>
                  refine Or.inl ⟨by rfl, ?_⟩
                  intro w' hSw
                  obtain ⟨sV, sx, -⟩ := hSw
                  have s2 : w'.cell? ⟨r, 2, none⟩ = some (.int .i64 (TY : Nat)) := by rw [HTY.out.1]; exact sV.b.c2
                  clear sV
                  go_simp
                  try with_reducible rfl
                simp only [Act.put, List.setIfInBounds_toArray, List.set_cons_zero, List.set_cons_succ]
                refine wpAnyH_take (i := 33) (oi := ?o33v3) (v := ?v33v3) ?hi33v3 (by kernel_rfl) (by kernel_rfl) (by kernel_rfl) ?hQ33v3 ?hy33v3 H27.out ?more33v3
                case hi33v3 => rw [List.getElem?_toArray]; exact rfl
                case hQ33v3 => exact fun _ _ _ h => h
                case hy33v3 =>
                  refine Or.inl ⟨by rfl, ?_⟩
                  intro w' hSw
                  obtain ⟨sV, sx, -⟩ := hSw
                  have s2 : w'.cell? ⟨r, 2, none⟩ = some (.int .i64 (TY : Nat)) := by rw [HTY.out.1]; exact sV.b.c2
                  clear sV
                  go_simp
                  try with_reducible rfl
                simp only [Act.put, List.setIfInBounds_toArray, List.set_cons_zero, List.set_cons_succ]
                refine wpAnyH_done (by kernel_rfl) ?_ _
                go_wp2_with fail
                go_roundw
                case rel => first | exact ⟨i + 1, y, HL.out, by go_num, H27.out.1⟩ | ((repeat apply Exists.intro); exact ⟨⟨i + 1, y, HL.out, by go_num, H27.out.1⟩, rfl⟩)
                case measure => have h1 := HL.out; simp [Go.RowKit.intOf]; omega
              · have d1 : decide ((1 : Int) ≤ N) = false := decide_eq_false hN1
                clear hN
                go_wp2_with fail
                refine (KT.out _ HY2.out.1.a).mono ?_
                rintro e w6 ⟨rfl, h6⟩
                subst h6
                go_wp2_with fail
                have HZ : Hid (Two14 w w6.drew g r q cap y n s ∧ w6.drew.cell? ⟨xb, 1, none⟩ = some (.int .i64 N) ∧ xb < w6.drew.heap.size) := ⟨HY2.out.1.call (Below.refl _ _).drew, x1, HY2.out.2⟩
                clear x1
                refine wp_region_H (fun w' => Two14 w w' g r q cap y n s ∧ w'.cell? ⟨xb, 1, none⟩ = some (.int .i64 N) ∧ xb < w'.heap.size) 34 rfl (by kernel_rfl) ?_
                refine wpAnyH_take (i := 0) (oi := ?o0v4) (v := ?v0v4) ?hi0v4 (by kernel_rfl) (by kernel_rfl) (by kernel_rfl) ?hQ0v4 ?hy0v4 HZ.out ?more0v4
                case hi0v4 => rw [List.getElem?_toArray]; exact rfl
                case hQ0v4 => exact fun _ _ _ h => h
                case hy0v4 =>
                  refine Or.inl ⟨by rfl, ?_⟩
                  intro w' hSw
                  obtain ⟨sV, sx, -⟩ := hSw
                  have s2 : w'.cell? ⟨r, 2, none⟩ = some (.int .i64 (TY : Nat)) := by rw [HTY.out.1]; exact sV.b.c2
                  clear sV
                  go_simp
                  try with_reducible rfl
                simp only [Act.put, List.setIfInBounds_toArray, List.set_cons_zero, List.set_cons_succ]
                refine wpAnyH_take (i := 1) (oi := ?o1v4) (v := ?v1v4) ?hi1v4 (by kernel_rfl) (by kernel_rfl) (by kernel_rfl) ?hQ1v4 ?hy1v4 HZ.out ?more1v4
                case hi1v4 => rw [List.getElem?_toArray]; exact rfl
                case hQ1v4 => exact fun _ _ _ h => h
                case hy1v4 =>
                  refine Or.inl ⟨by rfl, ?_⟩
                  intro w' hSw
                  obtain ⟨sV, sx, -⟩ := hSw
                  have s2 : w'.cell? ⟨r, 2, none⟩ = some (.int .i64 (TY : Nat)) := by rw [HTY.out.1]; exact sV.b.c2
                  clear sV
                  go_simp
                  try with_reducible rfl
                simp only [Act.put, List.setIfInBounds_toArray, List.set_cons_zero, List.set_cons_succ]
                refine wpAnyH_take (i := 2) (oi := ?o2v4) (v := ?v2v4) ?hi2v4 (by kernel_rfl) (by kernel_rfl) (by kernel_rfl) ?hQ2v4 ?hy2v4 HZ.out ?more2v4
                case hi2v4 => rw [List.getElem?_toArray]; exact rfl
                case hQ2v4 => exact fun _ _ _ h => h
                case hy2v4 =>
                  refine Or.inl ⟨by rfl, ?_⟩
                  intro w' hSw
                  obtain ⟨sV, sx, -⟩ := hSw
                  have s2 : w'.cell? ⟨r, 2, none⟩ = some (.int .i64 (TY : Nat)) := by rw [HTY.out.1]; exact sV.b.c2
                  clear sV
                  go_simp
                  try with_reducible rfl
                simp only [Act.put, List.setIfInBounds_toArray, List.set_cons_zero, List.set_cons_succ]
                refine wpAnyH_take (i := 3) (oi := ?o3v4) (v := ?v3v4) ?hi3v4 (by kernel_rfl) (by kernel_rfl) (by kernel_rfl) ?hQ3v4 ?hy3v4 HZ.out ?more3v4
                case hi3v4 => rw [List.getElem?_toArray]; exact rfl
                case hQ3v4 => exact fun _ _ _ h => h
                case hy3v4 =>
                  refine Or.inl ⟨by rfl, ?_⟩
                  intro w' hSw
                  obtain ⟨sV, sx, -⟩ := hSw
                  have s2 : w'.cell? ⟨r, 2, none⟩ = some (.int .i64 (TY : Nat)) := by rw [HTY.out.1]; exact sV.b.c2
                  clear sV
                  go_simp
                  try with_reducible rfl
                simp only [Act.put, List.setIfInBounds_toArray, List.set_cons_zero, List.set_cons_succ]
                refine wpAnyH_take (i := 4) (oi := ?o4v4) (v := ?v4v4) ?hi4v4 (by kernel_rfl) (by kernel_rfl) (by kernel_rfl) ?hQ4v4 ?hy4v4 HZ.out ?more4v4
                case hi4v4 => rw [List.getElem?_toArray]; exact rfl
                case hQ4v4 => exact fun _ _ _ h => h
                case hy4v4 =>
                  refine Or.inl ⟨by rfl, ?_⟩
                  intro w' hSw
                  obtain ⟨sV, sx, -⟩ := hSw
                  have s2 : w'.cell? ⟨r, 2, none⟩ = some (.int .i64 (TY : Nat)) := by rw [HTY.out.1]; exact sV.b.c2
                  clear sV
                  go_simp
                  try with_reducible rfl
                simp only [Act.put, List.setIfInBounds_toArray, List.set_cons_zero, List.set_cons_succ]
                refine wpAnyH_take (i := 5) (oi := ?o5v4) (v := ?v5v4) ?hi5v4 (by kernel_rfl) (by kernel_rfl) (by kernel_rfl) ?hQ5v4 ?hy5v4 HZ.out ?more5v4
                case hi5v4 => rw [List.getElem?_toArray]; exact rfl
                case hQ5v4 => exact fun _ _ _ h => h
                case hy5v4 =>
                  refine Or.inl ⟨by rfl, ?_⟩
                  intro w' hSw
                  obtain ⟨sV, sx, -⟩ := hSw
                  have s2 : w'.cell? ⟨r, 2, none⟩ = some (.int .i64 (TY : Nat)) := by rw [HTY.out.1]; exact sV.b.c2
                  clear sV
                  go_simp
                  try with_reducible rfl
                simp only [Act.put, List.setIfInBounds_toArray, List.set_cons_zero, List.set_cons_succ]
                refine wpAnyH_take (i := 6) (oi := ?o6v4) (v := undef) ?hi6v4 (by kernel_rfl) (by kernel_rfl) (by kernel_rfl) ?hQ6v4 ?hy6v4 HZ.out ?more6v4
                case hi6v4 => rw [List.getElem?_toArray]; exact rfl
                case hQ6v4 => exact fun _ _ _ h => h
                case hy6v4 =>
                  exact Or.inr ⟨by rfl, rfl⟩
                simp only [Act.put, List.setIfInBounds_toArray, List.set_cons_zero, List.set_cons_succ]
                refine wpAnyH_take (i := 7) (oi := ?o7v4) (v := undef) ?hi7v4 (by kernel_rfl) (by kernel_rfl) (by kernel_rfl) ?hQ7v4 ?hy7v4 HZ.out ?more7v4
                case hi7v4 => rw [List.getElem?_toArray]; exact rfl
                case hQ7v4 => exact fun _ _ _ h => h
                case hy7v4 =>
                  exact Or.inr ⟨by rfl, rfl⟩
                simp only [Act.put, List.setIfInBounds_toArray, List.set_cons_zero, List.set_cons_succ]
                refine wpAnyH_take (i := 8) (oi := ?o8v4) (v := undef) ?hi8v4 (by kernel_rfl) (by kernel_rfl) (by kernel_rfl) ?hQ8v4 ?hy8v4 HZ.out ?more8v4
                case hi8v4 => rw [List.getElem?_toArray]; exact rfl
                case hQ8v4 => exact fun _ _ _ h => h
                case hy8v4 =>
                  exact Or.inr ⟨by rfl, rfl⟩
                simp only [Act.put, List.setIfInBounds_toArray, List.set_cons_zero, List.set_cons_succ]
                refine wpAnyH_take (i := 9) (oi := ?o9v4) (v := undef) ?hi9v4 (by kernel_rfl) (by kernel_rfl) (by kernel_rfl) ?hQ9v4 ?hy9v4 HZ.out ?more9v4
                case hi9v4 => rw [List.getElem?_toArray]; exact rfl
                case hQ9v4 => exact fun _ _ _ h => h
                case hy9v4 =>
                  exact Or.inr ⟨by rfl, rfl⟩
                simp only [Act.put, List.setIfInBounds_toArray, List.set_cons_zero, List.set_cons_succ]
                refine wpAnyH_take (i := 10) (oi := ?o10v4) (v := ?v10v4) ?hi10v4 (by kernel_rfl) (by kernel_rfl) (by kernel_rfl) ?hQ10v4 ?hy10v4 HZ.out ?more10v4
                case hi10v4 => rw [List.getElem?_toArray]; exact rfl
                case hQ10v4 => exact fun _ _ _ h => h
                case hy10v4 =>
                  refine Or.inl ⟨by rfl, ?_⟩
                  intro w' hSw
                  obtain ⟨sV, sx, -⟩ := hSw
                  have s2 : w'.cell? ⟨r, 2, none⟩ = some (.int .i64 (TY : Nat)) := by rw [HTY.out.1]; exact sV.b.c2
                  clear sV
                  go_simp
                  try with_reducible rfl
                simp only [Act.put, List.setIfInBounds_toArray, List.set_cons_zero, List.set_cons_succ]
                refine wpAnyH_take (i := 11) (oi := ?o11v4) (v := ?v11v4) ?hi11v4 (by kernel_rfl) (by kernel_rfl) (by kernel_rfl) ?hQ11v4 ?hy11v4 HZ.out ?more11v4
                case hi11v4 => rw [List.getElem?_toArray]; exact rfl
                case hQ11v4 => exact fun _ _ _ h => h
                case hy11v4 =>
                  refine Or.inl ⟨by rfl, ?_⟩
                  intro w' hSw
                  obtain ⟨sV, sx, -⟩ := hSw
                  have s2 : w'.cell? ⟨r, 2, none⟩ = some (.int .i64 (TY : Nat)) := by rw [HTY.out.1]; exact sV.b.c2
                  clear sV
                  go_simp
                  try with_reducible rfl
                simp only [Act.put, List.setIfInBounds_toArray, List.set_cons_zero, List.set_cons_succ]
                refine wpAnyH_take (i := 12) (oi := ?o12v4) (v := ?v12v4) ?hi12v4 (by kernel_rfl) (by kernel_rfl) (by kernel_rfl) ?hQ12v4 ?hy12v4 HZ.out ?more12v4
                case hi12v4 => rw [List.getElem?_toArray]; exact rfl
                case hQ12v4 => exact fun _ _ _ h => h
                case hy12v4 =>
                  refine Or.inl ⟨by rfl, ?_⟩
                  intro w' hSw
                  obtain ⟨sV, sx, -⟩ := hSw
                  have s2 : w'.cell? ⟨r, 2, none⟩ = some (.int .i64 (TY : Nat)) := by rw [HTY.out.1]; exact sV.b.c2
                  clear sV
                  go_simp
                  try with_reducible rfl
                simp only [Act.put, List.setIfInBounds_toArray, List.set_cons_zero, List.set_cons_succ]
                refine wpAnyH_take (i := 13) (oi := ?o13v4) (v := ?v13v4) ?hi13v4 (by kernel_rfl) (by kernel_rfl) (by kernel_rfl) ?hQ13v4 ?hy13v4 HZ.out ?more13v4
                case hi13v4 => rw [List.getElem?_toArray]; exact rfl
                case hQ13v4 => exact fun _ _ _ h => h
                case hy13v4 =>
                  refine Or.inl ⟨by rfl, ?_⟩
                  intro w' hSw
                  obtain ⟨sV, sx, -⟩ := hSw
                  have s2 : w'.cell? ⟨r, 2, none⟩ = some (.int .i64 (TY : Nat)) := by rw [HTY.out.1]; exact sV.b.c2
                  clear sV
                  go_simp
                  try with_reducible rfl
                simp only [Act.put, List.setIfInBounds_toArray, List.set_cons_zero, List.set_cons_succ]
                refine wpAnyH_take (i := 14) (oi := ?o14v4) (v := ?v14v4) ?hi14v4 (by kernel_rfl) (by kernel_rfl) (by kernel_rfl) ?hQ14v4 ?hy14v4 HZ.out ?more14v4
                case hi14v4 => rw [List.getElem?_toArray]; exact rfl
                case hQ14v4 => exact fun _ _ _ h => h
                case hy14v4 =>
                  refine Or.inl ⟨by rfl, ?_⟩
                  intro w' hSw
                  obtain ⟨sV, sx, -⟩ := hSw
                  have s2 : w'.cell? ⟨r, 2, none⟩ = some (.int .i64 (TY : Nat)) := by rw [HTY.out.1]; exact sV.b.c2
                  clear sV
                  go_simp
                  try with_reducible rfl
                simp only [Act.put, List.setIfInBounds_toArray, List.set_cons_zero, List.set_cons_succ]
                refine wpAnyH_take (i := 15) (oi := ?o15v4) (v := ?v15v4) ?hi15v4 (by kernel_rfl) (by kernel_rfl) (by kernel_rfl) ?hQ15v4 ?hy15v4 HZ.out ?more15v4
                case hi15v4 => rw [List.getElem?_toArray]; exact rfl
                case hQ15v4 => exact fun _ _ _ h => h
                case hy15v4 =>
                  refine Or.inl ⟨by rfl, ?_⟩
                  intro w' hSw
                  obtain ⟨sV, sx, -⟩ := hSw
                  have s2 : w'.cell? ⟨r, 2, none⟩ = some (.int .i64 (TY : Nat)) := by rw [HTY.out.1]; exact sV.b.c2
                  clear sV
                  go_simp
                  try with_reducible rfl
                simp only [Act.put, List.setIfInBounds_toArray, List.set_cons_zero, List.set_cons_succ]
                refine wpAnyH_take (i := 16) (oi := ?o16v4) (v := ?v16v4) ?hi16v4 (by kernel_rfl) (by kernel_rfl) (by kernel_rfl) ?hQ16v4 ?hy16v4 HZ.out ?more16v4
                case hi16v4 => rw [List.getElem?_toArray]; exact rfl
                case hQ16v4 => exact fun _ _ _ h => h
                case hy16v4 =>
                  refine Or.inl ⟨by rfl, ?_⟩
                  intro w' hSw
                  obtain ⟨sV, sx, -⟩ := hSw
                  have s2 : w'.cell? ⟨r, 2, none⟩ = some (.int .i64 (TY : Nat)) := by rw [HTY.out.1]; exact sV.b.c2
                  clear sV
                  go_simp
                  try with_reducible rfl
                simp only [Act.put, List.setIfInBounds_toArray, List.set_cons_zero, List.set_cons_succ]
                refine wpAnyH_take (i := 17) (oi := ?o17v4) (v := ?v17v4) ?hi17v4 (by kernel_rfl) (by kernel_rfl) (by kernel_rfl) ?hQ17v4 ?hy17v4 HZ.out ?more17v4
                case hi17v4 => rw [List.getElem?_toArray]; exact rfl
                case hQ17v4 => exact fun _ _ _ h => h
                case hy17v4 =>
                  refine Or.inl ⟨by rfl, ?_⟩
                  intro w' hSw
                  obtain ⟨sV, sx, -⟩ := hSw
                  have s2 : w'.cell? ⟨r, 2, none⟩ = some (.int .i64 (TY : Nat)) := by rw [HTY.out.1]; exact sV.b.c2
                  clear sV
                  go_simp
                  try with_reducible rfl
                simp only [Act.put, List.setIfInBounds_toArray, List.set_cons_zero, List.set_cons_succ]
                refine wpAnyH_take (i := 18) (oi := ?o18v4) (v := ?v18v4) ?hi18v4 (by kernel_rfl) (by kernel_rfl) (by kernel_rfl) ?hQ18v4 ?hy18v4 HZ.out ?more18v4
                case hi18v4 => rw [List.getElem?_toArray]; exact rfl
                case hQ18v4 => exact fun _ _ _ h => h
                case hy18v4 =>
                  refine Or.inl ⟨by rfl, ?_⟩
                  intro w' hSw
                  obtain ⟨sV, sx, -⟩ := hSw
                  have s2 : w'.cell? ⟨r, 2, none⟩ = some (.int .i64 (TY : Nat)) := by rw [HTY.out.1]; exact sV.b.c2
                  clear sV
                  go_simp
                  try with_reducible rfl
                simp only [Act.put, List.setIfInBounds_toArray, List.set_cons_zero, List.set_cons_succ]
                refine wpAnyH_take (i := 20) (oi := ?o20v4) (v := ?v20v4) ?hi20v4 (by kernel_rfl) (by kernel_rfl) (by kernel_rfl) ?hQ20v4 ?hy20v4 HZ.out ?more20v4
                case hi20v4 => rw [List.getElem?_toArray]; exact rfl
                case hQ20v4 => exact fun _ _ _ h => h
                case hy20v4 =>
                  refine Or.inl ⟨by rfl, ?_⟩
                  intro w' hSw
                  obtain ⟨sV, sx, -⟩ := hSw
                  have s2 : w'.cell? ⟨r, 2, none⟩ = some (.int .i64 (TY : Nat)) := by rw [HTY.out.1]; exact sV.b.c2
                  clear sV
                  go_simp
                  try with_reducible rfl
                simp only [Act.put, List.setIfInBounds_toArray, List.set_cons_zero, List.set_cons_succ]
                refine wpAnyH_one (i := 19) (o := ?o19v4) (by kernel_rfl) ?hi19v4 ?hw19v4 ?st19v4
                case hi19v4 => rw [List.getElem?_toArray]; exact rfl
                case hw19v4 => exact rfl
                intro K hK
                have HK19v4 : Hid _ := hK
                clear hK
                go_simp
                refine (KS.out _ HZ.out.1.a).mono ?_
                rintro e w19 ⟨a19, c19, rfl, hI19, hb19⟩
                have H19 : Hid ((fun w' => Two14 w w' g r q cap y n s ∧ w'.cell? ⟨xb, 1, none⟩ = some (.int .i64 N) ∧ xb < w'.heap.size) w19) := ⟨HZ.out.1.call hb19, (hb19.cell (p := ⟨xb, 1, none⟩) HZ.out.2.2).trans HZ.out.2.1, Nat.lt_of_lt_of_le HZ.out.2.2 hb19.size⟩
                have HI19 : Hid (IntsAt w19 a19 LS) := hI19
                clear hb19 hI19
                go_wp2_with fail
                refine HK19v4.out _ _ ⟨H19.out, ?_⟩
                clear HK19v4 K
                try simp only [Act.put, List.setIfInBounds_toArray, List.set_cons_zero, List.set_cons_succ]
                refine wpAnyH_one (i := 21) (o := ?o21v4) (by kernel_rfl) ?hi21v4 ?hw21v4 ?st21v4
                case hi21v4 => rw [List.getElem?_toArray]; exact rfl
                case hw21v4 => exact rfl
                intro K hK
                have HK21v4 : Hid _ := hK
                clear hK
                go_simp
                refine (KR.out _ H19.out.1.b).mono ?_
                rintro e w21 ⟨a21, c21, rfl, hI21, hb21⟩
                have H21 : Hid ((fun w' => Two14 w w' g r q cap y n s ∧ w'.cell? ⟨xb, 1, none⟩ = some (.int .i64 N) ∧ xb < w'.heap.size) w21) := ⟨H19.out.1.call hb21, (hb21.cell (p := ⟨xb, 1, none⟩) H19.out.2.2).trans H19.out.2.1, Nat.lt_of_lt_of_le H19.out.2.2 hb21.size⟩
                have HI21 : Hid (IntsAt w21 a19 LS ∧ IntsAt w21 a21 LS) := ⟨HI19.out.call hb21, hI21⟩
                clear hb21 hI21 HI19
                go_wp2_with fail
                refine HK21v4.out _ _ ⟨H21.out, ?_⟩
                clear HK21v4 K
                try simp only [Act.put, List.setIfInBounds_toArray, List.set_cons_zero, List.set_cons_succ]
                refine wpAnyH_one (i := 22) (o := ?o22v4) (by kernel_rfl) ?hi22v4 ?hw22v4 ?st22v4
                case hi22v4 => rw [List.getElem?_toArray]; exact rfl
                case hw22v4 => exact rfl
                intro K hK
                have HK22v4 : Hid _ := hK
                clear hK
                go_simp
                refine (KI.out _ _ _ _ _ HI21.out.1 HI21.out.2).mono ?_
                rintro e w22 ⟨rfl, hb22⟩
                have H22 : Hid ((fun w' => Two14 w w' g r q cap y n s ∧ w'.cell? ⟨xb, 1, none⟩ = some (.int .i64 N) ∧ xb < w'.heap.size) w22) := ⟨H21.out.1.call hb22, (hb22.cell (p := ⟨xb, 1, none⟩) H21.out.2.2).trans H21.out.2.1, Nat.lt_of_lt_of_le H21.out.2.2 hb22.size⟩
                clear hb22 HI21
                go_wp2_with fail
                refine HK22v4.out _ _ ⟨H22.out, ?_⟩
                clear HK22v4 K
                try simp only [Act.put, List.setIfInBounds_toArray, List.set_cons_zero, List.set_cons_succ]
                refine wpAnyH_take (i := 23) (oi := ?o23v4) (v := ?v23v4) ?hi23v4 (by kernel_rfl) (by kernel_rfl) (by kernel_rfl) ?hQ23v4 ?hy23v4 H22.out ?more23v4
                case hi23v4 => rw [List.getElem?_toArray]; exact rfl
                case hQ23v4 => exact fun _ _ _ h => h
                case hy23v4 =>
                  refine Or.inl ⟨by rfl, ?_⟩
                  intro w' hSw
                  obtain ⟨sV, sx, -⟩ := hSw
                  have s2 : w'.cell? ⟨r, 2, none⟩ = some (.int .i64 (TY : Nat)) := by rw [HTY.out.1]; exact sV.b.c2
                  clear sV
                  go_simp
                  try with_reducible rfl
                simp only [Act.put, List.setIfInBounds_toArray, List.set_cons_zero, List.set_cons_succ]
                refine wpAnyH_take (i := 24) (oi := ?o24v4) (v := ?v24v4) ?hi24v4 (by kernel_rfl) (by kernel_rfl) (by kernel_rfl) ?hQ24v4 ?hy24v4 H22.out ?more24v4
                case hi24v4 => rw [List.getElem?_toArray]; exact rfl
                case hQ24v4 => exact fun _ _ _ h => h
                case hy24v4 =>
                  refine Or.inl ⟨by rfl, ?_⟩
                  intro w' hSw
                  obtain ⟨sV, sx, -⟩ := hSw
                  have s2 : w'.cell? ⟨r, 2, none⟩ = some (.int .i64 (TY : Nat)) := by rw [HTY.out.1]; exact sV.b.c2
                  clear sV
                  go_simp
                  try with_reducible rfl
                simp only [Act.put, List.setIfInBounds_toArray, List.set_cons_zero, List.set_cons_succ]
                refine wpAnyH_take (i := 25) (oi := ?o25v4) (v := ?v25v4) ?hi25v4 (by kernel_rfl) (by kernel_rfl) (by kernel_rfl) ?hQ25v4 ?hy25v4 H22.out ?more25v4
                case hi25v4 => rw [List.getElem?_toArray]; exact rfl
                case hQ25v4 => exact fun _ _ _ h => h
                case hy25v4 =>
                  refine Or.inl ⟨by rfl, ?_⟩
                  intro w' hSw
                  obtain ⟨sV, sx, -⟩ := hSw
                  have s2 : w'.cell? ⟨r, 2, none⟩ = some (.int .i64 (TY : Nat)) := by rw [HTY.out.1]; exact sV.b.c2
                  clear sV
                  go_simp
                  try with_reducible rfl
                simp only [Act.put, List.setIfInBounds_toArray, List.set_cons_zero, List.set_cons_succ]
                refine wpAnyH_take (i := 26) (oi := ?o26v4) (v := ?v26v4) ?hi26v4 (by kernel_rfl) (by kernel_rfl) (by kernel_rfl) ?hQ26v4 ?hy26v4 H22.out ?more26v4
                case hi26v4 => rw [List.getElem?_toArray]; exact rfl
                case hQ26v4 => exact fun _ _ _ h => h
                case hy26v4 =>
                  refine Or.inl ⟨by rfl, ?_⟩
                  intro w' hSw
                  obtain ⟨sV, sx, -⟩ := hSw
                  have s2 : w'.cell? ⟨r, 2, none⟩ = some (.int .i64 (TY : Nat)) := by rw [HTY.out.1]; exact sV.b.c2
                  clear sV
                  go_simp
                  try with_reducible rfl
                simp only [Act.put, List.setIfInBounds_toArray, List.set_cons_zero, List.set_cons_succ]
                refine wpAnyH_take (i := 28) (oi := ?o28v4) (v := ?v28v4) ?hi28v4 (by kernel_rfl) (by kernel_rfl) (by kernel_rfl) ?hQ28v4 ?hy28v4 H22.out ?more28v4
                case hi28v4 => rw [List.getElem?_toArray]; exact rfl
                case hQ28v4 => exact fun _ _ _ h => h
                case hy28v4 =>
                  refine Or.inl ⟨by rfl, ?_⟩
                  intro w' hSw
                  obtain ⟨sV, sx, -⟩ := hSw
                  have s2 : w'.cell? ⟨r, 2, none⟩ = some (.int .i64 (TY : Nat)) := by rw [HTY.out.1]; exact sV.b.c2
                  clear sV
                  go_simp
                  try with_reducible rfl
                simp only [Act.put, List.setIfInBounds_toArray, List.set_cons_zero, List.set_cons_succ]
                refine wpAnyH_take (i := 29) (oi := ?o29v4) (v := ?v29v4) ?hi29v4 (by kernel_rfl) (by kernel_rfl) (by kernel_rfl) ?hQ29v4 ?hy29v4 H22.out ?more29v4
                case hi29v4 => rw [List.getElem?_toArray]; exact rfl
                case hQ29v4 => exact fun _ _ _ h => h
                case hy29v4 =>
                  refine Or.inl ⟨by rfl, ?_⟩
                  intro w' hSw
                  obtain ⟨sV, sx, -⟩ := hSw
                  have s2 : w'.cell? ⟨r, 2, none⟩ = some (.int .i64 (TY : Nat)) := by rw [HTY.out.1]; exact sV.b.c2
                  clear sV
                  go_simp
                  try with_reducible rfl
                simp only [Act.put, List.setIfInBounds_toArray, List.set_cons_zero, List.set_cons_succ]
                refine wpAnyH_take (i := 30) (oi := ?o30v4) (v := ?v30v4) ?hi30v4 (by kernel_rfl) (by kernel_rfl) (by kernel_rfl) ?hQ30v4 ?hy30v4 H22.out ?more30v4
                case hi30v4 => rw [List.getElem?_toArray]; exact rfl
                case hQ30v4 => exact fun _ _ _ h => h
                case hy30v4 =>
                  refine Or.inl ⟨by rfl, ?_⟩
                  intro w' hSw
                  obtain ⟨sV, sx, -⟩ := hSw
                  have s2 : w'.cell? ⟨r, 2, none⟩ = some (.int .i64 (TY : Nat)) := by rw [HTY.out.1]; exact sV.b.c2
                  clear sV
                  go_simp
                  try with_reducible rfl
                simp only [Act.put, List.setIfInBounds_toArray, List.set_cons_zero, List.set_cons_succ]
                refine wpAnyH_take (i := 31) (oi := ?o31v4) (v := ?v31v4) ?hi31v4 (by kernel_rfl) (by kernel_rfl) (by kernel_rfl) ?hQ31v4 ?hy31v4 H22.out ?more31v4
                case hi31v4 => rw [List.getElem?_toArray]; exact rfl
                case hQ31v4 => exact fun _ _ _ h => h
                case hy31v4 =>
                  refine Or.inl ⟨by rfl, ?_⟩
                  intro w' hSw
                  obtain ⟨sV, sx, -⟩ := hSw
                  have s2 : w'.cell? ⟨r, 2, none⟩ = some (.int .i64 (TY : Nat)) := by rw [HTY.out.1]; exact sV.b.c2
                  clear sV
                  go_simp
                  try with_reducible rfl
                simp only [Act.put, List.setIfInBounds_toArray, List.set_cons_zero, List.set_cons_succ]
                refine wpAnyH_one (i := 27) (o := ?o27v4) (by kernel_rfl) ?hi27v4 ?hw27v4 ?st27v4
                case hi27v4 => rw [List.getElem?_toArray]; exact rfl
                case hw27v4 => exact rfl
                intro K hK
                have HK27v4 : Hid _ := hK
                clear hK
                go_simp
                refine (KN.out _ H22.out.1.a).mono ?_
                rintro e w27 ⟨rfl, h27⟩
                have H27 : Hid ((fun w' => Two14 w w' g r q cap y n s ∧ w'.cell? ⟨xb, 1, none⟩ = some (.int .i64 N) ∧ xb < w'.heap.size) w27) := by rw [h27]; exact H22.out
                clear h27
                go_wp2_with fail
                refine HK27v4.out _ _ ⟨H27.out, ?_⟩
                clear HK27v4 K
                try simp only [Act.put, List.setIfInBounds_toArray, List.set_cons_zero, List.set_cons_succ]
                refine wpAnyH_take (i := 32) (oi := ?o32v4) (v := ?v32v4) ?hi32v4 (by kernel_rfl) (by kernel_rfl) (by kernel_rfl) ?hQ32v4 ?hy32v4 H27.out ?more32v4
                case hi32v4 => rw [List.getElem?_toArray]; exact rfl
                case hQ32v4 => exact fun _ _ _ h => h
                case hy32v4 =>
                  refine Or.inl ⟨by rfl, ?_⟩
                  intro w' hSw
                  obtain ⟨sV, sx, -⟩ := hSw
                  have s2 : w'.cell? ⟨r, 2, none⟩ = some (.int .i64 (TY : Nat)) := by rw [HTY.out.1]; exact sV.b.c2
                  clear sV
                  go_simp
                  try with_reducible rfl
                simp only [Act.put, List.setIfInBounds_toArray, List.set_cons_zero, List.set_cons_succ]
                refine wpAnyH_take (i := 33) (oi := ?o33v4) (v := ?v33v4) ?hi33v4 (by kernel_rfl) (by kernel_rfl) (by kernel_rfl) ?hQ33v4 ?hy33v4 H27.out ?more33v4
                case hi33v4 => rw [List.getElem?_toArray]; exact rfl
                case hQ33v4 => exact fun _ _ _ h => h
                case hy33v4 =>
                  refine Or.inl ⟨by rfl, ?_⟩
                  intro w' hSw
                  obtain ⟨sV, sx, -⟩ := hSw
                  have s2 : w'.cell? ⟨r, 2, none⟩ = some (.int .i64 (TY : Nat)) := by rw [HTY.out.1]; exact sV.b.c2
                  clear sV
                  go_simp
                  try with_reducible rfl
                simp only [Act.put, List.setIfInBounds_toArray, List.set_cons_zero, List.set_cons_succ]
                refine wpAnyH_done (by kernel_rfl) ?_ _
                go_wp2_with fail
                go_roundw
                case rel => first | exact ⟨i + 1, y, HL.out, by go_num, H27.out.1⟩ | ((repeat apply Exists.intro); exact ⟨⟨i + 1, y, HL.out, by go_num, H27.out.1⟩, rfl⟩)
                case measure => have h1 := HL.out; simp [Go.RowKit.intOf]; omega
    · obtain rfl : i = len := by omega
      have hnl : ¬ ((i : Int) < (i : Int)) := Int.lt_irrefl _
      clear hlt hi hV
      go_wp2_with fail
      refine HKr.out _ _ ?_
      clear HKr
      go_wp2_with fail
      refine (five_any _).mono ?_
      rintro e w3 ⟨rfl, hb⟩
      have HB : Hid _ := hb
      clear hb
      go_wp2_with fail
      go_ret
      refine ⟨rfl, ?_⟩
      have h := HV.out.f
      rw [HG.out] at h
      exact below_call0 h HB.out
theorem beatSteps_any (n s : Int) (a : Option Addr) (len cap : Nat) (w : World) (hS : StepsIn w a len) : Calls Try.prog 3 #[.int .i64 n, .int .i64 s, .slice a len cap] w fun e w' => e = .returned (.bool true) ∧ Below w.heap.size w w' := by
  by_cases h : (1 ≤ n ∧ n ≤ 10) ∧ 1 ≤ s ∧ s ≤ n
  · have h1 : n = ((n.toNat : Nat) : Int) := by omega
    have h2 : s = ((s.toNat : Nat) : Int) := by omega
    rw [h1, h2]
    exact beatSteps_ok _ _ a len cap (by omega) (by omega) (by omega) (by omega) w hS
  · exact beatSteps_bad n s a len cap h w
end Go.Proofs.Ytpgpbfcomobfkaa
