/- The law BeatHeard. -/
import Derived.Test.YtpgpbfcomobfkaaBtM
namespace Go.Proofs.Ytpgpbfcomobfkaa
open Go Go.RowKit Go.Lib

def TmC (t : Nat) : Prop := t = 4 ∨ t = 8 ∨ t = 16 ∨ t = 32 ∨ t = 64
structure HrI (x : Wt) (n s now : Nat) : Prop where
  n : x.n = n
  self : x.self = s
  nw : x.now ≤ now
  t : ∀ k, TmC (x.t k)
theorem HrI.start {n s : Nat} : HrI (newW n s 0) n s 0 := ⟨rfl, rfl, Nat.le_refl _, fun _ => .inl rfl⟩
theorem HrI.on {x : Wt} {n s now m : Nat} (h : HrI x n s now) (h1 : now ≤ m) : HrI x n s m := ⟨h.n, h.self, Nat.le_trans h.nw h1, h.t⟩
theorem HrI.check {x : Wt} {n s now m : Nat} (h : HrI x n s now) : HrI (checkW x m) n s m := ⟨h.n, h.self, Nat.le_refl _, h.t⟩
theorem HrI.heard {x : Wt} {n s now m k : Nat} (h : HrI x n s now) : HrI (heardW x k m) n s m := by
  refine ⟨h.n, h.self, Nat.le_refl _, fun j => ?_⟩
  show TmC (if j = k then dbl (x.s j) (x.t j) else x.t j)
  have := h.t j
  unfold TmC at this ⊢
  unfold dbl
  split
  · cases x.s j
    · simpa using this
    · simp; omega
  · exact this
theorem silL_get {x : Wt} (ho : x.Ok) {i : Nat} (hi : i < (silL x).length) : ∃ k : Nat, (silL x)[i]'hi = ((k : Nat) : Int) ∧ 1 ≤ k ∧ k ≤ x.n ∧ k ≠ x.self ∧ x.s k = true := by
  have h : (silL x)[i]'hi ∈ lsN x.s x.n := List.getElem_mem hi
  obtain ⟨k, h1, h2, h3, h4⟩ := lsN_mem.1 h
  refine ⟨k, h1, h2, h3, fun c => ?_, h4⟩
  rw [c, ho.s] at h4
  cases h4
theorem beatHeard_bad (n s : Int) (a : Option Addr) (len cap : Nat) (h : ¬ ((1 ≤ n ∧ n ≤ 10) ∧ 1 ≤ s ∧ s ≤ n)) (w : World) : Calls Try.prog 8 #[.int .i64 n, .int .i64 s, .slice a len cap] w fun e w' => e = .returned (.bool true) ∧ Below w.heap.size w w' := by
  have K1 : Hid (∀ w', Calls Try.prog 9 #[.int .i64 n, .int .i64 s, .int .i64 0] w' fun e w'' => e = .returned (.tuple #[.pointer none, .int .i64 1]) ∧ w'' = w') :=
    fun w' => new_no n s 0 (fun c => h ⟨c.1, c.2.1⟩) w'
  clear h
  go_enter Try.func8, Try.ntmps8
  go_wp2_with fail
  refine (K1.out _).mono ?_
  rintro e w1 ⟨rfl, rfl⟩
  go_wp2_with fail
  refine (five_any _).mono ?_
  rintro e w2 ⟨rfl, hb⟩
  have HB : Hid _ := hb
  clear hb
  go_wp2_with fail
  go_ret
  exact ⟨rfl, HB.out⟩
theorem beatHeard_long (n s : Nat) (a : Option Addr) (len cap : Nat) (n1 : 1 ≤ n) (n10 : n ≤ 10) (s1 : 1 ≤ s) (sn : s ≤ n) (hl : 300 < len) (w : World) : Calls Try.prog 8 #[.int .i64 (n : Nat), .int .i64 (s : Nat), .slice a len cap] w fun e w' => e = .returned (.bool true) ∧ Below w.heap.size w w' := by
  have h1 : (300 : Int) < (len : Nat) := by omega
  have K1 : Hid (∀ w', Calls Try.prog 9 #[.int .i64 (n : Nat), .int .i64 (s : Nat), .int .i64 0] w' fun e w'' => e = .returned (.tuple #[.pointer (some ⟨w'.heap.size, 0, none⟩), .int .i64 0]) ∧ WatchAt w'' w'.heap.size (newW n s 0) ∧ Below w'.heap.size w' w'') :=
    fun w' => new_ok n s 0 n1 n10 s1 sn (by decide) w'
  clear hl n1 n10 s1 sn
  go_enter Try.func8, Try.ntmps8
  go_wp2_with fail
  refine (K1.out _).mono ?_
  rintro e w1 ⟨rfl, -, hb1⟩
  have H1 : Hid _ := hb1
  clear hb1
  go_wp2_with fail
  refine (five_any _).mono ?_
  rintro e w2 ⟨rfl, hb⟩
  have HB : Hid _ := hb
  clear hb
  go_wp2_with fail
  go_ret
  exact ⟨rfl, below_call0 H1.out HB.out⟩
set_option maxRecDepth 100000 in
set_option maxHeartbeats 8000000 in
theorem beatHeard_in (n s : Nat) (a : Option Addr) (len cap : Nat) (n1 : 1 ≤ n) (n10 : n ≤ 10) (s1 : 1 ≤ s) (sn : s ≤ n) (hl : len ≤ 300) (w : World) (hS : StepsIn w a len) : Calls Try.prog 8 #[.int .i64 (n : Nat), .int .i64 (s : Nat), .slice a len cap] w fun e w' => e = .returned (.bool true) ∧ Below w.heap.size w w' := by
  have h1 : ((len : Nat) : Int) ≤ 300 := by omega
  have HS : Hid (StepsIn w a len ∧ len ≤ 300 ∧ n ≤ 10 ∧ 1 ≤ s ∧ s ≤ n) := ⟨hS, hl, n10, s1, sn⟩
  have K1 : Hid (∀ w', Calls Try.prog 9 #[.int .i64 (n : Nat), .int .i64 (s : Nat), .int .i64 0] w' fun e w'' => e = .returned (.tuple #[.pointer (some ⟨w'.heap.size, 0, none⟩), .int .i64 0]) ∧ WatchAt w'' w'.heap.size (newW n s 0) ∧ Below w'.heap.size w' w'') :=
    fun w' => new_ok n s 0 n1 n10 s1 sn (by decide) w'
  clear hl hS n1 n10 s1 sn
  go_enter Try.func8, Try.ntmps8
  go_wp2_with fail
  refine (K1.out _).mono ?_
  rintro e w1 ⟨rfl, hW1, hb1⟩
  obtain ⟨g, hg⟩ : ∃ g, g = w.heap.size := ⟨_, rfl⟩
  have HG : Hid (g = w.heap.size) := hg
  have H1 : Hid (WatchAt w1 g (newW n s 0) ∧ Below g w w1) := ⟨by rw [hg]; exact hW1, by rw [hg]; exact hb1⟩
  rw [← hg]
  clear hW1 hb1 hg K1
  go_wp2_with fail
  rename_i Kr hKr
  have HKr : Hid _ := hKr
  clear hKr
  go_loopw [9, 49] (fun nv iv wr => ∃ (now i : Nat) (x : Wt), i ≤ len ∧ now ≤ 1000 * i ∧ nv = .int .i64 (now : Nat) ∧ iv = .int .i64 (i : Nat) ∧ HrI x n s now ∧ WatchAt wr g x ∧ Below g w wr) (fun _ iv _ => len - (Go.RowKit.intOf iv).toNat)
  case atStart => exact ⟨0, 0, newW n s 0, Nat.zero_le _, Nat.le_refl _, rfl, rfl, HrI.start, H1.out⟩
  case round =>
    obtain ⟨now, i, x, hi, hnow, rfl, rfl, hF, hW, hB⟩ := hrel
    rename World => wr
    have HA : Hid (WatchAt wr g x ∧ Below g w wr ∧ HrI x n s now ∧ now ≤ 1000 * i) := ⟨hW, hB, hF, hnow⟩
    clear H1
    by_cases hlt : i < len
    · clear HKr
      have hlt' : (i : Int) < (len : Nat) := by omega
      obtain ⟨p, o, X, N, M, ha, c0, c1, c2, pl⟩ := HS.out.1 i hlt
      subst ha
      have e0 : wr.cell? ⟨p, o + i * 3, none⟩ = some (.int .i64 X) := (hB.cell (p := ⟨p, _, none⟩) (by rw [HG.out]; exact pl)).trans c0
      have e1 : wr.cell? ⟨p, o + i * 3 + 1, none⟩ = some (.int .i64 N) := (hB.cell (p := ⟨p, _, none⟩) (by rw [HG.out]; exact pl)).trans c1
      have e2 : wr.cell? ⟨p, o + i * 3 + 2, none⟩ = some (.int .i64 M) := (hB.cell (p := ⟨p, _, none⟩) (by rw [HG.out]; exact pl)).trans c2
      have HL : Hid (i < len) := hlt
      have b1 : (now : Int) ≤ 300000 := by have := HS.out.2.1; omega
      clear c0 c1 c2 pl hi hnow hF hW hB hlt
      by_cases hM : M < 0 ∨ 1000 < M
      · rcases hM with hM | hM
        all_goals
          go_wp2_with fail
          go_roundw
        case rel => exact ⟨now, i + 1, x, HL.out, by have := HA.out.2.2.2; omega, rfl, by go_num, HA.out.2.2.1, HA.out.1.call (below_alloc0 (Below.refl _ _) _), bel HA.out.2.1 HA.out.1 (below_alloc0 (Below.refl _ _) _)⟩
        case measure => have h1 := HL.out; simp [Go.RowKit.intOf]; omega
        case rel => exact ⟨now, i + 1, x, HL.out, by have := HA.out.2.2.2; omega, rfl, by go_num, HA.out.2.2.1, HA.out.1.call (below_alloc0 (Below.refl _ _) _), bel HA.out.2.1 HA.out.1 (below_alloc0 (Below.refl _ _) _)⟩
        case measure => have h1 := HL.out; simp [Go.RowKit.intOf]; omega
      · obtain ⟨m, rfl⟩ : ∃ m : Nat, M = (m : Nat) := ⟨M.toNat, by omega⟩
        have m1 : ((m : Nat) : Int) ≤ 1000 := by omega
        clear hM
        obtain ⟨A, hA⟩ : ∃ A, A = now + m := ⟨_, rfl⟩
        have f2 : (now : Int) + (m : Int) = (A : Nat) := by omega
        have HT : Hid (now ≤ A ∧ A ≤ 1000 * (i + 1) ∧ A ≤ 1099511627776 ∧ x.now ≤ A) := ⟨by omega, by have := HA.out.2.2.2; omega, by have := HA.out.2.2.2; have := HS.out.2.1; have := HL.out; omega, by have := HA.out.2.2.1.nw; omega⟩
        have A4 : (A : Int) ≤ 302000 := by omega
        clear hA
        by_cases hX : X = 2
        · as_aux_lemma =>
            subst hX
            go_wp2_with fail
            refine (check_ok g x A HT.out.2.2.2 HT.out.2.2.1 _ (HA.out.1.call (below_alloc0 (Below.refl _ _) _))).mono ?_
            rintro e w2 ⟨aL, capL, rfl, -, hW2, hb2⟩
            obtain ⟨y, hy⟩ : ∃ y, y = checkW x A := ⟨_, rfl⟩
            have HP : Hid (WatchAt w2 g y ∧ Below g w w2 ∧ HrI y n s A) := ⟨by rw [hy]; exact hW2, below_but (bel HA.out.2.1 HA.out.1 (below_alloc0 (Below.refl _ _) _)) (Nat.le_refl _) (Nat.le_of_lt (HA.out.1.call (below_alloc0 (Below.refl _ _) _)).lt) hb2, by rw [hy]; exact HA.out.2.2.1.check⟩
            clear hW2 hb2 hy
            go_wp2_with fail
            refine (silent_any g y _ HP.out.1).mono ?_
            rintro e w4 ⟨a4, cap4, rfl, hI4, hb4⟩
            obtain ⟨L4, hL4⟩ : ∃ L, L = silL y := ⟨_, rfl⟩
            rw [← hL4] at hI4 ⊢
            obtain ⟨n4, hn4⟩ : ∃ n, n = L4.length := ⟨_, rfl⟩
            rw [← hn4]
            have HN4 : Hid (n4 = L4.length ∧ L4 = silL y) := ⟨hn4, hL4⟩
            have H4 : Hid (WatchAt w4 g y ∧ Below g w w4 ∧ IntsAt w4 a4 L4 ∧ HrI y n s A) := ⟨HP.out.1.call hb4, bel HP.out.2.1 HP.out.1 hb4, hI4.ints, HP.out.2.2⟩
            have n104 : (n4 : Int) ≤ 10 := by
              have h3 := lsN_len y.s y.n
              have h4 : (silL y).length = (lsN y.s y.n).length := rfl
              have h5 := HP.out.1.ok.n10
              rw [hn4, hL4, h4]
              omega
            clear hI4 hb4 hL4 hn4
            go_wp2_with fail
            rename ∀ (a : Act) (w : World), Code.wp Try.prog _ _ a w → _ => hKr4
            have HKr4 : Hid _ := hKr4
            clear hKr4
            go_loop [98] (fun jv => ∃ j : Nat, j ≤ n4 ∧ jv = .int .i64 (j : Nat)) (fun jv => n4 - (Go.RowKit.intOf jv).toNat)
            case atStart => exact ⟨0, Nat.zero_le _, rfl⟩
            case round =>
              obtain ⟨j, hj, rfl⟩ := hrel
              by_cases hjn : j < n4
              · clear HKr4
                have hjn' : (j : Int) < (n4 : Nat) := by omega
                have hjl : j < L4.length := by rw [← HN4.out.1]; exact hjn
                obtain ⟨pL, oL, ha, cp, -⟩ := H4.out.2.2.1.get hjl
                subst ha
                obtain ⟨k, hk, k1, kn, ks, kS⟩ := silL_get (x := y) H4.out.1.ok (i := j) (by rw [← HN4.out.2]; exact hjl)
                have hk' : (L4[j]'hjl) = ((k : Nat) : Int) := by
                  have : L4 = silL y := HN4.out.2
                  subst this
                  exact hk
                rw [hk'] at cp
                have q1 : ¬ (((k : Nat) : Int) < 1) := by omega
                have q2 : ¬ (((n : Nat) : Int) < (k : Nat)) := by have := H4.out.2.2.2.n; omega
                have q3 : ¬ (((k : Nat) : Int) = (s : Nat)) := by have := H4.out.2.2.2.self; omega
                have HJ : Hid (j < n4) := hjn
                clear hjn hjl hk hk' k1 kn ks kS hj
                go_wp2_with fail
                go_round
                case rel => exact ⟨j + 1, HJ.out, by go_num⟩
                case measure => have h1 := HJ.out; simp [Go.RowKit.intOf]; omega
              · obtain rfl : j = n4 := by omega
                have hnl : ¬ ((j : Int) < (j : Int)) := Int.lt_irrefl _
                clear hjn hj
                go_wp2_with fail
                refine HKr4.out _ _ ?_
                clear HKr4
                go_wp2_with fail
                go_loop [18] (fun jv => ∃ K : Nat, 1 ≤ K ∧ K ≤ n + 1 ∧ jv = .int .i64 (K : Nat)) (fun jv => n + 1 - (Go.RowKit.intOf jv).toNat)
                case atStart => exact ⟨1, Nat.le_refl _, Nat.le_add_left _ _, rfl⟩
                case round =>
                  obtain ⟨K, hK1, hK, rfl⟩ := hrel
                  by_cases hKn : K ≤ n
                  · have hKn' : (K : Int) ≤ (n : Nat) := by omega
                    have HJ : Hid (1 ≤ K ∧ K ≤ n ∧ K ≤ 10) := ⟨hK1, hKn, by have := HS.out.2.2.1; omega⟩
                    have K10 : (K : Int) ≤ 10 := by have := HS.out.2.2.1; omega
                    by_cases hKs : K = s
                    · have KT : Hid (∀ w', WatchAt w' g y → Calls Try.prog 17 #[.pointer (some ⟨g, 0, none⟩), .int .i64 (K : Nat)] w' fun e w'' => e = .returned (.tuple #[.int .i64 0, .int .i64 0]) ∧ w'' = w') :=
                        fun w' h => by rw [hKs, ← H4.out.2.2.2.self]; exact timeout_self g _ w' h
                      have q0 : (K : Int) = (s : Nat) := by omega
                      have HKs : Hid (K = s) := hKs
                      clear hK1 hK hKn hKs
                      subst_vars
                      go_wp2_with fail
                      refine (KT.out _ H4.out.1).mono ?_
                      rintro e w5 ⟨rfl, rfl⟩
                      go_wp2_with fail
                      go_round
                      case rel => exact ⟨K + 1, Nat.le_add_left _ _, Nat.succ_le_succ HJ.out.2.1, by go_num⟩
                      case measure => have h1 := HJ.out; simp [Go.RowKit.intOf]; omega
                    · have hT := H4.out.2.2.2.t K
                      obtain ⟨T, hTT⟩ : ∃ T, T = Wt.t y K := ⟨_, rfl⟩
                      have KT : Hid (∀ w', WatchAt w' g y → Calls Try.prog 17 #[.pointer (some ⟨g, 0, none⟩), .int .i64 (K : Nat)] w' fun e w'' => e = .returned (.tuple #[.int .i64 (T : Nat), .int .i64 0]) ∧ w'' = w') :=
                        fun w' h => by rw [hTT]; exact timeout_ok g _ K HJ.out.1 (by rw [H4.out.2.2.2.n]; exact HJ.out.2.1) (by rw [H4.out.2.2.2.self]; exact hKs) w' h
                      rw [← hTT] at hT
                      have q0 : ¬ ((K : Int) = (s : Nat)) := by omega
                      clear hK1 hK hKn hKs hTT
                      unfold TmC at hT
                      rcases hT with rfl | rfl | rfl | rfl | rfl
                      all_goals
                        go_wp2_with fail
                        refine (KT.out _ H4.out.1).mono ?_
                        rintro e w5 ⟨rfl, rfl⟩
                        go_wp2_with fail
                        go_round
                      case rel => exact ⟨K + 1, Nat.le_add_left _ _, Nat.succ_le_succ HJ.out.2.1, by go_num⟩
                      case measure => have h1 := HJ.out; simp [Go.RowKit.intOf]; omega
                      case rel => exact ⟨K + 1, Nat.le_add_left _ _, Nat.succ_le_succ HJ.out.2.1, by go_num⟩
                      case measure => have h1 := HJ.out; simp [Go.RowKit.intOf]; omega
                      case rel => exact ⟨K + 1, Nat.le_add_left _ _, Nat.succ_le_succ HJ.out.2.1, by go_num⟩
                      case measure => have h1 := HJ.out; simp [Go.RowKit.intOf]; omega
                      case rel => exact ⟨K + 1, Nat.le_add_left _ _, Nat.succ_le_succ HJ.out.2.1, by go_num⟩
                      case measure => have h1 := HJ.out; simp [Go.RowKit.intOf]; omega
                      case rel => exact ⟨K + 1, Nat.le_add_left _ _, Nat.succ_le_succ HJ.out.2.1, by go_num⟩
                      case measure => have h1 := HJ.out; simp [Go.RowKit.intOf]; omega
                  · have hKn' : ¬ ((K : Int) ≤ (n : Nat)) := by omega
                    clear hK1 hK hKn
                    go_wp2_with fail
                    go_roundw
                    case rel => exact ⟨A, i + 1, y, HL.out, HT.out.2.1, rfl, by go_num, H4.out.2.2.2, H4.out.1, H4.out.2.1⟩
                    case measure => have h1 := HL.out; simp [Go.RowKit.intOf]; omega
        · by_cases hN : 1 ≤ N ∧ N ≤ (n : Nat)
          · as_aux_lemma =>
              obtain ⟨kN, rfl⟩ : ∃ k : Nat, N = (k : Nat) := ⟨N.toNat, by omega⟩
              have HK : Hid (1 ≤ kN ∧ kN ≤ n) := ⟨by omega, by omega⟩
              clear hN
              go_wp2_with fail
              refine (heard_ok g x kN A HK.out.1 (by rw [HA.out.2.2.1.n]; exact HK.out.2) HT.out.2.2.2 HT.out.2.2.1 _ (HA.out.1.call (below_alloc0 (Below.refl _ _) _))).mono ?_
              rintro e w2 ⟨rfl, hW2, hb2⟩
              obtain ⟨y, hy⟩ : ∃ y, y = heardW x kN A := ⟨_, rfl⟩
              have HP : Hid (WatchAt w2 g y ∧ Below g w w2 ∧ HrI y n s A) := ⟨by rw [hy]; exact hW2, below_but (bel HA.out.2.1 HA.out.1 (below_alloc0 (Below.refl _ _) _)) (Nat.le_refl _) (Nat.le_of_lt (HA.out.1.call (below_alloc0 (Below.refl _ _) _)).lt) hb2, by rw [hy]; exact HA.out.2.2.1.heard⟩
              have HY : Hid (y.s kN = false) := by show y.s kN = false; rw [hy]; unfold heardW; simp
              have HC : Hid (w2.cell? ⟨wr.heap.size, 1, none⟩ = some (.int .i64 (kN : Nat)) ∧ wr.heap.size < w2.heap.size) := by
                have hz : wr.heap.size < (wr.alloc (Obj.cells #[.int .i64 X, .int .i64 ((kN : Nat) : Int), .int .i64 ((m : Nat) : Int)] 32)).heap.size := by simp
                exact ⟨(hb2.cell (p := ⟨wr.heap.size, 1, none⟩) (not_from hz) (fun (c : wr.heap.size = g) => absurd HA.out.1.lt (by omega))).trans (by simp [go_sem]), Nat.lt_of_lt_of_le hz hb2.size⟩

              clear hW2 hb2 hy
              go_wp2_with fail
              refine (silent_any g y _ HP.out.1).mono ?_
              rintro e w3 ⟨a3, cap3, rfl, hI3, hb3⟩
              obtain ⟨L3, hL3⟩ : ∃ L, L = silL y := ⟨_, rfl⟩
              rw [← hL3] at hI3 ⊢
              obtain ⟨n3, hn3⟩ : ∃ n, n = L3.length := ⟨_, rfl⟩
              rw [← hn3]
              have HN3 : Hid (n3 = L3.length ∧ L3 = silL y) := ⟨hn3, hL3⟩
              have H3 : Hid (WatchAt w3 g y ∧ Below g w w3 ∧ IntsAt w3 a3 L3 ∧ HrI y n s A) := ⟨HP.out.1.call hb3, bel HP.out.2.1 HP.out.1 hb3, hI3.ints, HP.out.2.2⟩
              have n103 : (n3 : Int) ≤ 10 := by
                have h3 := lsN_len y.s y.n
                have h4 : (silL y).length = (lsN y.s y.n).length := rfl
                have h5 := HP.out.1.ok.n10
                rw [hn3, hL3, h4]
                omega
              have HC3 : Hid (w3.cell? ⟨wr.heap.size, 1, none⟩ = some (.int .i64 (kN : Nat))) := (hb3.cell (p := ⟨wr.heap.size, 1, none⟩) HC.out.2).trans HC.out.1
              clear hI3 hb3 hL3 hn3
              go_wp2_with fail
              rename ∀ (a : Act) (w : World), Code.wp Try.prog _ _ a w → _ => hKr3
              have HKr3 : Hid _ := hKr3
              clear hKr3
              go_loop [82] (fun jv => ∃ j : Nat, j ≤ n3 ∧ jv = .int .i64 (j : Nat)) (fun jv => n3 - (Go.RowKit.intOf jv).toNat)
              case atStart => exact ⟨0, Nat.zero_le _, rfl⟩
              case round =>
                obtain ⟨j, hj, rfl⟩ := hrel
                by_cases hjn : j < n3
                · clear HKr3
                  have hjn' : (j : Int) < (n3 : Nat) := by omega
                  have hjl : j < L3.length := by rw [← HN3.out.1]; exact hjn
                  obtain ⟨pL, oL, ha, cp, -⟩ := H3.out.2.2.1.get hjl
                  subst ha
                  obtain ⟨k, hk, k1, kn, ks, kS⟩ := silL_get (x := y) H3.out.1.ok (i := j) (by rw [← HN3.out.2]; exact hjl)
                  have hk' : (L3[j]'hjl) = ((k : Nat) : Int) := by
                    have : L3 = silL y := HN3.out.2
                    subst this
                    exact hk
                  rw [hk'] at cp
                  have q1 : ¬ (((k : Nat) : Int) < 1) := by omega
                  have q2 : ¬ (((n : Nat) : Int) < (k : Nat)) := by have := H3.out.2.2.2.n; omega
                  have q3 : ¬ (((k : Nat) : Int) = (s : Nat)) := by have := H3.out.2.2.2.self; omega
                  have q4 : ¬ (((k : Nat) : Int) = (kN : Nat)) := fun c => by
                    have c' : k = kN := by omega
                    rw [c', HY.out] at kS
                    cases kS
                  have HJ : Hid (j < n3) := hjn
                  have cN := HC3.out
                  clear hjn hjl hk hk' k1 kn ks kS hj q1 q2 q3
                  go_wp2_with fail
                  go_round
                  case rel => exact ⟨j + 1, HJ.out, by go_num⟩
                  case measure => have h1 := HJ.out; simp [Go.RowKit.intOf]; omega
                · obtain rfl : j = n3 := by omega
                  have hnl : ¬ ((j : Int) < (j : Int)) := Int.lt_irrefl _
                  clear hjn hj
                  go_wp2_with fail
                  refine HKr3.out _ _ ?_
                  clear HKr3
                  have HP3 : Hid (WatchAt w3 g y ∧ Below g w w3 ∧ HrI y n s A) := ⟨H3.out.1, H3.out.2.1, H3.out.2.2.2⟩
                  clear HP
                  have HP : Hid (WatchAt w3 g y ∧ Below g w w3 ∧ HrI y n s A) := HP3.out
                  clear HP3 hnl H3
                  go_wp2_with fail
                  refine (silent_any g y _ HP.out.1).mono ?_
                  rintro e w4 ⟨a4, cap4, rfl, hI4, hb4⟩
                  obtain ⟨L4, hL4⟩ : ∃ L, L = silL y := ⟨_, rfl⟩
                  rw [← hL4] at hI4 ⊢
                  obtain ⟨n4, hn4⟩ : ∃ n, n = L4.length := ⟨_, rfl⟩
                  rw [← hn4]
                  have HN4 : Hid (n4 = L4.length ∧ L4 = silL y) := ⟨hn4, hL4⟩
                  have H4 : Hid (WatchAt w4 g y ∧ Below g w w4 ∧ IntsAt w4 a4 L4 ∧ HrI y n s A) := ⟨HP.out.1.call hb4, bel HP.out.2.1 HP.out.1 hb4, hI4.ints, HP.out.2.2⟩
                  have n104 : (n4 : Int) ≤ 10 := by
                    have h3 := lsN_len y.s y.n
                    have h4 : (silL y).length = (lsN y.s y.n).length := rfl
                    have h5 := HP.out.1.ok.n10
                    rw [hn4, hL4, h4]
                    omega
                  clear hI4 hb4 hL4 hn4
                  go_wp2_with fail
                  rename ∀ (a : Act) (w : World), Code.wp Try.prog _ _ a w → _ => hKr4
                  have HKr4 : Hid _ := hKr4
                  clear hKr4
                  go_loop [98] (fun jv => ∃ j : Nat, j ≤ n4 ∧ jv = .int .i64 (j : Nat)) (fun jv => n4 - (Go.RowKit.intOf jv).toNat)
                  case atStart => exact ⟨0, Nat.zero_le _, rfl⟩
                  case round =>
                    obtain ⟨j, hj, rfl⟩ := hrel
                    by_cases hjn : j < n4
                    · clear HKr4
                      have hjn' : (j : Int) < (n4 : Nat) := by omega
                      have hjl : j < L4.length := by rw [← HN4.out.1]; exact hjn
                      obtain ⟨pL, oL, ha, cp, -⟩ := H4.out.2.2.1.get hjl
                      subst ha
                      obtain ⟨k, hk, k1, kn, ks, kS⟩ := silL_get (x := y) H4.out.1.ok (i := j) (by rw [← HN4.out.2]; exact hjl)
                      have hk' : (L4[j]'hjl) = ((k : Nat) : Int) := by
                        have : L4 = silL y := HN4.out.2
                        subst this
                        exact hk
                      rw [hk'] at cp
                      have q1 : ¬ (((k : Nat) : Int) < 1) := by omega
                      have q2 : ¬ (((n : Nat) : Int) < (k : Nat)) := by have := H4.out.2.2.2.n; omega
                      have q3 : ¬ (((k : Nat) : Int) = (s : Nat)) := by have := H4.out.2.2.2.self; omega
                      have HJ : Hid (j < n4) := hjn
                      clear hjn hjl hk hk' k1 kn ks kS hj
                      go_wp2_with fail
                      go_round
                      case rel => exact ⟨j + 1, HJ.out, by go_num⟩
                      case measure => have h1 := HJ.out; simp [Go.RowKit.intOf]; omega
                    · obtain rfl : j = n4 := by omega
                      have hnl : ¬ ((j : Int) < (j : Int)) := Int.lt_irrefl _
                      clear hjn hj
                      go_wp2_with fail
                      refine HKr4.out _ _ ?_
                      clear HKr4
                      go_wp2_with fail
                      go_loop [18] (fun jv => ∃ K : Nat, 1 ≤ K ∧ K ≤ n + 1 ∧ jv = .int .i64 (K : Nat)) (fun jv => n + 1 - (Go.RowKit.intOf jv).toNat)
                      case atStart => exact ⟨1, Nat.le_refl _, Nat.le_add_left _ _, rfl⟩
                      case round =>
                        obtain ⟨K, hK1, hK, rfl⟩ := hrel
                        by_cases hKn : K ≤ n
                        · have hKn' : (K : Int) ≤ (n : Nat) := by omega
                          have HJ : Hid (1 ≤ K ∧ K ≤ n ∧ K ≤ 10) := ⟨hK1, hKn, by have := HS.out.2.2.1; omega⟩
                          have K10 : (K : Int) ≤ 10 := by have := HS.out.2.2.1; omega
                          by_cases hKs : K = s
                          · have KT : Hid (∀ w', WatchAt w' g y → Calls Try.prog 17 #[.pointer (some ⟨g, 0, none⟩), .int .i64 (K : Nat)] w' fun e w'' => e = .returned (.tuple #[.int .i64 0, .int .i64 0]) ∧ w'' = w') :=
                              fun w' h => by rw [hKs, ← H4.out.2.2.2.self]; exact timeout_self g _ w' h
                            have q0 : (K : Int) = (s : Nat) := by omega
                            have HKs : Hid (K = s) := hKs
                            clear hK1 hK hKn hKs
                            subst_vars
                            go_wp2_with fail
                            refine (KT.out _ H4.out.1).mono ?_
                            rintro e w5 ⟨rfl, rfl⟩
                            go_wp2_with fail
                            go_round
                            case rel => exact ⟨K + 1, Nat.le_add_left _ _, Nat.succ_le_succ HJ.out.2.1, by go_num⟩
                            case measure => have h1 := HJ.out; simp [Go.RowKit.intOf]; omega
                          · have hT := H4.out.2.2.2.t K
                            obtain ⟨T, hTT⟩ : ∃ T, T = Wt.t y K := ⟨_, rfl⟩
                            have KT : Hid (∀ w', WatchAt w' g y → Calls Try.prog 17 #[.pointer (some ⟨g, 0, none⟩), .int .i64 (K : Nat)] w' fun e w'' => e = .returned (.tuple #[.int .i64 (T : Nat), .int .i64 0]) ∧ w'' = w') :=
                              fun w' h => by rw [hTT]; exact timeout_ok g _ K HJ.out.1 (by rw [H4.out.2.2.2.n]; exact HJ.out.2.1) (by rw [H4.out.2.2.2.self]; exact hKs) w' h
                            rw [← hTT] at hT
                            have q0 : ¬ ((K : Int) = (s : Nat)) := by omega
                            clear hK1 hK hKn hKs hTT
                            unfold TmC at hT
                            rcases hT with rfl | rfl | rfl | rfl | rfl
                            all_goals
                              go_wp2_with fail
                              refine (KT.out _ H4.out.1).mono ?_
                              rintro e w5 ⟨rfl, rfl⟩
                              go_wp2_with fail
                              go_round
                            case rel => exact ⟨K + 1, Nat.le_add_left _ _, Nat.succ_le_succ HJ.out.2.1, by go_num⟩
                            case measure => have h1 := HJ.out; simp [Go.RowKit.intOf]; omega
                            case rel => exact ⟨K + 1, Nat.le_add_left _ _, Nat.succ_le_succ HJ.out.2.1, by go_num⟩
                            case measure => have h1 := HJ.out; simp [Go.RowKit.intOf]; omega
                            case rel => exact ⟨K + 1, Nat.le_add_left _ _, Nat.succ_le_succ HJ.out.2.1, by go_num⟩
                            case measure => have h1 := HJ.out; simp [Go.RowKit.intOf]; omega
                            case rel => exact ⟨K + 1, Nat.le_add_left _ _, Nat.succ_le_succ HJ.out.2.1, by go_num⟩
                            case measure => have h1 := HJ.out; simp [Go.RowKit.intOf]; omega
                            case rel => exact ⟨K + 1, Nat.le_add_left _ _, Nat.succ_le_succ HJ.out.2.1, by go_num⟩
                            case measure => have h1 := HJ.out; simp [Go.RowKit.intOf]; omega
                        · have hKn' : ¬ ((K : Int) ≤ (n : Nat)) := by omega
                          clear hK1 hK hKn
                          go_wp2_with fail
                          go_roundw
                          case rel => exact ⟨A, i + 1, y, HL.out, HT.out.2.1, rfl, by go_num, H4.out.2.2.2, H4.out.1, H4.out.2.1⟩
                          case measure => have h1 := HL.out; simp [Go.RowKit.intOf]; omega
          · as_aux_lemma =>
              have HNo : Hid (¬ (1 ≤ N ∧ N ≤ (n : Nat))) := hN
              clear hN
              go_wp2_with fail
              refine (heard_no g x N _ (by rw [HA.out.2.2.1.n]; exact fun c => HNo.out c.1) _ (HA.out.1.call (below_alloc0 (Below.refl _ _) _))).mono ?_
              rintro e w2 ⟨rfl, rfl⟩
              have HP : Hid (WatchAt (wr.alloc (Obj.cells #[.int .i64 X, .int .i64 N, .int .i64 ((m : Nat) : Int)] 32)) g x ∧ Below g w (wr.alloc (Obj.cells #[.int .i64 X, .int .i64 N, .int .i64 ((m : Nat) : Int)] 32)) ∧ HrI x n s A) := ⟨HA.out.1.call (below_alloc0 (Below.refl _ _) _), bel HA.out.2.1 HA.out.1 (below_alloc0 (Below.refl _ _) _), HA.out.2.2.1.on HT.out.1⟩
              have HC : Hid ((wr.alloc (Obj.cells #[.int .i64 X, .int .i64 N, .int .i64 ((m : Nat) : Int)] 32)).cell? ⟨wr.heap.size, 1, none⟩ = some (.int .i64 N) ∧ wr.heap.size < (wr.alloc (Obj.cells #[.int .i64 X, .int .i64 N, .int .i64 ((m : Nat) : Int)] 32)).heap.size) := ⟨by simp [go_sem], by simp⟩
              go_wp2_with fail
              refine (silent_any g x _ HP.out.1).mono ?_
              rintro e w3 ⟨a3, cap3, rfl, hI3, hb3⟩
              obtain ⟨L3, hL3⟩ : ∃ L, L = silL x := ⟨_, rfl⟩
              rw [← hL3] at hI3 ⊢
              obtain ⟨n3, hn3⟩ : ∃ n, n = L3.length := ⟨_, rfl⟩
              rw [← hn3]
              have HN3 : Hid (n3 = L3.length ∧ L3 = silL x) := ⟨hn3, hL3⟩
              have H3 : Hid (WatchAt w3 g x ∧ Below g w w3 ∧ IntsAt w3 a3 L3 ∧ HrI x n s A) := ⟨HP.out.1.call hb3, bel HP.out.2.1 HP.out.1 hb3, hI3.ints, HP.out.2.2⟩
              have n103 : (n3 : Int) ≤ 10 := by
                have h3 := lsN_len x.s x.n
                have h4 : (silL x).length = (lsN x.s x.n).length := rfl
                have h5 := HP.out.1.ok.n10
                rw [hn3, hL3, h4]
                omega
              have HC3 : Hid (w3.cell? ⟨wr.heap.size, 1, none⟩ = some (.int .i64 N)) := (hb3.cell (p := ⟨wr.heap.size, 1, none⟩) HC.out.2).trans HC.out.1
              clear hI3 hb3 hL3 hn3
              go_wp2_with fail
              rename ∀ (a : Act) (w : World), Code.wp Try.prog _ _ a w → _ => hKr3
              have HKr3 : Hid _ := hKr3
              clear hKr3
              go_loop [82] (fun jv => ∃ j : Nat, j ≤ n3 ∧ jv = .int .i64 (j : Nat)) (fun jv => n3 - (Go.RowKit.intOf jv).toNat)
              case atStart => exact ⟨0, Nat.zero_le _, rfl⟩
              case round =>
                obtain ⟨j, hj, rfl⟩ := hrel
                by_cases hjn : j < n3
                · clear HKr3
                  have hjn' : (j : Int) < (n3 : Nat) := by omega
                  have hjl : j < L3.length := by rw [← HN3.out.1]; exact hjn
                  obtain ⟨pL, oL, ha, cp, -⟩ := H3.out.2.2.1.get hjl
                  subst ha
                  obtain ⟨k, hk, k1, kn, ks, kS⟩ := silL_get (x := x) H3.out.1.ok (i := j) (by rw [← HN3.out.2]; exact hjl)
                  have hk' : (L3[j]'hjl) = ((k : Nat) : Int) := by
                    have : L3 = silL x := HN3.out.2
                    subst this
                    exact hk
                  rw [hk'] at cp
                  have q1 : ¬ (((k : Nat) : Int) < 1) := by omega
                  have q2 : ¬ (((n : Nat) : Int) < (k : Nat)) := by have := H3.out.2.2.2.n; omega
                  have q3 : ¬ (((k : Nat) : Int) = (s : Nat)) := by have := H3.out.2.2.2.self; omega
                  have HJ : Hid (j < n3) := hjn
                  have cN := HC3.out
                  clear hjn hjl hk hk' k1 kn ks kS hj q1 q2 q3
                  go_wp2_with fail
                  go_round
                  case rel => exact ⟨j + 1, HJ.out, by go_num⟩
                  case measure => have h1 := HJ.out; simp [Go.RowKit.intOf]; omega
                · obtain rfl : j = n3 := by omega
                  have hnl : ¬ ((j : Int) < (j : Int)) := Int.lt_irrefl _
                  clear hjn hj
                  go_wp2_with fail
                  refine HKr3.out _ _ ?_
                  clear HKr3
                  have HP3 : Hid (WatchAt w3 g x ∧ Below g w w3 ∧ HrI x n s A) := ⟨H3.out.1, H3.out.2.1, H3.out.2.2.2⟩
                  clear HP
                  have HP : Hid (WatchAt w3 g x ∧ Below g w w3 ∧ HrI x n s A) := HP3.out
                  clear HP3 hnl H3
                  go_wp2_with fail
                  refine (silent_any g x _ HP.out.1).mono ?_
                  rintro e w4 ⟨a4, cap4, rfl, hI4, hb4⟩
                  obtain ⟨L4, hL4⟩ : ∃ L, L = silL x := ⟨_, rfl⟩
                  rw [← hL4] at hI4 ⊢
                  obtain ⟨n4, hn4⟩ : ∃ n, n = L4.length := ⟨_, rfl⟩
                  rw [← hn4]
                  have HN4 : Hid (n4 = L4.length ∧ L4 = silL x) := ⟨hn4, hL4⟩
                  have H4 : Hid (WatchAt w4 g x ∧ Below g w w4 ∧ IntsAt w4 a4 L4 ∧ HrI x n s A) := ⟨HP.out.1.call hb4, bel HP.out.2.1 HP.out.1 hb4, hI4.ints, HP.out.2.2⟩
                  have n104 : (n4 : Int) ≤ 10 := by
                    have h3 := lsN_len x.s x.n
                    have h4 : (silL x).length = (lsN x.s x.n).length := rfl
                    have h5 := HP.out.1.ok.n10
                    rw [hn4, hL4, h4]
                    omega
                  clear hI4 hb4 hL4 hn4
                  go_wp2_with fail
                  rename ∀ (a : Act) (w : World), Code.wp Try.prog _ _ a w → _ => hKr4
                  have HKr4 : Hid _ := hKr4
                  clear hKr4
                  go_loop [98] (fun jv => ∃ j : Nat, j ≤ n4 ∧ jv = .int .i64 (j : Nat)) (fun jv => n4 - (Go.RowKit.intOf jv).toNat)
                  case atStart => exact ⟨0, Nat.zero_le _, rfl⟩
                  case round =>
                    obtain ⟨j, hj, rfl⟩ := hrel
                    by_cases hjn : j < n4
                    · clear HKr4
                      have hjn' : (j : Int) < (n4 : Nat) := by omega
                      have hjl : j < L4.length := by rw [← HN4.out.1]; exact hjn
                      obtain ⟨pL, oL, ha, cp, -⟩ := H4.out.2.2.1.get hjl
                      subst ha
                      obtain ⟨k, hk, k1, kn, ks, kS⟩ := silL_get (x := x) H4.out.1.ok (i := j) (by rw [← HN4.out.2]; exact hjl)
                      have hk' : (L4[j]'hjl) = ((k : Nat) : Int) := by
                        have : L4 = silL x := HN4.out.2
                        subst this
                        exact hk
                      rw [hk'] at cp
                      have q1 : ¬ (((k : Nat) : Int) < 1) := by omega
                      have q2 : ¬ (((n : Nat) : Int) < (k : Nat)) := by have := H4.out.2.2.2.n; omega
                      have q3 : ¬ (((k : Nat) : Int) = (s : Nat)) := by have := H4.out.2.2.2.self; omega
                      have HJ : Hid (j < n4) := hjn
                      clear hjn hjl hk hk' k1 kn ks kS hj
                      go_wp2_with fail
                      go_round
                      case rel => exact ⟨j + 1, HJ.out, by go_num⟩
                      case measure => have h1 := HJ.out; simp [Go.RowKit.intOf]; omega
                    · obtain rfl : j = n4 := by omega
                      have hnl : ¬ ((j : Int) < (j : Int)) := Int.lt_irrefl _
                      clear hjn hj
                      go_wp2_with fail
                      refine HKr4.out _ _ ?_
                      clear HKr4
                      go_wp2_with fail
                      go_loop [18] (fun jv => ∃ K : Nat, 1 ≤ K ∧ K ≤ n + 1 ∧ jv = .int .i64 (K : Nat)) (fun jv => n + 1 - (Go.RowKit.intOf jv).toNat)
                      case atStart => exact ⟨1, Nat.le_refl _, Nat.le_add_left _ _, rfl⟩
                      case round =>
                        obtain ⟨K, hK1, hK, rfl⟩ := hrel
                        by_cases hKn : K ≤ n
                        · have hKn' : (K : Int) ≤ (n : Nat) := by omega
                          have HJ : Hid (1 ≤ K ∧ K ≤ n ∧ K ≤ 10) := ⟨hK1, hKn, by have := HS.out.2.2.1; omega⟩
                          have K10 : (K : Int) ≤ 10 := by have := HS.out.2.2.1; omega
                          by_cases hKs : K = s
                          · have KT : Hid (∀ w', WatchAt w' g x → Calls Try.prog 17 #[.pointer (some ⟨g, 0, none⟩), .int .i64 (K : Nat)] w' fun e w'' => e = .returned (.tuple #[.int .i64 0, .int .i64 0]) ∧ w'' = w') :=
                              fun w' h => by rw [hKs, ← H4.out.2.2.2.self]; exact timeout_self g _ w' h
                            have q0 : (K : Int) = (s : Nat) := by omega
                            have HKs : Hid (K = s) := hKs
                            clear hK1 hK hKn hKs
                            subst_vars
                            go_wp2_with fail
                            refine (KT.out _ H4.out.1).mono ?_
                            rintro e w5 ⟨rfl, rfl⟩
                            go_wp2_with fail
                            go_round
                            case rel => exact ⟨K + 1, Nat.le_add_left _ _, Nat.succ_le_succ HJ.out.2.1, by go_num⟩
                            case measure => have h1 := HJ.out; simp [Go.RowKit.intOf]; omega
                          · have hT := H4.out.2.2.2.t K
                            obtain ⟨T, hTT⟩ : ∃ T, T = Wt.t x K := ⟨_, rfl⟩
                            have KT : Hid (∀ w', WatchAt w' g x → Calls Try.prog 17 #[.pointer (some ⟨g, 0, none⟩), .int .i64 (K : Nat)] w' fun e w'' => e = .returned (.tuple #[.int .i64 (T : Nat), .int .i64 0]) ∧ w'' = w') :=
                              fun w' h => by rw [hTT]; exact timeout_ok g _ K HJ.out.1 (by rw [H4.out.2.2.2.n]; exact HJ.out.2.1) (by rw [H4.out.2.2.2.self]; exact hKs) w' h
                            rw [← hTT] at hT
                            have q0 : ¬ ((K : Int) = (s : Nat)) := by omega
                            clear hK1 hK hKn hKs hTT
                            unfold TmC at hT
                            rcases hT with rfl | rfl | rfl | rfl | rfl
                            all_goals
                              go_wp2_with fail
                              refine (KT.out _ H4.out.1).mono ?_
                              rintro e w5 ⟨rfl, rfl⟩
                              go_wp2_with fail
                              go_round
                            case rel => exact ⟨K + 1, Nat.le_add_left _ _, Nat.succ_le_succ HJ.out.2.1, by go_num⟩
                            case measure => have h1 := HJ.out; simp [Go.RowKit.intOf]; omega
                            case rel => exact ⟨K + 1, Nat.le_add_left _ _, Nat.succ_le_succ HJ.out.2.1, by go_num⟩
                            case measure => have h1 := HJ.out; simp [Go.RowKit.intOf]; omega
                            case rel => exact ⟨K + 1, Nat.le_add_left _ _, Nat.succ_le_succ HJ.out.2.1, by go_num⟩
                            case measure => have h1 := HJ.out; simp [Go.RowKit.intOf]; omega
                            case rel => exact ⟨K + 1, Nat.le_add_left _ _, Nat.succ_le_succ HJ.out.2.1, by go_num⟩
                            case measure => have h1 := HJ.out; simp [Go.RowKit.intOf]; omega
                            case rel => exact ⟨K + 1, Nat.le_add_left _ _, Nat.succ_le_succ HJ.out.2.1, by go_num⟩
                            case measure => have h1 := HJ.out; simp [Go.RowKit.intOf]; omega
                        · have hKn' : ¬ ((K : Int) ≤ (n : Nat)) := by omega
                          clear hK1 hK hKn
                          go_wp2_with fail
                          go_roundw
                          case rel => exact ⟨A, i + 1, x, HL.out, HT.out.2.1, rfl, by go_num, H4.out.2.2.2, H4.out.1, H4.out.2.1⟩
                          case measure => have h1 := HL.out; simp [Go.RowKit.intOf]; omega
    · obtain rfl : i = len := by omega
      have hnl : ¬ ((i : Int) < (i : Int)) := Int.lt_irrefl _
      clear hlt hi hnow hF hW hB
      go_wp2_with fail
      refine HKr.out _ _ ?_
      clear HKr
      go_wp2_with fail
      refine (five_any _).mono ?_
      rintro e w2 ⟨rfl, hb⟩
      have HB : Hid _ := hb
      clear hb
      go_wp2_with fail
      go_ret
      refine ⟨rfl, ?_⟩
      have h := HA.out.2.1
      rw [HG.out] at h
      exact below_call0 h HB.out
theorem beatHeard_any (n s : Int) (a : Option Addr) (len cap : Nat) (w : World) (hS : StepsIn w a len) : Calls Try.prog 8 #[.int .i64 n, .int .i64 s, .slice a len cap] w fun e w' => e = .returned (.bool true) ∧ Below w.heap.size w w' := by
  by_cases h : (1 ≤ n ∧ n ≤ 10) ∧ 1 ≤ s ∧ s ≤ n
  · have h1 : n = ((n.toNat : Nat) : Int) := by omega
    have h2 : s = ((s.toNat : Nat) : Int) := by omega
    rw [h1, h2]
    rcases Nat.lt_or_ge 300 len with c | c
    · exact beatHeard_long _ _ a len cap (by omega) (by omega) (by omega) (by omega) c w
    · exact beatHeard_in _ _ a len cap (by omega) (by omega) (by omega) (by omega) c w hS
  · exact beatHeard_bad n s a len cap h w
end Go.Proofs.Ytpgpbfcomobfkaa
