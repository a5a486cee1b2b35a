/- Package feld: powers. -/
import Derived.Test.YtocjeboicofflaaDoorFtC
namespace Go.Proofs.YtocjeboicofflaaDoor
open Go Go.RowKit Go.Lib
theorem infoNumF : ∃ i, Tryd.prog.info? 34 = some i ∧ i.zero = some (.agg #[.int .u64 0, .int .u64 0, .int .u64 0, .int .u64 0]) ∧ i.size = 4 ∧ i.bytes = 32 := by
  have h : (Tryd.prog.info? 34).map (fun i => (i.zero, i.size, i.bytes)) = some (some (.agg #[.int .u64 0, .int .u64 0, .int .u64 0, .int .u64 0]), 4, 32) := by kernel_rfl
  cases e : Tryd.prog.info? 34 with
  | none => rw [e] at h; cases h
  | some i =>
    rw [e] at h
    simp only [Option.map_some, Option.some.injEq, Prod.mk.injEq] at h
    exact ⟨i, rfl, h.1, h.2.1, h.2.2⟩
theorem make_nums (n : Nat) (hn : n ≤ 1000000) (w : World) : (Instr.makeSlice 22 (.int .i64 (n : Int)) (.int .i64 (n : Int))).run Tryd.prog w = .ok (.slice (some ⟨w.heap.size, 0, none⟩) n n) (w.alloc (.cells (madeCells #[.int .u64 0, .int .u64 0, .int .u64 0, .int .u64 0] (n * 4)) 34)) := by
  obtain ⟨i, hi, hz, hsize, hby⟩ := infoNumF
  have h := run_make (P := Tryd.prog) w 22 34 i _ Tryd.underlying22 hi hz .i64 .i64 (n : Int) (n : Int) (by omega) (Int.le_refl _) (by rw [hby]; omega) (by omega)
  rw [hsize] at h
  simp only [Int.toNat_natCast] at h
  exact h
/-- The powers so far. -/
def fX (x i j : Nat) : List Value := if j < i then numV (x ^ j % QQ) else [.int .u64 0, .int .u64 0, .int .u64 0, .int .u64 0]
theorem fX_step (x i j : Nat) : (if j = i then numV (x ^ i % QQ) else fX x i j) = fX x (i + 1) j := by
  unfold fX
  by_cases e : j = i
  · rw [if_pos e, if_pos (by omega), e]
  · rw [if_neg e]
    by_cases c : j < i
    · rw [if_pos c, if_pos (by omega)]
    · rw [if_neg c, if_neg (by omega)]
theorem fX_at {x i j : Nat} (h : j < i) : fX x i j = numV (x ^ j % QQ) := if_pos h
theorem fX_nums {w : World} {p n x : Nat} (h : TabL w p n 4 (fX x n)) : NumsAt w (some ⟨p, 0, none⟩) ((List.range n).map fun i => x ^ i % QQ) := fun j m hj => by
  have hj' : j < n := by
    rcases Nat.lt_or_ge j n with h' | h'
    · exact h'
    · rw [List.getElem?_eq_none (by simpa using h')] at hj
      cases hj
  have e : m = x ^ j % QQ := by
    rw [List.getElem?_map, List.getElem?_eq_getElem (by simpa using hj')] at hj
    simpa using hj.symm
  have t := fun c v (hv : (numV m)[c]? = some v) => h.2.2.2 j hj' c v (by rw [fX_at hj', ← e]; exact hv)
  refine ⟨p, 0, rfl, h.1, ?_, ?_, ?_, ?_⟩
  all_goals rw [Nat.zero_add]
  · exact t 0 _ rfl
  · exact t 1 _ rfl
  · exact t 2 _ rfl
  · exact t 3 _ rfl
theorem FieldB.putsF {g m p : Nat} (hne : p ≠ g) : ∀ (vs : List Value) (j : Nat) (W : World), FieldB W g m → FieldB (putL p j vs W) g m
  | [], _, _, h => h
  | _ :: r, j, _, h => FieldB.putsF hne r (j + 1) _ (h.set hne)
theorem one_Q : 1 % QQ = 1 := by kernel_rfl
theorem pow_step (x i : Nat) (h : 1 ≤ i) : x ^ (i - 1) % QQ * x % QQ = x ^ i % QQ := by
  obtain ⟨j, rfl⟩ : ∃ j, i = j + 1 := ⟨i - 1, by omega⟩
  rw [Nat.add_sub_cancel, Nat.pow_succ, Nat.mod_mul_mod]
theorem one_V (x : Nat) : numV (x ^ 0 % QQ) = [.int .u64 1, .int .u64 0, .int .u64 0, .int .u64 0] := by
  obtain ⟨e0, e1, e2, e3⟩ := limb_small 1 (of_decide_eq_true (by kernel_rfl))
  unfold numV
  rw [Nat.pow_zero, one_Q, e0, e1, e2, e3]
  rfl
theorem pow_lt (x j : Nat) : x ^ j % QQ < QQ := Nat.mod_lt _ (of_decide_eq_true (by kernel_rfl))
set_option maxRecDepth 100000 in
set_option maxHeartbeats 4000000 in
theorem powers_ok (x n : Nat) (hx : x ≤ 10) (hn : 1 ≤ n ∧ n ≤ 10) (w : World) (hQ : GlobQ w) :
    Calls Tryd.prog 31 #[.int .i64 (x : Nat), .int .i64 (n : Nat)] w fun e w' => ∃ b, e = .returned (.slice (some ⟨b, 0, none⟩) n n) ∧ NumsAt w' (some ⟨b, 0, none⟩) ((List.range n).map fun i => x ^ i % QQ) ∧ Below w.heap.size w w' := by
  have KS : Hid _ := scalars_any
  have KM : Hid (∀ (g p : Nat) (w : World), p < QQ → FieldB w g QQ → Calls Tryd.prog 58 #[.pointer (some ⟨g, 0, none⟩), .agg #[.int .u64 (limb p 0 : Nat), .int .u64 (limb p 1 : Nat), .int .u64 (limb p 2 : Nat), .int .u64 (limb p 3 : Nat)], .agg #[.int .u64 (x : Nat), .int .u64 0, .int .u64 0, .int .u64 0]] w fun e w' => ∃ r, r = p * x % QQ ∧ e = .returned (.tuple #[.agg #[.int .u64 (limb r 0 : Nat), .int .u64 (limb r 1 : Nat), .int .u64 (limb r 2 : Nat), .int .u64 (limb r 3 : Nat)], .int .i64 0]) ∧ Below w.heap.size w w') := fun g p w hp h => by
    have k := fmul_in g QQ p x FM_Q hp (Nat.lt_of_le_of_lt hx (of_decide_eq_true (by kernel_rfl))) w h
    obtain ⟨e0, e1, e2, e3⟩ := limb_small x (Nat.lt_of_le_of_lt hx (of_decide_eq_true (by kernel_rfl)))
    rw [e0, e1, e2, e3] at k
    refine k.mono ?_
    rintro e w' ⟨he, hb⟩
    exact ⟨_, rfl, he, hb⟩
  have hx1 : (0 : Int) ≤ (x : Int) := by omega
  have hx2 : (x : Int) ≤ 10 := by omega
  have hn1 : (1 : Int) ≤ (n : Int) := by omega
  have hn2 : (n : Int) ≤ 10 := by omega
  have hm : ∀ w, (Instr.makeSlice 22 (.int .i64 (n : Int)) (.int .i64 (n : Int))).run Tryd.prog w = .ok (.slice (some ⟨w.heap.size, 0, none⟩) n n) (w.alloc (.cells (madeCells #[.int .u64 0, .int .u64 0, .int .u64 0, .int .u64 0] (n * 4)) 34)) := fun w => make_nums n (by omega) w
  have H0 : Hid (GlobQ w ∧ x ≤ 10 ∧ 1 ≤ n ∧ n ≤ 10) := ⟨hQ, hx, hn⟩
  clear hQ hx hn
  go_enter Tryd.func31, Tryd.ntmps31
  go_wp2_with fail
  refine (KS.out _ H0.out.1).mono ?_
  rintro e w1 ⟨g, rfl, hF1, hb1⟩
  obtain ⟨B, hB⟩ : ∃ B, B = w1.heap.size := ⟨_, rfl⟩
  obtain ⟨W2, hW2⟩ : ∃ W2, W2 = w1.alloc (.cells (madeCells #[.int .u64 0, .int .u64 0, .int .u64 0, .int .u64 0] (n * 4)) 34) := ⟨_, rfl⟩
  have H2 : Hid (TabL W2 B n 4 (fX x 0) ∧ Below w.heap.size w W2 ∧ FieldB W2 g QQ ∧ w.heap.size ≤ B ∧ g ≠ B) := by
    rw [hW2, hB]
    refine ⟨(TabL.made w1 [.int .u64 0, .int .u64 0, .int .u64 0, .int .u64 0] n 4 34 rfl (by decide)).congr (fun j _ => by unfold fX; rw [if_neg (by omega)]), below_alloc0 hb1 _, hF1.call (below_alloc0 (Below.refl _ _) _), hb1.size, ?_⟩
    have := hF1.2.2
    omega
  have HW : Hid (W2 = w1.alloc (.cells (madeCells #[.int .u64 0, .int .u64 0, .int .u64 0, .int .u64 0] (n * 4)) 34) ∧ B = w1.heap.size) := ⟨hW2, hB⟩
  clear hW2 hB hF1 hb1 KS
  go_upto_region 3 with fail
  rw [← HW.out.1, ← HW.out.2]
  clear HW hm
  have S2 : Hid ((storeVar 34 ⟨B, 0, none⟩ (.agg #[.int .u64 1, .int .u64 0, .int .u64 0, .int .u64 0])).run Tryd.prog W2 = .ok () (putL B (0 * 4) [.int .u64 1, .int .u64 0, .int .u64 0, .int .u64 0] W2)) := H2.out.1.store (i := 0) H0.out.2.2.1 [.int .u64 1, .int .u64 0, .int .u64 0, .int .u64 0] rfl (by kernel_rfl) (by kernel_rfl)
  go_upto_region 4 with ((with_reducible refine store_to (b := B) (k := 0) (x := 13) (y := 12) ?_ ?_ ?_ ?_ S2.out ?_); rfl; rfl; rfl; rfl)
  obtain ⟨W3, hW3⟩ : ∃ W3, W3 = putL B (0 * 4) [.int .u64 1, .int .u64 0, .int .u64 0, .int .u64 0] W2 := ⟨_, rfl⟩
  rw [← hW3]
  have H3 : Hid (TabL W3 B n 4 (fX x 1) ∧ Below w.heap.size w W3 ∧ FieldB W3 g QQ ∧ w.heap.size ≤ B ∧ g ≠ B) := by
    rw [hW3]
    refine ⟨(TabL.put 0 _ H2.out.1 H0.out.2.2.1 rfl).congr (fun j _ => ?_), below_putL H2.out.2.2.2.1 _ _ _ H2.out.2.1, FieldB.putsF H2.out.2.2.2.2.symm _ _ _ H2.out.2.2.1, H2.out.2.2.2⟩
    rw [← one_V x]
    exact fX_step x 0 j
  clear hW3 S2 H2
  go_wp2_with fail
  rename_i Kr hKr
  have HKr : Hid _ := hKr
  clear hKr
  go_loopw [7] (fun iv wr => ∃ j : Nat, j + 1 ≤ n ∧ iv = .int .i64 ((j : Int) + 1) ∧ TabL wr B n 4 (fX x (j + 1)) ∧ Below w.heap.size w wr ∧ FieldB wr g QQ) (fun iv _ => n - (Go.RowKit.intOf iv).toNat)
  case atStart => exact ⟨0, H0.out.2.2.1, rfl, H3.out.1, H3.out.2.1, H3.out.2.2.1⟩
  case round =>
    obtain ⟨j, hj, rfl, hT, hB, hF⟩ := hrel
    rename World => wr
    have HC : Hid (TabL wr B n 4 (fX x (j + 1)) ∧ Below w.heap.size w wr ∧ FieldB wr g QQ ∧ j + 1 ≤ n) := ⟨hT, hB, hF, hj⟩
    clear hT hB hF hj
    by_cases hlt : j + 1 < n
    · clear HKr
      have hlt' : (j : Int) + 1 < (n : Int) := by omega
      have hj0 : (0 : Int) ≤ (j : Int) := by omega
      go_upto_region 7 with fail
      have LJ : Hid ((loadVar 34 ⟨B, j * 4, none⟩).run Tryd.prog wr = .ok (.agg #[.int .u64 (limb (x ^ j % QQ) 0 : Nat), .int .u64 (limb (x ^ j % QQ) 1 : Nat), .int .u64 (limb (x ^ j % QQ) 2 : Nat), .int .u64 (limb (x ^ j % QQ) 3 : Nat)]) wr) := HC.out.1.load (i := j) (by omega) (fX_at (by omega)) Tryd.underlying34 rfl (by kernel_rfl)
      go_wp2_with ((with_reducible refine load_to (b := B) (k := j * 4) (x := 26) ?_ ?_ ?_ LJ.out ?_); rfl; rfl; rfl)
      refine (KM.out g (x ^ j % QQ) wr (pow_lt x j) HC.out.2.2.1).mono ?_
      rintro e w5 ⟨r, hr, rfl, hb5⟩
      have H5 : Hid (TabL w5 B n 4 (fX x (j + 1)) ∧ Below w.heap.size w w5 ∧ FieldB w5 g QQ ∧ r = x ^ (j + 1) % QQ) := ⟨HC.out.1.call hb5, below_call0 HC.out.2.1 hb5, HC.out.2.2.1.call hb5, by rw [hr]; exact pow_step x (j + 1) (by omega)⟩
      clear hb5 hr HC LJ
      have S5 : Hid ((storeVar 34 ⟨B, (j + 1) * 4, none⟩ (.agg #[.int .u64 (limb r 0 : Nat), .int .u64 (limb r 1 : Nat), .int .u64 (limb r 2 : Nat), .int .u64 (limb r 3 : Nat)])).run Tryd.prog w5 = .ok () (putL B ((j + 1) * 4) (numV r) w5)) := H5.out.1.store (i := j + 1) hlt (numV r) rfl (by kernel_rfl) (by kernel_rfl)
      go_upto_region 6 with ((with_reducible refine store_to (b := B) (k := (j + 1) * 4) (x := 34) (y := 32) ?_ ?_ ?_ ?_ S5.out ?_); rfl; rfl; rfl; rfl)
      obtain ⟨W6, hW6⟩ : ∃ W6, W6 = putL B ((j + 1) * 4) (numV r) w5 := ⟨_, rfl⟩
      rw [← hW6]
      have H6 : Hid (TabL W6 B n 4 (fX x (j + 1 + 1)) ∧ Below w.heap.size w W6 ∧ FieldB W6 g QQ) := by
        rw [hW6]
        refine ⟨(TabL.put (j + 1) _ H5.out.1 hlt rfl).congr (fun i _ => ?_), below_putL H3.out.2.2.2.1 _ _ _ H5.out.2.1, FieldB.putsF H3.out.2.2.2.2.symm _ _ _ H5.out.2.2.1⟩
        rw [H5.out.2.2.2]
        exact fX_step x (j + 1) i
      clear hW6 S5 H5
      go_wp2_with fail
      go_roundw
      case rel => first | exact ⟨j + 1, by omega, by go_num, H6.out⟩ | ((repeat apply Exists.intro); exact ⟨⟨j + 1, by omega, by go_num, H6.out⟩, rfl⟩)
      case measure => simp [intOf]; omega
    · obtain rfl : n = j + 1 := by have := HC.out.2.2.2; omega
      have hnl : ¬ ((j : Int) + 1 < ((j + 1 : Nat) : Int)) := by omega
      clear hlt KM
      go_wp2_with fail
      refine HKr.out _ _ ?_
      clear HKr
      go_wp2_with fail
      refine bodyPost_ret (v := .slice (some ⟨B, 0, none⟩) (j + 1) (j + 1)) (by simp [results, Tryd.results31]) rfl ⟨B, rfl, fX_nums HC.out.1, HC.out.2.1⟩
end Go.Proofs.YtocjeboicofflaaDoor
