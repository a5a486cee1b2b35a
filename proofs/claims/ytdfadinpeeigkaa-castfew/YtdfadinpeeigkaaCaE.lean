/- Which nodes fail; what a node hears. -/
import Derived.Test.YtdfadinpeeigkaaCaD
namespace Go.Proofs.Ytdfadinpeeigkaa
open Go Go.RowKit Go.Lib

def fcn (fl : Nat → Bool) (n : Nat) : Nat := (List.range n).countP fl
theorem countP_le_add {p q r : Nat → Bool} : ∀ L : List Nat, (∀ j ∈ L, q j = true → p j = true ∨ r j = true) → L.countP q ≤ L.countP p + L.countP r
  | [], _ => by simp
  | a :: L, h => by
    have ih := countP_le_add (p := p) (q := q) (r := r) L (fun j hj => h j (List.mem_cons_of_mem _ hj))
    have ha := h a (List.mem_cons_self)
    rw [List.countP_cons, List.countP_cons, List.countP_cons]
    cases hq : q a
    · simp; omega
    · rcases ha hq with e | e <;> simp [e] <;> omega
theorem fcn_first {fl : Nat → Bool} {n m : Nat} (hm : m ≤ n) (h : ∀ k, k < m → fl k = true) : m ≤ fcn fl n := by
  have e : (List.range m).countP fl = m := by
    have : (List.range m).countP fl = (List.range m).length := List.countP_eq_length.2 fun a ha => h a (List.mem_range.1 ha)
    rw [this, List.length_range]
  unfold fcn
  obtain ⟨d, rfl⟩ : ∃ d, n = m + d := ⟨n - m, by omega⟩
  rw [List.range_add, List.countP_append, e]
  omega
def bitS (s : Int) (k : Nat) : Bool := bits BinOp.and IntKind.i64 (s / 2 ^ k) 1 == 1
/-- How many of the first m bits are 1. -/
def ones (s : Int) : Nat → Nat
  | 0 => 0
  | k + 1 => ones s k + if bitS s k then 1 else 0
theorem ones_le (s : Int) : ∀ m, ones s m ≤ m
  | 0 => Nat.le_refl _
  | k + 1 => by have := ones_le s k; unfold ones; split <;> omega
/-- Does a node fail? -/
def flB (s : Int) (f i : Nat) : Bool := bitS s i && decide (ones s (i + 1) ≤ f)
theorem flB_count (s : Int) (f : Nat) : ∀ n, fcn (flB s f) n = min (ones s n) f
  | 0 => by unfold fcn ones; simp
  | n + 1 => by
    have ih := flB_count s f n
    unfold fcn at ih ⊢
    rw [List.range_succ, List.countP_append, ih]
    simp only [List.countP_cons, List.countP_nil]
    unfold flB
    have e : ones s (n + 1) = ones s n + if bitS s n then 1 else 0 := rfl
    cases hb : bitS s n
    · rw [hb] at e; simp at e; rw [e]; simp
    · rw [hb] at e; simp at e; rw [e]; simp
      split <;> omega
theorem flB_le (s : Int) (f n : Nat) : fcn (flB s f) n ≤ f := by rw [flB_count]; omega
theorem flB_zero (f i : Nat) : flB 0 f i = false := by
  unfold flB bitS
  rw [Int.zero_ediv]
  rfl
theorem bad_any (s : Int) (f i : Nat) (hf : f ≤ 10) (hi : i ≤ 10) (w : World) : Calls Try.prog 15 #[.int .i64 s, .int .i64 (f : Nat), .int .i64 (i : Nat)] w fun e w' => e = .returned (.bool (flB s f i)) ∧ w' = w := by
  have hi' : (i : Int) ≤ 10 := by omega
  have hf' : (f : Int) ≤ 10 := by omega
  have HI : Hid (i ≤ 10) := hi
  clear hi hf
  go_enter Try.func15, Try.ntmps15
  go_wp2_with fail
  rename_i Kr hKr
  have HKr : Hid _ := hKr
  clear hKr
  go_loopw [7, 8] (fun nv kv wr => ∃ k : Nat, k ≤ i + 1 ∧ nv = .int .i64 (ones s k : Nat) ∧ kv = .int .i64 (k : Nat) ∧ w = wr) (fun _ kv _ => i + 1 - (Go.RowKit.intOf kv).toNat)
  case atStart => exact ⟨0, Nat.zero_le _, rfl, rfl, rfl⟩
  case round =>
    obtain ⟨k, hk, rfl, rfl, hwr⟩ := hrel
    subst hwr
    by_cases hlt : k ≤ i
    · have h1 : (k : Int) ≤ (i : Int) := by omega
      have h2 : (k : Int) ≤ 10 := by omega
      have h3 : ((ones s k : Nat) : Int) ≤ 10 := by have := ones_le s k; omega
      have HO : Hid (ones s (k + 1) = ones s k + if bitS s k then 1 else 0) := rfl
      generalize ones s k = c at *
      have HK : Hid (k ≤ i) := hlt
      clear HKr hk hlt
      cases hb : bitS s k
      · have hb' : (bits BinOp.and IntKind.i64 (s / 2 ^ k) 1 == 1) = false := hb
        have HB : Hid _ := hb
        clear hb
        go_wp2_with fail
        go_roundw
        case rel =>
          have e := HO.out
          rw [HB.out] at e
          have e : ones s (k + 1) = c := by simpa using e
          first | exact ⟨k + 1, by have := HK.out; omega, by (rw [e]; try go_num), by go_num, by first | rfl | trivial⟩ | ((repeat apply Exists.intro); exact ⟨⟨k + 1, by have := HK.out; omega, by (rw [e]; try go_num), by go_num, by first | rfl | trivial⟩, rfl⟩)
        case measure => have h1 := HK.out; simp [Go.RowKit.intOf]; omega
      · have hb' : (bits BinOp.and IntKind.i64 (s / 2 ^ k) 1 == 1) = true := hb
        have HB : Hid _ := hb
        clear hb
        go_wp2_with fail
        go_roundw
        case rel =>
          have e := HO.out
          rw [HB.out] at e
          have e : ones s (k + 1) = c + 1 := by simpa using e
          first | exact ⟨k + 1, by have := HK.out; omega, by (rw [e]; try go_num), by go_num, by first | rfl | trivial⟩ | ((repeat apply Exists.intro); exact ⟨⟨k + 1, by have := HK.out; omega, by (rw [e]; try go_num), by go_num, by first | rfl | trivial⟩, rfl⟩)
        case measure => have h1 := HK.out; simp [Go.RowKit.intOf]; omega
    · obtain rfl : k = i + 1 := by omega
      have hn : ¬ (((i + 1 : Nat) : Int) ≤ (i : Int)) := by omega
      have HF : Hid (flB s f i = (bitS s i && decide (ones s (i + 1) ≤ f))) := rfl
      have h3 : ((ones s (i + 1) : Nat) : Int) ≤ 11 := by have := ones_le s (i + 1); omega
      generalize ones s (i + 1) = c at *
      clear hk hlt
      cases hb : bitS s i
      · have hb' : (bits BinOp.and IntKind.i64 (s / 2 ^ i) 1 == 1) = false := hb
        have HB : Hid _ := hb
        clear hb
        go_wp2_with fail
        refine HKr.out _ _ ?_
        clear HKr
        go_wp2_with fail
        go_ret
        rw [HF.out, HB.out]
        exact ⟨rfl, rfl⟩
      · have hb' : (bits BinOp.and IntKind.i64 (s / 2 ^ i) 1 == 1) = true := hb
        have HB : Hid _ := hb
        clear hb
        go_wp2_with fail
        refine HKr.out _ _ ?_
        clear HKr
        go_wp2_with fail
        go_ret
        rw [HF.out, HB.out]
        exact ⟨by simp, rfl⟩
/-- What a node hears: of those that fail other texts. -/
def vL (fl : Nat → Bool) (H O : List ByteArray) (n : Nat) : List ByteArray := (List.range n).map fun i => if fl i then O.getD i ⟨#[]⟩ else H.getD i ⟨#[]⟩
theorem vL_snoc (fl : Nat → Bool) (H O : List ByteArray) (n : Nat) : vL fl H O (n + 1) = vL fl H O n ++ [if fl n then O.getD n ⟨#[]⟩ else H.getD n ⟨#[]⟩] := by unfold vL; rw [List.range_succ, List.map_append]; rfl
theorem vL_len (fl : Nat → Bool) (H O : List ByteArray) (n : Nat) : (vL fl H O n).length = n := by unfold vL; simp
theorem getD_sz {l : List ByteArray} (h : ∀ s ∈ l, s.size < 140737488351233) (i : Nat) : (l.getD i ⟨#[]⟩).size < 140737488351233 := by
  rw [List.getD_eq_getElem?_getD]
  cases e : l[i]? with
  | none => decide
  | some t => exact h t (List.mem_of_getElem? e)
theorem vL_sz {fl : Nat → Bool} {H O : List ByteArray} {n : Nat} (hH : ∀ s ∈ H, s.size < 140737488351233) (hO : ∀ s ∈ O, s.size < 140737488351233) : ∀ s ∈ vL fl H O n, s.size < 140737488351233 := fun s hs => by
  unfold vL at hs
  obtain ⟨i, _, rfl⟩ := List.mem_map.1 hs
  split
  · exact getD_sz hO i
  · exact getD_sz hH i
theorem vL_ok {fl : Nat → Bool} {H O : List ByteArray} {n f : Nat} (h1 : 1 ≤ n) (h10 : n ≤ 10) (hf : 3 * f < n) (hH : ∀ s ∈ H, s.size < 140737488351233) (hO : ∀ s ∈ O, s.size < 140737488351233) : VotesOk n f (vL fl H O n) := ⟨h1, h10, hf, (vL_len _ _ _ _).symm, vL_sz hH hO⟩
theorem told_world {w w1 : World} {s : Int} {x1 x2 x3 : Value} (h : w1 = w.alloc (.cells #[.int .i64 s, x1, x2, x3] 32)) :
    w1.cell? ⟨w.heap.size, 0, none⟩ = some (.int .i64 s) ∧ w1.cell? ⟨w.heap.size, 1, none⟩ = some x1 ∧ w1.cell? ⟨w.heap.size, 2, none⟩ = some x2 ∧ w1.cell? ⟨w.heap.size, 3, none⟩ = some x3 ∧ w1.heap.size = w.heap.size + 1 ∧ Below w.heap.size w w1 := by
  have hb : Below w.heap.size w w1 := by rw [h]; exact below_alloc0 (Below.refl _ _) _
  refine ⟨?_, ?_, ?_, ?_, ?_, hb⟩ <;> (rw [h]; simp [go_sem])
set_option maxRecDepth 100000 in
set_option maxHeartbeats 8000000 in
theorem votes_any (n f : Nat) (h10 : n ≤ 10) (hf : f ≤ 10) (s : Int) (ha aa ba oa : Option Addr) (hc al ac bl bc oc : Nat) (H O : List ByteArray) (hl ol : Nat) (hhl : hl = H.length) (hol : ol = O.length) (w : World) (hH : Strs w ha H) (hO : Strs w oa O) :
    Calls Try.prog 14 #[.int .i64 (n : Nat), .int .i64 (f : Nat), .agg #[.int .i64 s, .slice ha hl hc, .slice aa al ac, .slice ba bl bc], .slice oa ol oc] w fun e w' => ∃ ra rc, e = .returned (.slice ra n rc) ∧ Strs w' ra (vL (flB s f) H O n) ∧ Below w.heap.size w w' := by
  obtain ⟨w1, hw1⟩ : ∃ w1, w1 = w.alloc (.cells #[.int .i64 s, .slice ha hl hc, .slice aa al ac, .slice ba bl bc] 32) := ⟨_, rfl⟩
  obtain ⟨p0, p1, _, _, hz1, hB1⟩ := told_world hw1
  obtain ⟨A, hA⟩ : ∃ A, A = w.heap.size := ⟨_, rfl⟩
  have HC : Hid (n ≤ 10 ∧ f ≤ 10 ∧ hl = H.length ∧ ol = O.length ∧ A = w.heap.size ∧ w1.heap.size = A + 1 ∧ Below w.heap.size w w1) := ⟨h10, hf, hhl, hol, hA, by omega, hB1⟩
  rw [← hA] at p0 p1
  have HP : Hid (w1.cell? ⟨A, 0, none⟩ = some (.int .i64 s) ∧ w1.cell? ⟨A, 1, none⟩ = some (.slice ha hl hc)) := ⟨p0, p1⟩
  have HS : Hid (Strs w1 ha H ∧ Strs w1 oa O) := ⟨hH.call hB1, hO.call hB1⟩
  have HW : Hid (w1 = w.alloc (.cells #[.int .i64 s, .slice ha hl hc, .slice aa al ac, .slice ba bl bc] 32)) := hw1
  have n10 : (n : Int) ≤ 10 := by omega
  have f10 : (f : Int) ≤ 10 := by omega
  clear h10 hf hhl hol hH hO hz1 hB1 p0 p1 hw1
  go_enter Try.func14, Try.ntmps14
  go_wp2_with fail
  rename_i Kr hKr
  have HKr : Hid _ := hKr
  clear hKr
  rw [← hA]
  change Code.wp _ _ _ _ (w.alloc (.cells #[.int .i64 s, .slice ha hl hc, .slice aa al ac, .slice ba bl bc] 32))
  rw [← HW.out]
  clear hA
  go_loopw [9, 10] (fun ov iv wr => ∃ (i m : Nat) (ra : Option Addr) (rc : Nat), i ≤ n ∧ m = i ∧ ov = .slice ra m rc ∧ iv = .int .i64 (i : Nat) ∧ RowS wr w1.heap.size ra (vL (flB s f) H O i) rc ∧ Below w1.heap.size w1 wr) (fun _ iv _ => n - (Go.RowKit.intOf iv).toNat)
  case atStart => exact ⟨0, 0, none, 0, Nat.zero_le _, rfl, rfl, rfl, RowS.nil _ _, Below.refl _ _⟩
  case round =>
    obtain ⟨i, m, ra, rc, hi, hm, rfl, rfl, hRow, hB⟩ := hrel
    rename World => wr
    have HK : Hid (m = i ∧ RowS wr w1.heap.size ra (vL (flB s f) H O i) rc ∧ Below w1.heap.size w1 wr) := ⟨hm, hRow, hB⟩
    have c0 := (hB.cell (p := ⟨A, 0, none⟩) (by have := HC.out; show A < _; omega)).trans HP.out.1
    have c1 := (hB.cell (p := ⟨A, 1, none⟩) (by have := HC.out; show A < _; omega)).trans HP.out.2
    by_cases hlt : i < n
    · have hlt' : (i : Int) < (n : Int) := by omega
      have hi0 : (0 : Int) ≤ (i : Int) := by omega
      have HLT : Hid (i < n) := hlt
      have KF : Hid (∀ w, Calls Try.prog 15 #[.int .i64 s, .int .i64 (f : Nat), .int .i64 (i : Nat)] w fun e w' => e = .returned (.bool (flB s f i)) ∧ w' = w) := fun w => bad_any s f i (by have := HC.out; omega) (by have := HC.out; omega) w
      have HSr : Hid (Strs wr ha H ∧ Strs wr oa O) := ⟨HS.out.1.call hB, HS.out.2.call hB⟩
      have HVL : Hid (vL (flB s f) H O (i + 1) = vL (flB s f) H O i ++ [if flB s f i then O.getD i ⟨#[]⟩ else H.getD i ⟨#[]⟩]) := vL_snoc _ _ _ _
      obtain ⟨D, hD⟩ : ∃ D, D = flB s f i := ⟨_, rfl⟩
      rw [← hD] at KF HVL
      clear HKr hi hm hRow hB hlt hD
      cases D with
      | true =>
        have HV2 : Hid (vL (flB s f) H O (i + 1) = vL (flB s f) H O i ++ [O.getD i ⟨#[]⟩]) := HVL.out
        have hcase : (ol ≤ i ∧ O.getD i ⟨#[]⟩ = ⟨#[]⟩) ∨ ∃ t, i < ol ∧ O[i]? = some t ∧ O.getD i ⟨#[]⟩ = t := by
          by_cases c : i < ol
          · have e := List.getElem?_eq_getElem (show i < O.length from by have := HC.out.2.2.2.1; omega)
            exact .inr ⟨_, c, e, by rw [List.getD_eq_getElem?_getD, e]; rfl⟩
          · exact .inl ⟨by omega, by rw [List.getD_eq_getElem?_getD, List.getElem?_eq_none (by have := HC.out.2.2.2.1; omega)]; rfl⟩
        rcases hcase with ⟨q1, q2⟩ | ⟨t, q1, q2, q3⟩
        · have q1' : ¬ ((i : Int) < (ol : Int)) := by omega
          have HQ : Hid _ := q2
          clear q1 q2
          obtain ⟨w7, hw7⟩ : ∃ w7, w7 = wr.alloc (.cells #[.string (⟨#[]⟩ : ByteArray)] 9) := ⟨_, rfl⟩
          have hb7 : Below wr.heap.size wr w7 := by rw [hw7]; exact below_alloc0 (Below.refl _ _) _
          have hc7 : w7.cell? ⟨wr.heap.size, 0, none⟩ = some (.string (⟨#[]⟩ : ByteArray)) := by rw [hw7, World.cell?_alloc_new]; rfl
          have H7 : Hid (RowS w7 w1.heap.size ra (vL (flB s f) H O i) rc ∧ Below w1.heap.size w1 w7 ∧ w7.cell? ⟨wr.heap.size, 0, none⟩ = some (.string (⟨#[]⟩ : ByteArray)) ∧ w7 = wr.alloc (.cells #[.string (⟨#[]⟩ : ByteArray)] 9)) := ⟨HK.out.2.1.call hb7, below_call0 HK.out.2.2 hb7, hc7, hw7⟩
          clear hb7 hc7 hw7
          go_wp2_with fail
          refine (KF.out _).mono ?_
          rintro e w6 ⟨rfl, hw6⟩
          obtain rfl : wr = w6 := hw6.symm
          go_wp2_with (at_builtin; change wpList _ _ _ _ _ (wr.alloc (.cells #[.string (⟨#[]⟩ : ByteArray)] 9)); rw [← H7.out.2.2.2]; refine wpList_append_RowS _ rfl _ _ rfl w1.heap.size ra m rc (vL (flB s f) H O i) (⟨#[]⟩ : ByteArray) rfl (by rw [vL_len]; exact HK.out.1) H7.out.1 H7.out.2.1.size (by rw [vL_len]; have := HLT.out; have := HC.out.1; omega) ⟨wr.heap.size, 0, none⟩ 1 rfl H7.out.2.2.1 ?_; intro a9 m9 cap9 w9 hm9 hR9 hb9; have H9 : Hid (m9 = m + 1 ∧ RowS w9 w1.heap.size a9 (vL (flB s f) H O i ++ [(⟨#[]⟩ : ByteArray)]) cap9 ∧ Below w1.heap.size w7 w9) := ⟨hm9, hR9, hb9⟩; clear hm9 hR9 hb9)
          have HE : Hid (m9 = i + 1 ∧ RowS w9 w1.heap.size a9 (vL (flB s f) H O (i + 1)) cap9 ∧ Below w1.heap.size w1 w9) := ⟨by rw [H9.out.1, HK.out.1], by rw [HV2.out, HQ.out]; exact H9.out.2.1, H7.out.2.1.trans H9.out.2.2⟩
          go_roundw
          case rel => first | exact ⟨i + 1, m9, a9, cap9, HLT.out, HE.out.1, rfl, by go_num, HE.out.2⟩ | ((repeat apply Exists.intro); exact ⟨⟨i + 1, m9, a9, cap9, HLT.out, HE.out.1, rfl, by go_num, HE.out.2⟩, rfl⟩)
          case measure => have h1 := HLT.out; simp [Go.RowKit.intOf]; omega
        · have q1' : (i : Int) < (ol : Int) := by omega
          obtain ⟨p, o, hpa, cp, _⟩ := HSr.out.2 i t q2
          subst hpa
          have HQ : Hid _ := q3
          clear q1 q2 q3
          obtain ⟨w7, hw7⟩ : ∃ w7, w7 = wr.alloc (.cells #[.string t] 9) := ⟨_, rfl⟩
          have hb7 : Below wr.heap.size wr w7 := by rw [hw7]; exact below_alloc0 (Below.refl _ _) _
          have hc7 : w7.cell? ⟨wr.heap.size, 0, none⟩ = some (.string t) := by rw [hw7, World.cell?_alloc_new]; rfl
          have H7 : Hid (RowS w7 w1.heap.size ra (vL (flB s f) H O i) rc ∧ Below w1.heap.size w1 w7 ∧ w7.cell? ⟨wr.heap.size, 0, none⟩ = some (.string t) ∧ w7 = wr.alloc (.cells #[.string t] 9)) := ⟨HK.out.2.1.call hb7, below_call0 HK.out.2.2 hb7, hc7, hw7⟩
          clear hb7 hc7 hw7
          go_wp2_with fail
          refine (KF.out _).mono ?_
          rintro e w6 ⟨rfl, hw6⟩
          obtain rfl : wr = w6 := hw6.symm
          go_wp2_with (at_builtin; change wpList _ _ _ _ _ (wr.alloc (.cells #[.string t] 9)); rw [← H7.out.2.2.2]; refine wpList_append_RowS _ rfl _ _ rfl w1.heap.size ra m rc (vL (flB s f) H O i) t rfl (by rw [vL_len]; exact HK.out.1) H7.out.1 H7.out.2.1.size (by rw [vL_len]; have := HLT.out; have := HC.out.1; omega) ⟨wr.heap.size, 0, none⟩ 1 rfl H7.out.2.2.1 ?_; intro a9 m9 cap9 w9 hm9 hR9 hb9; have H9 : Hid (m9 = m + 1 ∧ RowS w9 w1.heap.size a9 (vL (flB s f) H O i ++ [t]) cap9 ∧ Below w1.heap.size w7 w9) := ⟨hm9, hR9, hb9⟩; clear hm9 hR9 hb9)
          have HE : Hid (m9 = i + 1 ∧ RowS w9 w1.heap.size a9 (vL (flB s f) H O (i + 1)) cap9 ∧ Below w1.heap.size w1 w9) := ⟨by rw [H9.out.1, HK.out.1], by rw [HV2.out, HQ.out]; exact H9.out.2.1, H7.out.2.1.trans H9.out.2.2⟩
          go_roundw
          case rel => first | exact ⟨i + 1, m9, a9, cap9, HLT.out, HE.out.1, rfl, by go_num, HE.out.2⟩ | ((repeat apply Exists.intro); exact ⟨⟨i + 1, m9, a9, cap9, HLT.out, HE.out.1, rfl, by go_num, HE.out.2⟩, rfl⟩)
          case measure => have h1 := HLT.out; simp [Go.RowKit.intOf]; omega
      | false =>
        have HV2 : Hid (vL (flB s f) H O (i + 1) = vL (flB s f) H O i ++ [H.getD i ⟨#[]⟩]) := HVL.out
        have hcase : (hl ≤ i ∧ H.getD i ⟨#[]⟩ = ⟨#[]⟩) ∨ ∃ t, i < hl ∧ H[i]? = some t ∧ H.getD i ⟨#[]⟩ = t := by
          by_cases c : i < hl
          · have e := List.getElem?_eq_getElem (show i < H.length from by have := HC.out.2.2.1; omega)
            exact .inr ⟨_, c, e, by rw [List.getD_eq_getElem?_getD, e]; rfl⟩
          · exact .inl ⟨by omega, by rw [List.getD_eq_getElem?_getD, List.getElem?_eq_none (by have := HC.out.2.2.1; omega)]; rfl⟩
        rcases hcase with ⟨q1, q2⟩ | ⟨t, q1, q2, q3⟩
        · have q1' : ¬ ((i : Int) < (hl : Int)) := by omega
          have HQ : Hid _ := q2
          clear q1 q2
          obtain ⟨w7, hw7⟩ : ∃ w7, w7 = wr.alloc (.cells #[.string (⟨#[]⟩ : ByteArray)] 9) := ⟨_, rfl⟩
          have hb7 : Below wr.heap.size wr w7 := by rw [hw7]; exact below_alloc0 (Below.refl _ _) _
          have hc7 : w7.cell? ⟨wr.heap.size, 0, none⟩ = some (.string (⟨#[]⟩ : ByteArray)) := by rw [hw7, World.cell?_alloc_new]; rfl
          have H7 : Hid (RowS w7 w1.heap.size ra (vL (flB s f) H O i) rc ∧ Below w1.heap.size w1 w7 ∧ w7.cell? ⟨wr.heap.size, 0, none⟩ = some (.string (⟨#[]⟩ : ByteArray)) ∧ w7 = wr.alloc (.cells #[.string (⟨#[]⟩ : ByteArray)] 9)) := ⟨HK.out.2.1.call hb7, below_call0 HK.out.2.2 hb7, hc7, hw7⟩
          clear hb7 hc7 hw7
          go_wp2_with fail
          refine (KF.out _).mono ?_
          rintro e w6 ⟨rfl, hw6⟩
          obtain rfl : wr = w6 := hw6.symm
          go_wp2_with (at_builtin; change wpList _ _ _ _ _ (wr.alloc (.cells #[.string (⟨#[]⟩ : ByteArray)] 9)); rw [← H7.out.2.2.2]; refine wpList_append_RowS _ rfl _ _ rfl w1.heap.size ra m rc (vL (flB s f) H O i) (⟨#[]⟩ : ByteArray) rfl (by rw [vL_len]; exact HK.out.1) H7.out.1 H7.out.2.1.size (by rw [vL_len]; have := HLT.out; have := HC.out.1; omega) ⟨wr.heap.size, 0, none⟩ 1 rfl H7.out.2.2.1 ?_; intro a9 m9 cap9 w9 hm9 hR9 hb9; have H9 : Hid (m9 = m + 1 ∧ RowS w9 w1.heap.size a9 (vL (flB s f) H O i ++ [(⟨#[]⟩ : ByteArray)]) cap9 ∧ Below w1.heap.size w7 w9) := ⟨hm9, hR9, hb9⟩; clear hm9 hR9 hb9)
          have HE : Hid (m9 = i + 1 ∧ RowS w9 w1.heap.size a9 (vL (flB s f) H O (i + 1)) cap9 ∧ Below w1.heap.size w1 w9) := ⟨by rw [H9.out.1, HK.out.1], by rw [HV2.out, HQ.out]; exact H9.out.2.1, H7.out.2.1.trans H9.out.2.2⟩
          go_roundw
          case rel => first | exact ⟨i + 1, m9, a9, cap9, HLT.out, HE.out.1, rfl, by go_num, HE.out.2⟩ | ((repeat apply Exists.intro); exact ⟨⟨i + 1, m9, a9, cap9, HLT.out, HE.out.1, rfl, by go_num, HE.out.2⟩, rfl⟩)
          case measure => have h1 := HLT.out; simp [Go.RowKit.intOf]; omega
        · have q1' : (i : Int) < (hl : Int) := by omega
          obtain ⟨p, o, hpa, cp, _⟩ := HSr.out.1 i t q2
          subst hpa
          have HQ : Hid _ := q3
          clear q1 q2 q3
          obtain ⟨w7, hw7⟩ : ∃ w7, w7 = wr.alloc (.cells #[.string t] 9) := ⟨_, rfl⟩
          have hb7 : Below wr.heap.size wr w7 := by rw [hw7]; exact below_alloc0 (Below.refl _ _) _
          have hc7 : w7.cell? ⟨wr.heap.size, 0, none⟩ = some (.string t) := by rw [hw7, World.cell?_alloc_new]; rfl
          have H7 : Hid (RowS w7 w1.heap.size ra (vL (flB s f) H O i) rc ∧ Below w1.heap.size w1 w7 ∧ w7.cell? ⟨wr.heap.size, 0, none⟩ = some (.string t) ∧ w7 = wr.alloc (.cells #[.string t] 9)) := ⟨HK.out.2.1.call hb7, below_call0 HK.out.2.2 hb7, hc7, hw7⟩
          clear hb7 hc7 hw7
          go_wp2_with fail
          refine (KF.out _).mono ?_
          rintro e w6 ⟨rfl, hw6⟩
          obtain rfl : wr = w6 := hw6.symm
          go_wp2_with (at_builtin; change wpList _ _ _ _ _ (wr.alloc (.cells #[.string t] 9)); rw [← H7.out.2.2.2]; refine wpList_append_RowS _ rfl _ _ rfl w1.heap.size ra m rc (vL (flB s f) H O i) t rfl (by rw [vL_len]; exact HK.out.1) H7.out.1 H7.out.2.1.size (by rw [vL_len]; have := HLT.out; have := HC.out.1; omega) ⟨wr.heap.size, 0, none⟩ 1 rfl H7.out.2.2.1 ?_; intro a9 m9 cap9 w9 hm9 hR9 hb9; have H9 : Hid (m9 = m + 1 ∧ RowS w9 w1.heap.size a9 (vL (flB s f) H O i ++ [t]) cap9 ∧ Below w1.heap.size w7 w9) := ⟨hm9, hR9, hb9⟩; clear hm9 hR9 hb9)
          have HE : Hid (m9 = i + 1 ∧ RowS w9 w1.heap.size a9 (vL (flB s f) H O (i + 1)) cap9 ∧ Below w1.heap.size w1 w9) := ⟨by rw [H9.out.1, HK.out.1], by rw [HV2.out, HQ.out]; exact H9.out.2.1, H7.out.2.1.trans H9.out.2.2⟩
          go_roundw
          case rel => first | exact ⟨i + 1, m9, a9, cap9, HLT.out, HE.out.1, rfl, by go_num, HE.out.2⟩ | ((repeat apply Exists.intro); exact ⟨⟨i + 1, m9, a9, cap9, HLT.out, HE.out.1, rfl, by go_num, HE.out.2⟩, rfl⟩)
          case measure => have h1 := HLT.out; simp [Go.RowKit.intOf]; omega
    · obtain rfl : i = n := by omega
      have hnl : ¬ ((i : Int) < (i : Int)) := Int.lt_irrefl _
      have HB : Hid (Below w.heap.size w wr) := below_call0 HC.out.2.2.2.2.2.2 hB
      clear hlt hi hm hRow hB
      go_wp2_with fail
      refine HKr.out _ _ ?_
      clear HKr
      go_wp2_with fail
      go_ret
      exact ⟨ra, rc, by rw [HK.out.1]; rfl, HK.out.2.1.strs, HB.out⟩
end Go.Proofs.Ytdfadinpeeigkaa
