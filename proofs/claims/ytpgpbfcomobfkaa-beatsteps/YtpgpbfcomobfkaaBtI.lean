/- beat.Next, and the reference's. -/
import Derived.Test.YtpgpbfcomobfkaaBtH
namespace Go.Proofs.Ytpgpbfcomobfkaa
open Go Go.RowKit Go.Lib

/-- Are all of these nodes? -/
def nodesB (n : Nat) (l : List Int) : Bool := l.all fun s => decide (1 ≤ s) && decide (s ≤ (n : Nat))
/-- The next view, at most k views on from v: none, if there is none. -/
def nextN (n v : Nat) (l : List Int) : Nat → Nat → Option Nat
  | 0, _ => none
  | k + 1, u => if u ≤ 1099511627776 then (if (((u % n + 1 : Nat)) : Int) ∈ l then nextN n v l k (u + 1) else some u) else none
/-- What Next answers. -/
def nextV (n v : Nat) (l : List Int) : Int × Int :=
  if nodesB n l then (match nextN n v l n (v + 1) with | some u => ((u : Nat), 0) | none => (0, 6)) else (0, 1)
theorem nodesB_bad {n : Nat} {l : List Int} {i : Nat} (hi : i < l.length) (h : ¬ (1 ≤ (l[i]'hi) ∧ (l[i]'hi) ≤ (n : Nat))) : nodesB n l = false := by
  cases c : nodesB n l with
  | false => rfl
  | true =>
    have := List.all_eq_true.1 c _ (List.getElem_mem hi)
    simp only [Bool.and_eq_true, decide_eq_true_eq] at this
    exact absurd this h
theorem nodesB_all {n : Nat} {l : List Int} (h : ∀ i (hi : i < l.length), 1 ≤ (l[i]'hi) ∧ (l[i]'hi) ≤ (n : Nat)) : nodesB n l = true :=
  List.all_eq_true.2 fun s hs => by
    obtain ⟨i, hi, rfl⟩ := List.mem_iff_getElem.1 hs
    simp only [Bool.and_eq_true, decide_eq_true_eq]
    exact h i hi
structure QuietAt (w : World) (b : Nat) (l : List Int) : Prop where
  lt : b < w.heap.size
  c : ∀ j, j < 11 → w.cell? ⟨b, j, none⟩ = some (.bool (decide ((j : Int) ∈ l)))
  fz : ∀ j, w.frozen? ⟨b, j, none⟩ = false
theorem quiet_new (w : World) (t : TypeId) : QuietAt (w.alloc (Obj.cells #[.bool false, .bool false, .bool false, .bool false, .bool false, .bool false, .bool false, .bool false, .bool false, .bool false, .bool false] t)) w.heap.size [] := by
  have h := seen_new w 1 0 t
  exact ⟨h.lt, fun j hj => by rw [h.c j hj]; simp [seenN], h.fz⟩
theorem QuietAt.step {w : World} {b t : Nat} {l : List Int} (h : QuietAt w b l) (h11 : t < 11) : QuietAt (w.setCell ⟨b, t, none⟩ (.bool true)) b (l ++ [((t : Nat) : Int)]) :=
  ⟨by simpa using h.lt, fun j hj => by
    by_cases c : j = t
    · subst c; rw [cell_eq (h.c j hj), decide_eq_true (by simp)]
    · rw [cell_ne c, h.c j hj]
      congr 2
      refine decide_eq_decide.2 ?_
      rw [List.mem_append]
      constructor
      · exact Or.inl
      · rintro (h | h)
        · exact h
        · simp at h; omega, fun j => by rw [World.frozen?_setCell]; exact h.fz j⟩
theorem next_no (n v : Int) (a : Option Addr) (m cap : Nat) (h : ¬ ((1 ≤ n ∧ n ≤ 10) ∧ 0 ≤ v ∧ v ≤ 1099511627776)) (w : World) : Calls Try.prog 22 #[.int .i64 n, .int .i64 v, .slice a m cap] w fun e w' => e = .returned (.tuple #[.int .i64 0, .int .i64 1]) ∧ w' = w := by
  by_cases h2 : 1 ≤ n ∧ n ≤ 10
  · have HD : Hid (decide (1 ≤ n ∧ n ≤ 10) = true ∧ decide (0 ≤ v ∧ v ≤ 1099511627776) = false) := ⟨decide_eq_true h2, decide_eq_false fun c => h ⟨h2, c⟩⟩
    clear h h2
    go_enter Try.func22, Try.ntmps22
    go_wp2_with fail
    refine (isTable_any _ _).mono ?_
    rintro e w1 ⟨rfl, rfl⟩
    rw [HD.out.1]
    go_wp2_with fail
    refine (isBig_any _ _).mono ?_
    rintro e w1 ⟨rfl, rfl⟩
    rw [HD.out.2]
    go_wp2_with fail
    go_ret2
    exact ⟨rfl, rfl⟩
  · have HD : Hid (decide (1 ≤ n ∧ n ≤ 10) = false) := decide_eq_false h2
    clear h h2
    go_enter Try.func22, Try.ntmps22
    go_wp2_with fail
    refine (isTable_any _ _).mono ?_
    rintro e w1 ⟨rfl, rfl⟩
    rw [HD.out]
    go_wp2_with fail
    go_ret2
    exact ⟨rfl, rfl⟩
theorem nextN_at {n v : Nat} {l : List Int} {k u : Nat} (hu : u ≤ 1099511627776) : nextN n v l (k + 1) u = if (((u % n + 1 : Nat)) : Int) ∈ l then nextN n v l k (u + 1) else some u := by
  rw [nextN, if_pos hu]
set_option maxHeartbeats 2000000 in
theorem next_ok (n v : Nat) (a : Option Addr) (l : List Int) (cap : Nat) (n1 : 1 ≤ n) (n10 : n ≤ 10) (hv : v ≤ 1099511627776) (hl : l.length ≤ 17592186044416) (w : World) (hI : IntsAt w a l) : Calls Try.prog 22 #[.int .i64 (n : Nat), .int .i64 (v : Nat), .slice a l.length cap] w fun e w' => e = .returned (.tuple #[.int .i64 (nextV n v l).1, .int .i64 (nextV n v l).2]) ∧ Below w.heap.size w w' := by
  have HD : Hid (decide (1 ≤ ((n : Nat) : Int) ∧ ((n : Nat) : Int) ≤ 10) = true ∧ decide (0 ≤ ((v : Nat) : Int) ∧ ((v : Nat) : Int) ≤ 1099511627776) = true) := ⟨decide_eq_true (by omega), decide_eq_true (by omega)⟩
  have a2 : ((n : Nat) : Int) ≤ 10 := by omega
  have a3 : ((v : Nat) : Int) ≤ 1099511627776 := by omega
  have HN : Hid (1 ≤ n ∧ n ≤ 10 ∧ v ≤ 1099511627776) := ⟨n1, n10, hv⟩
  obtain ⟨m, hm⟩ : ∃ m, m = l.length := ⟨_, rfl⟩
  have m1 : (m : Int) ≤ 17592186044416 := by omega
  have HM : Hid (m = l.length) := hm
  have HI : Hid (IntsAt w a l) := hI
  rw [← hm]
  obtain ⟨R1, hR1⟩ : ∃ R1, R1 = (nextV n v l).1 := ⟨_, rfl⟩
  obtain ⟨R2, hR2⟩ : ∃ R2, R2 = (nextV n v l).2 := ⟨_, rfl⟩
  rw [← hR1, ← hR2]
  have HR : Hid (R1 = (nextV n v l).1 ∧ R2 = (nextV n v l).2) := ⟨hR1, hR2⟩
  clear n1 n10 hv hl hI hm hR1 hR2
  go_enter Try.func22, Try.ntmps22
  go_wp2_with fail
  refine (isTable_any _ _).mono ?_
  rintro e w1 ⟨rfl, rfl⟩
  rw [HD.out.1]
  go_wp2_with fail
  refine (isBig_any _ _).mono ?_
  rintro e w1 ⟨rfl, rfl⟩
  rw [HD.out.2]
  go_wp2_with fail
  rename_i Kr hKr
  have HKr : Hid _ := hKr
  clear hKr
  obtain ⟨W, hWW⟩ : ∃ W : World, W = (w1.alloc (Obj.cells #[.bool false, .bool false, .bool false, .bool false, .bool false, .bool false, .bool false, .bool false, .bool false, .bool false, .bool false] 59)) := ⟨_, rfl⟩
  have hP : QuietAt W w1.heap.size [] ∧ Below w1.heap.size w1 W := by rw [hWW]; exact ⟨quiet_new w1 _, below_alloc0 (Below.refl _ _) _⟩
  have HP : Hid _ := hP
  clear hP
  rw [← hWW]
  clear hWW
  obtain ⟨g, hg⟩ : ∃ g, g = w1.heap.size := ⟨_, rfl⟩
  have HG : Hid (g = w1.heap.size) := hg
  rw [← hg] at HP ⊢
  clear hg
  go_loopw [22] (fun iv wr => ∃ i : Nat, i ≤ m ∧ iv = .int .i64 (i : Nat) ∧ QuietAt wr g (l.take i) ∧ Below g w1 wr ∧ (∀ j (hj : j < l.length), j < i → 1 ≤ (l[j]'hj) ∧ (l[j]'hj) ≤ (n : Nat))) (fun iv _ => m - (Go.RowKit.intOf iv).toNat)
  case atStart => exact ⟨0, Nat.zero_le _, rfl, HP.out.1, HP.out.2, fun j _ hj => absurd hj (Nat.not_lt_zero _)⟩
  case round =>
    obtain ⟨i, hi, rfl, hA, hB, hall⟩ := hrel
    rename World => wr
    have HA : Hid (_ ∧ _ ∧ _) := ⟨hA, hB, hall⟩
    clear hall
    by_cases hlt : i < m
    · clear HKr
      have hlt' : (i : Int) < (m : Nat) := by omega
      have hil : i < l.length := by rw [← HM.out]; exact hlt
      obtain ⟨p, o, ha, cp, pl⟩ := HI.out.get hil
      subst ha
      obtain ⟨s, hs⟩ : ∃ s, s = (l[i]'hil) := ⟨_, rfl⟩
      rw [← hs] at cp
      have cp' : wr.cell? ⟨p, o + i, none⟩ = some (.int .i64 s) := (hB.cell (p := ⟨p, o + i, none⟩) (by rw [HG.out]; exact pl)).trans cp
      clear cp pl
      by_cases hnode : 1 ≤ s ∧ s ≤ (n : Nat)
      · have HD2 : Hid (decide (1 ≤ s ∧ s ≤ ((n : Nat) : Int)) = true) := decide_eq_true hnode
        obtain ⟨t, rfl⟩ : ∃ t : Nat, s = (t : Nat) := ⟨s.toNat, by omega⟩
        have t3 : ((t : Nat) : Int) < 11 := by omega
        have t4 : (0 : Int) ≤ (t : Nat) := by omega
        have cc := hA.c t (by omega)
        have fc := hA.fz t
        have HT : Hid (l.take (i + 1) = l.take i ++ [((t : Nat) : Int)] ∧ t < 11 ∧ i < m ∧ (∀ j (hj : j < l.length), j < i + 1 → 1 ≤ (l[j]'hj) ∧ (l[j]'hj) ≤ (n : Nat))) :=
          ⟨by rw [List.take_succ_eq_append_getElem hil, hs], by omega, hlt, fun j hj hji => by
            by_cases c : j = i
            · subst c; rw [← hs]; exact hnode
            · exact HA.out.2.2 j hj (by omega)⟩
        clear hA hB hlt hi hs hil hnode
        go_wp2_with fail
        refine (isNode_any _ _ _).mono ?_
        rintro e w2 ⟨rfl, rfl⟩
        rw [HD2.out]
        go_wp2_with fail
        go_roundw
        case rel =>
          have t : i + 1 ≤ m ∧ QuietAt (w2.setCell ⟨g, t, none⟩ (.bool true)) g (l.take (i + 1)) ∧ Below g w1 (w2.setCell ⟨g, t, none⟩ (.bool true)) ∧ (∀ j (hj : j < l.length), j < i + 1 → 1 ≤ (l[j]'hj) ∧ (l[j]'hj) ≤ (n : Nat)) :=
            ⟨HT.out.2.2.1, by rw [HT.out.1]; exact HA.out.1.step HT.out.2.1, HA.out.2.1.setCell (p := ⟨g, _, none⟩) (Nat.le_refl _) _, HT.out.2.2.2⟩
          first | exact ⟨i + 1, t.1, by go_num, t.2⟩ | ((repeat apply Exists.intro); exact ⟨⟨i + 1, t.1, by go_num, t.2⟩, rfl⟩)
        case measure => have h1 := HT.out.2.2.1; simp [Go.RowKit.intOf]; omega
      · have HD2 : Hid (decide (1 ≤ s ∧ s ≤ ((n : Nat) : Int)) = false) := decide_eq_false hnode
        have HE : Hid (R1 = 0 ∧ R2 = 1) := by
          have e : nodesB n l = false := nodesB_bad hil (by rw [← hs]; exact hnode)
          have e2 : nextV n v l = (0, 1) := by unfold nextV; rw [e]; rfl
          exact ⟨by rw [HR.out.1, e2], by rw [HR.out.2, e2]⟩
        clear hA hB hlt hi hs hil hnode
        go_wp2_with fail
        refine (isNode_any _ _ _).mono ?_
        rintro e w2 ⟨rfl, rfl⟩
        rw [HD2.out]
        go_wp2_with fail
        go_ret2
        rw [HE.out.1, HE.out.2, ← HG.out]
        exact ⟨rfl, HA.out.2.1⟩
    · obtain rfl : i = m := by omega
      have hnl : ¬ ((i : Int) < (i : Int)) := Int.lt_irrefl _
      have HB : Hid (nodesB n l = true ∧ QuietAt wr g l ∧ Below g w1 wr) := ⟨nodesB_all fun j hj => HA.out.2.2 j hj (by rw [HM.out]; exact hj), by have h := HA.out.1; rw [List.take_of_length_le (by rw [← HM.out]; exact Nat.le_refl _)] at h; exact h, HA.out.2.1⟩
      clear hlt hi hA hB HA HP
      go_wp2_with fail
      refine HKr.out _ _ ?_
      clear HKr
      go_wp2_with fail
      rename_i Kr2 hKr2
      have HKr2 : Hid _ := hKr2
      clear hKr2
      go_loop [11] (fun iv => ∃ k u : Nat, u = v + 1 + k ∧ k ≤ n ∧ iv = .int .i64 (u : Nat) ∧ nextN n v l n (v + 1) = nextN n v l (n - k) u) (fun iv => v + n + 1 - (Go.RowKit.intOf iv).toNat)
      case atStart => exact ⟨0, v + 1, rfl, Nat.zero_le _, by go_num, rfl⟩
      case round =>
        obtain ⟨k, u, hu, hk, rfl, hx⟩ := hrel
        have HX : Hid (u = v + 1 + k ∧ k ≤ n ∧ nextN n v l n (v + 1) = nextN n v l (n - k) u) := ⟨hu, hk, hx⟩
        clear hx
        have zz : (v : Int) + (n : Int) ≤ 1099511627776 ∨ (1099511627776 : Int) < (v : Int) + (n : Int) := by omega
        by_cases hc : u ≤ v + n ∧ u ≤ 1099511627776
        · clear HKr2
          obtain ⟨t, ht⟩ : ∃ t, t = u % n + 1 := ⟨_, rfl⟩
          have ht2 : t ≤ n := by rw [ht]; exact Nat.mod_lt _ HN.out.1
          have t3 : ((t : Nat) : Int) < 11 := by omega
          have t4 : (0 : Int) ≤ (t : Nat) := by omega
          have c1 : (u : Int) ≤ (v : Int) + (n : Int) := by omega
          have c2 : (u : Int) ≤ 1099511627776 := by omega
          have cc := HB.out.2.1.c t (by have := HN.out; omega)
          have K1 : Hid (∀ w', Calls Try.prog 32 #[.int .i64 (n : Nat), .int .i64 (u : Nat)] w' fun e w'' => e = .returned (.int .i64 (t : Nat)) ∧ w'' = w') :=
            fun w' => by rw [ht]; exact bturn_any n u HN.out.1 (by omega) HN.out.2.1 w'
          have hx : nextN n v l (n - k) u = if ((t : Nat) : Int) ∈ l then nextN n v l (n - (k + 1)) (u + 1) else some u := by
            have e : n - k = (n - (k + 1)) + 1 := by omega
            rw [e, nextN_at hc.2, ← ht]
          have HC : Hid (u ≤ v + n ∧ nextN n v l n (v + 1) = if ((t : Nat) : Int) ∈ l then nextN n v l (n - (k + 1)) (u + 1) else some u) := ⟨hc.1, HX.out.2.2.trans hx⟩
          clear hx ht ht2 hc hu hk
          by_cases hmem : ((t : Nat) : Int) ∈ l
          · rw [decide_eq_true hmem] at cc
            have HY : Hid (k + 1 ≤ n ∧ nextN n v l n (v + 1) = nextN n v l (n - (k + 1)) (u + 1)) := ⟨by have h1 := HC.out.1; have h2 := HX.out.1; omega, by rw [HC.out.2, if_pos hmem]⟩
            clear hmem
            rcases zz with z | z
            all_goals
              go_wp2_with fail
              refine (K1.out _).mono ?_
              rintro e w2 ⟨rfl, rfl⟩
              go_wp2_with fail
              go_round
            case rel => first | exact ⟨k + 1, u + 1, by have := HX.out.1; omega, HY.out.1, by go_num, HY.out.2⟩ | ((repeat apply Exists.intro); exact ⟨⟨k + 1, u + 1, by have := HX.out.1; omega, HY.out.1, by go_num, HY.out.2⟩, rfl⟩)
            case measure => have h1 := HC.out.1; simp [Go.RowKit.intOf]; omega
            case rel => first | exact ⟨k + 1, u + 1, by have := HX.out.1; omega, HY.out.1, by go_num, HY.out.2⟩ | ((repeat apply Exists.intro); exact ⟨⟨k + 1, u + 1, by have := HX.out.1; omega, HY.out.1, by go_num, HY.out.2⟩, rfl⟩)
            case measure => have h1 := HC.out.1; simp [Go.RowKit.intOf]; omega
          · rw [decide_eq_false hmem] at cc
            have HE : Hid (R1 = ((u : Nat) : Int) ∧ R2 = 0) := by
              have e2 : nextV n v l = (((u : Nat) : Int), 0) := by unfold nextV; rw [HB.out.1, HC.out.2, if_neg hmem]; rfl
              exact ⟨by rw [HR.out.1, e2], by rw [HR.out.2, e2]⟩
            clear hmem
            rcases zz with z | z
            all_goals
              go_wp2_with fail
              refine (K1.out _).mono ?_
              rintro e w2 ⟨rfl, rfl⟩
              go_wp2_with fail
              go_ret2
              rw [HE.out.1, HE.out.2, ← HG.out]
              exact ⟨rfl, HB.out.2.2⟩
        · have HE : Hid (R1 = 0 ∧ R2 = 6) := by
            have e3 : nextN n v l (n - k) u = none := by
              by_cases hkn : k = n
              · rw [hkn, Nat.sub_self]; rfl
              · have e : n - k = (n - (k + 1)) + 1 := by omega
                rw [e, nextN, if_neg (by omega)]
            have e2 : nextV n v l = (0, 6) := by unfold nextV; rw [HB.out.1, HX.out.2.2, e3]; rfl
            exact ⟨by rw [HR.out.1, e2], by rw [HR.out.2, e2]⟩
          have hc' : (v : Int) + (n : Int) < (u : Int) ∨ (1099511627776 : Int) < (u : Int) := by omega
          clear hc hu hk
          rcases zz with z | z
          · have d : ¬ ((u : Int) ≤ (v : Int) + (n : Int)) := by omega
            clear hc'
            go_wp2_with fail
            refine HKr2.out _ _ ?_
            clear HKr2
            go_wp2_with fail
            go_ret2
            rw [HE.out.1, HE.out.2, ← HG.out]
            exact ⟨rfl, HB.out.2.2⟩
          · have d : ¬ ((u : Int) ≤ (1099511627776 : Int)) := by omega
            clear hc'
            go_wp2_with fail
            refine HKr2.out _ _ ?_
            clear HKr2
            go_wp2_with fail
            go_ret2
            rw [HE.out.1, HE.out.2, ← HG.out]
            exact ⟨rfl, HB.out.2.2⟩
end Go.Proofs.Ytpgpbfcomobfkaa
