/- The reference's agenda: Take; equal lists. -/
import Derived.Test.YtkgfeiigdhbddaaAgR1
namespace Go.Proofs.Ytkgfeiigdhbddaa
open Go Go.RowKit Go.Lib
theorem rTake_arg (v : Option Addr) (now : Int) (h : ¬ (0 ≤ now ∧ now ≤ 1099511627776)) (w : World) : Calls Try.prog 19 #[.pointer v, .int .i64 now] w fun e w' => e = .returned (.tuple #[.slice none 0 0, .int .i64 1]) ∧ w' = w := by
  have HD : Hid (decide (0 ≤ now ∧ now ≤ 1099511627776) = false) := decide_eq_false h
  clear h
  go_enter Try.func19, Try.ntmps19
  go_wp2_with fail
  refine (moment_any _ _).mono ?_
  rintro e w1 ⟨rfl, rfl⟩
  rw [HD.out]
  go_wp2_with fail
  go_ret2
  exact ⟨rfl, rfl⟩
/-- What the reference's Take answers. -/
def RkP (r l : Nat) (Z : Nat → Prop) (now : Nat) (L : List En) (w : World) (e : Ending) (w' : World) : Prop := ∃ a m cap, e = .returned (.tuple #[.slice a m cap, .int .i64 0]) ∧ m = (due now L).length ∧ EnsAt w' (fun k => Z k ∧ k ≠ r) a (due now L) ∧ RefA w' Z r l (rest now L) ∧ Off Z w w'
theorem RkP.mk {r l : Nat} {Z : Nat → Prop} {now : Nat} {L : List En} {w : World} {e : Ending} {w' : World} (h : ∃ a m cap, e = .returned (.tuple #[.slice a m cap, .int .i64 0]) ∧ m = (due now L).length ∧ EnsAt w' (fun k => Z k ∧ k ≠ r) a (due now L) ∧ RefA w' Z r l (rest now L) ∧ Off Z w w') : RkP r l Z now L w e w' := h
/-- A list cut in two: both parts in memory, the second one laid into the agenda. -/
theorem RefA.cut {w : World} {Z : Nat → Prop} {r l n k cap' : Nat} {a a' : Option Addr} {L T R : List En} (h : RefA w Z r l L) (hE : EnsAt w (fun k => Z k ∧ k ≠ r) a L) (hs : L = T ++ R) (hk : k = T.length) (hn : n = R.length) (hc : n ≤ cap') (h0 : a' = none → cap' = 0) (hsp : ∀ b, a' = some b → b.spot = none)
    (ha : R ≠ [] → ∃ q o, a = some ⟨q, o, none⟩ ∧ a' = some ⟨q, o + k * 3, none⟩) : EnsAt (w.setCell ⟨r, 0, none⟩ (.slice a' n cap')) (fun k => Z k ∧ k ≠ r) a T ∧ RefA (w.setCell ⟨r, 0, none⟩ (.slice a' n cap')) Z r l R ∧ Off Z w (w.setCell ⟨r, 0, none⟩ (.slice a' n cap')) := by
  obtain ⟨a0, cap0, c0, _, _⟩ := h.c0
  have hb : ∀ k, k ≠ r → (w.setCell ⟨r, 0, none⟩ (.slice a' n cap')).heap[k]? = w.heap[k]? := fun k hk => Below.heap_setCell _ _ _ _ hk
  have hz : (w.setCell ⟨r, 0, none⟩ (.slice a' n cap')).heap.size = w.heap.size := World.size_setCell _ _ _
  have hT : EnsAt w (fun k => Z k ∧ k ≠ r) a T := fun j x hj => hE j x (by rw [hs, List.getElem?_append_left (List.getElem?_eq_some_iff.1 hj).1]; exact hj)
  have hR : EnsAt w (fun k => Z k ∧ k ≠ r) a' R := fun j x hj => by
    obtain ⟨q, o, e1, e2⟩ := ha (fun c => by rw [c] at hj; simp at hj)
    obtain ⟨q', o', f1, f2, f3, f4, f5, f6⟩ := hE (k + j) x (by rw [hs, List.getElem?_append_right (by omega), hk, Nat.add_sub_cancel_left]; exact hj)
    rw [e1] at f1
    cases f1
    have e : o + k * 3 + j * 3 = o + (k + j) * 3 := by omega
    exact ⟨q, o + k * 3, e2, f2, f3, by rw [e]; exact f4, by rw [e]; exact f5, by rw [e]; exact f6⟩
  refine ⟨hT.kept (Nat.le_of_eq hz.symm) (fun k hk _ => hb k hk.2), ⟨h.zr, by rw [hz]; exact h.rl, fun o => by rw [World.frozen?_setCell]; exact h.fr o, ⟨a', cap', ?_, ⟨by rw [← hn]; exact hc, h0, hsp⟩, hR.kept (Nat.le_of_eq hz.symm) (fun k hk _ => hb k hk.2)⟩, (World.cell?_setCell_other _ _ _ _ (by intro c; injection c with _ c _; cases c)).trans h.c1⟩, ⟨rfl, rfl, rfl, Nat.le_of_eq hz.symm, fun k hk => hb k (fun c => hk (by rw [c]; exact h.zr))⟩⟩
  rw [← hn]
  exact World.cell?_setCell_same _ _ _ c0
set_option maxRecDepth 100000 in
set_option maxHeartbeats 2000000 in
theorem rTake_ok (r l now : Nat) (Z : Nat → Prop) (L : List En) (hnow : now ≤ 1099511627776) (w : World) (hA : RefA w Z r l L) (h5 : L.length ≤ 600) : Calls Try.prog 19 #[.pointer (some ⟨r, 0, none⟩), .int .i64 (now : Nat)] w fun e w' => RkP r l Z now L w e w' := by
  have HD : Hid (decide (0 ≤ (now : Int) ∧ (now : Int) ≤ 1099511627776) = true) := decide_eq_true ⟨by omega, by omega⟩
  obtain ⟨a, cap, c0, hc, hE⟩ := hA.c0
  obtain ⟨n, hn⟩ : ∃ n, n = L.length := ⟨_, rfl⟩
  rw [← hn] at c0 hc
  have f0 := hA.fr 0
  have HA : Hid (RefA w Z r l L ∧ n = L.length ∧ n ≤ 600 ∧ EnsAt w (fun k => Z k ∧ k ≠ r) a L ∧ (n ≤ cap ∧ (a = none → cap = 0) ∧ ∀ b, a = some b → b.spot = none)) := ⟨hA, hn, by omega, hE, hc⟩
  have n5 : (n : Int) ≤ 600 := by omega
  have nw : (now : Int) ≤ 1099511627776 := by omega
  clear hnow hA hE hn h5 hc
  go_enter Try.func19, Try.ntmps19
  go_wp2_with fail
  refine (moment_any _ _).mono ?_
  rintro e w1 ⟨rfl, rfl⟩
  rw [HD.out]
  go_wp2_with fail
  rename_i Kr hKr
  have HKr : Hid _ := hKr
  clear hKr
  go_loopw [6] (fun iv wr => ∃ (k : Nat) (T R : List En), iv = .int .i64 (k : Nat) ∧ k = T.length ∧ L = T ++ R ∧ (∀ x ∈ T, x.m ≤ now) ∧ w1 = wr) (fun iv _ => 700 - (Go.RowKit.intOf iv).toNat)
  case atStart => exact ⟨0, [], L, rfl, rfl, rfl, fun x hx => (by cases hx), rfl⟩
  case round =>
    obtain ⟨k, T, R, rfl, hk, hs, ht, rfl⟩ := hrel
    have hkn : k + R.length = n := by rw [HA.out.2.1, hs, List.length_append, hk]
    have HI : Hid (k = T.length ∧ L = T ++ R ∧ (∀ x ∈ T, x.m ≤ now) ∧ k + R.length = n) := ⟨hk, hs, ht, hkn⟩
    cases R with
    | nil =>
      obtain rfl : k = n := by simpa using hkn
      have i1 : ¬ ((k : Int) < (k : Int)) := Int.lt_irrefl _
      have i2 : decide ((k : Int) < (k : Int)) = false := decide_eq_false i1
      have hd := due_split hs ht (fun x r h => by cases h)
      have HDD : Hid (due now L = T ∧ rest now L = []) := hd
      clear hkn hk hs ht hd
      have hcp : k ≤ cap := HA.out.2.2.2.2.1
      cases a with
      | none =>
        obtain rfl : cap = 0 := HA.out.2.2.2.2.2.1 rfl
        obtain rfl : k = 0 := by omega
        go_wp2_with fail
        refine HKr.out _ _ ?_
        clear HKr
        have hfin := RefA.cut (n := 0) (k := 0) (cap' := 0) (a := none) (a' := none) HA.out.1 HA.out.2.2.2.1 HI.out.2.1 HI.out.1 rfl (Nat.le_refl _) (fun _ => rfl) (fun b hb => by cases hb) (fun c => absurd rfl c)
        have HF : Hid _ := hfin
        clear hfin
        go_wp2_with fail
        go_ret2
        exact RkP.mk ⟨none, 0, 0, rfl, by rw [HDD.out.1]; exact HI.out.1, by rw [HDD.out.1]; exact HF.out.1, by rw [HDD.out.2]; exact HF.out.2.1, HF.out.2.2⟩
      | some b =>
        obtain ⟨q, o, sp⟩ := b
        obtain rfl : sp = none := HA.out.2.2.2.2.2.2 _ rfl
        have i3 : (k : Int) ≤ (cap : Nat) := by omega
        go_wp2_with fail
        refine HKr.out _ _ ?_
        clear HKr
        go_wp2_with fail
        all_goals
          go_ret2
          refine RkP.mk ⟨some ⟨q, o, none⟩, k, _, rfl, by rw [HDD.out.1]; exact HI.out.1, ?_⟩
          rw [HDD.out.1, HDD.out.2]
          exact RefA.cut (n := 0) (k := k) HA.out.1 HA.out.2.2.2.1 HI.out.2.1 HI.out.1 rfl (Nat.zero_le _) (fun c => by cases c) (fun b hb => by cases hb; rfl) (fun c => absurd rfl c)
    | cons x R =>
      have hlt : k < n := by rw [List.length_cons] at hkn; omega
      have i1 : (k : Int) < (n : Int) := by omega
      have i2 : decide ((k : Int) < (n : Int)) = true := decide_eq_true i1
      have i2n : decide (k < n) = true := decide_eq_true hlt
      obtain ⟨q, o, ha, _, hq, x0, x1, x2⟩ := HA.out.2.2.2.1 k x (by rw [hs, List.getElem?_append_right (by omega), hk, Nat.sub_self]; rfl)
      subst ha
      clear hkn hk hs ht x0 x2
      by_cases hx : x.m ≤ now
      · have i4 : (x.m : Int) ≤ (now : Int) := by omega
        have i5 : decide ((x.m : Int) ≤ (now : Int)) = true := decide_eq_true i4
        have HX : Hid (x.m ≤ now ∧ k < n) := ⟨hx, hlt⟩
        clear hx HKr
        go_wp2_with fail
        go_roundw
        case rel =>
          have h := HI.out
          have e1 : k + 1 = (T ++ [x]).length := by rw [List.length_append, h.1]; rfl
          have e2 : L = (T ++ [x]) ++ R := by rw [List.append_assoc]; exact h.2.1
          have e3 : ∀ y ∈ T ++ [x], y.m ≤ now := fun y hy => by
            rcases List.mem_append.1 hy with hy | hy
            · exact h.2.2.1 y hy
            · rw [List.mem_singleton.1 hy]; exact HX.out.1
          first | exact ⟨k + 1, T ++ [x], R, by go_num, e1, e2, e3, trivial⟩ | ((repeat apply Exists.intro); exact ⟨⟨k + 1, T ++ [x], R, by go_num, e1, e2, e3, trivial⟩, rfl⟩)
        case measure => have h1 := HX.out.2; have h2 := HA.out.2.2.1; simp [Go.RowKit.intOf]; omega
      · have i4 : ¬ ((x.m : Int) ≤ (now : Int)) := by omega
        have i5 : decide ((x.m : Int) ≤ (now : Int)) = false := decide_eq_false i4
        have hd := due_split HI.out.2.1 HI.out.2.2.1 (fun y r h => by cases h; exact hx)
        have HDD : Hid (due now L = T ∧ rest now L = x :: R) := hd
        have hcp : n ≤ cap := HA.out.2.2.2.2.1
        have i6 : (k : Int) ≤ (cap : Nat) := by omega
        have i7 : (k : Int) ≤ (n : Nat) := by omega
        have i8 : (n : Int) ≤ (cap : Nat) := by omega
        clear hx hd
        go_wp2_with fail
        refine HKr.out _ _ ?_
        clear HKr
        go_wp2_with fail
        go_ret2
        refine RkP.mk ⟨some ⟨q, o, none⟩, k, cap, rfl, by rw [HDD.out.1]; exact HI.out.1, ?_⟩
        rw [HDD.out.1, HDD.out.2]
        exact RefA.cut (n := n - k) (k := k) HA.out.1 HA.out.2.2.2.1 HI.out.2.1 HI.out.1 (by have := HI.out.2.2.2; omega) (by omega) (fun c => by cases c) (fun b hb => by cases hb; rfl) (fun _ => ⟨q, o, rfl, rfl⟩)
/-- Entries in memory, of either type, told alike. -/
def EnsR (w : World) (a : Option Addr) (L : List En) : Prop := EnsAt w (fun _ => True) a L
set_option maxRecDepth 100000 in
set_option maxHeartbeats 2000000 in
theorem same_in (a b : Option Addr) (n ca cb : Nat) (L : List En) (hn : n = L.length) (h5 : n ≤ 600) (w : World) (hA : EnsR w a L) (hB : EnsR w b L) : Calls Try.prog 20 #[.slice a n ca, .slice b n cb] w fun e w' => e = .returned (.bool true) ∧ Below w.heap.size w w' := by
  have HA : Hid (EnsR w a L ∧ EnsR w b L ∧ n = L.length) := ⟨hA, hB, hn⟩
  have n5 : (n : Int) ≤ 600 := by omega
  clear hA hB hn h5
  go_enter Try.func20, Try.ntmps20
  go_wp2_with fail
  rename_i Kr hKr
  have HKr : Hid _ := hKr
  clear hKr
  go_loopw [13] (fun iv wr => ∃ k : Nat, iv = .int .i64 (k : Nat) ∧ k ≤ n ∧ Below w.heap.size w wr) (fun iv _ => n - (Go.RowKit.intOf iv).toNat)
  case atStart => exact ⟨0, rfl, Nat.zero_le _, Below.refl _ _⟩
  case round =>
    obtain ⟨k, rfl, hk, hb⟩ := hrel
    rename World => wr
    have HB : Hid (Below w.heap.size w wr) := hb
    by_cases hlt : k < n
    · obtain ⟨x, hx⟩ : ∃ x, L[k]? = some x := ⟨_, List.getElem?_eq_getElem (by rw [← HA.out.2.2]; exact hlt)⟩
      obtain ⟨q, o, ha, _, hq, x0, x1, x2⟩ := HA.out.1 k x hx
      obtain ⟨q', o', hb', _, hq', y0, y1, y2⟩ := HA.out.2.1 k x hx
      subst ha hb'
      replace x0 := (hb.cell (p := ⟨q, _, none⟩) hq).trans x0
      replace x1 := (hb.cell (p := ⟨q, _, none⟩) hq).trans x1
      replace x2 := (hb.cell (p := ⟨q, _, none⟩) hq).trans x2
      replace y0 := (hb.cell (p := ⟨q', _, none⟩) hq').trans y0
      replace y1 := (hb.cell (p := ⟨q', _, none⟩) hq').trans y1
      replace y2 := (hb.cell (p := ⟨q', _, none⟩) hq').trans y2
      have i1 : (k : Int) < (n : Int) := by omega
      have HX : Hid (k < n) := hlt
      clear hlt hk hb hq hq' hx HKr
      go_wp2_with fail
      go_quiet (fail)
      go_wp2_with fail
      go_roundw
      case rel => first | exact ⟨k + 1, by go_num, HX.out, ⟨HB.out.os, HB.out.tape, HB.out.output, HB.out.size, HB.out.block⟩⟩ | ((repeat apply Exists.intro); exact ⟨⟨k + 1, by go_num, HX.out, ⟨HB.out.os, HB.out.tape, HB.out.output, HB.out.size, HB.out.block⟩⟩, rfl⟩)
      case measure => have h1 := HX.out; simp [Go.RowKit.intOf]; omega
    · obtain rfl : k = n := by omega
      have hnl : ¬ ((k : Int) < (k : Int)) := Int.lt_irrefl _
      clear hlt hk hb
      go_wp2_with fail
      refine HKr.out _ _ ?_
      clear HKr
      go_wp2_with fail
      go_ret
      exact ⟨rfl, HB.out⟩
end Go.Proofs.Ytkgfeiigdhbddaa
