/- Package cast: Table; the reference's Table and Count; texts by their bytes. -/
import Derived.Test.YtdfadinpeeigkaaCaN
import Derived.Test.YtdfadinpeeigkaaRowS
import Derived.Test.YtdfadinpeeigkaaPcC
import Derived.Maps.OwnOps
import Derived.Maps.Views
namespace Go.Proofs.Ytdfadinpeeigkaa
open Go Go.RowKit Go.Lib

theorem ba_extC {a b : ByteArray} (h : a.data.toList = b.data.toList) : a = b := by
  cases a; cases b
  congr 1
  exact Array.toList_inj.1 h
theorem toList_neC {s t : ByteArray} (h : s ≠ t) : (s.toList == t.toList) = false := by
  rw [ByteArray.toList_eq, ByteArray.toList_eq]
  exact beq_eq_false_iff_ne.2 fun c => h (ba_extC c)
theorem full_facts {s : ByteArray} (h : s ≠ ⟨#[]⟩) : s.toList.isEmpty = false ∧ (s.toList == []) = false ∧ ¬ (s.toList = []) ∧ (s.toList != []) = true := by
  have h1 : s.toList ≠ [] := fun c => h (ba_extC (by rw [← ByteArray.toList_eq, c]))
  exact ⟨by cases e : s.toList with | nil => exact absurd e h1 | cons a l => rfl, beq_eq_false_iff_ne.2 h1, h1, by simpa using h1⟩
theorem ctable_any (n f : Int) (w : World) : Calls Try.prog 11 #[.int .i64 n, .int .i64 f] w fun e w' => e = .returned (.bool (decide (1 ≤ n ∧ n ≤ 10 ∧ 0 ≤ f ∧ 3 * f < n))) ∧ w' = w := by
  by_cases h1 : 1 ≤ n
  · by_cases h2 : n ≤ 10
    · by_cases h3 : 0 ≤ f
      · obtain ⟨q, hq⟩ : ∃ q : Int, q = (n - 1).tdiv 3 := ⟨_, rfl⟩
        obtain ⟨k, rfl⟩ : ∃ k : Nat, n = (k : Int) + 1 := ⟨(n - 1).toNat, by omega⟩
        have e1 : (k : Int) + 1 - 1 = (k : Nat) := by omega
        rw [e1] at hq
        have hq2 : q = ((k / 3 : Nat) : Int) := hq
        obtain ⟨D, hD⟩ : ∃ D, D = decide (1 ≤ (k : Int) + 1 ∧ (k : Int) + 1 ≤ 10 ∧ 0 ≤ f ∧ 3 * f < (k : Int) + 1) := ⟨_, rfl⟩
        have hD2 : decide (f ≤ q) = D := by rw [hD, hq2]; exact decide_eq_decide.2 ⟨fun c => by omega, fun c => by omega⟩
        rw [← hD]
        have hq3 : ((k : Nat) : Int).tdiv 3 = q := hq.symm
        have b0 : 0 ≤ q := by omega
        have b1 : q ≤ 3 := by omega
        clear hD hq hq2
        go_enter Try.func11, Try.ntmps11
        go_wp2
        go_ret
        exact ⟨rfl, rfl⟩
      · rw [decide_eq_false (show ¬ (1 ≤ n ∧ n ≤ 10 ∧ 0 ≤ f ∧ 3 * f < n) from fun c => h3 c.2.2.1)]
        go_enter Try.func11, Try.ntmps11
        go_wp2
        go_ret
        exact ⟨rfl, rfl⟩
    · rw [decide_eq_false (show ¬ (1 ≤ n ∧ n ≤ 10 ∧ 0 ≤ f ∧ 3 * f < n) from fun c => h2 c.2.1)]
      go_enter Try.func11, Try.ntmps11
      go_wp2
      go_ret
      exact ⟨rfl, rfl⟩
  · rw [decide_eq_false (show ¬ (1 ≤ n ∧ n ≤ 10 ∧ 0 ≤ f ∧ 3 * f < n) from fun c => h1 c.1)]
    go_enter Try.func11, Try.ntmps11
    go_wp2
    go_ret
    exact ⟨rfl, rfl⟩
theorem crtable_any (n f : Int) (w : World) : Calls Try.prog 12 #[.int .i64 n, .int .i64 f] w fun e w' => e = .returned (.bool (decide (1 ≤ n ∧ n ≤ 10 ∧ 0 ≤ f ∧ 3 * f < n))) ∧ w' = w := by
  obtain ⟨D, hD⟩ : ∃ D, D = decide (1 ≤ n ∧ n ≤ 10 ∧ 0 ≤ f ∧ 3 * f < n) := ⟨_, rfl⟩
  rw [← hD]
  have HD : Hid _ := hD
  clear hD
  by_cases h1 : 1 ≤ n
  · by_cases h2 : n ≤ 10
    · by_cases h3 : 0 ≤ f
      · by_cases h4 : f ≤ 3
        · by_cases h5 : 3 * f < n
          · have HE : Hid (D = true) := by rw [HD.out]; exact decide_eq_true ⟨h1, h2, h3, h5⟩
            go_enter Try.func12, Try.ntmps12
            go_wp2_with fail
            go_ret
            rw [HE.out]
            exact ⟨by first | rfl | simp, rfl⟩
          · have HE : Hid (D = false) := by rw [HD.out]; exact decide_eq_false fun c => h5 c.2.2.2
            go_enter Try.func12, Try.ntmps12
            go_wp2_with fail
            go_ret
            rw [HE.out]
            exact ⟨by first | rfl | simp, rfl⟩
        · have HE : Hid (D = false) := by rw [HD.out]; exact decide_eq_false fun c => h4 (by omega)
          go_enter Try.func12, Try.ntmps12
          go_wp2_with fail
          go_ret
          rw [HE.out]
          exact ⟨rfl, rfl⟩
      · have HE : Hid (D = false) := by rw [HD.out]; exact decide_eq_false fun c => h3 c.2.2.1
        go_enter Try.func12, Try.ntmps12
        go_wp2_with fail
        go_ret
        rw [HE.out]
        exact ⟨rfl, rfl⟩
    · have HE : Hid (D = false) := by rw [HD.out]; exact decide_eq_false fun c => h2 c.2.1
      go_enter Try.func12, Try.ntmps12
      go_wp2_with fail
      go_ret
      rw [HE.out]
      exact ⟨rfl, rfl⟩
  · have HE : Hid (D = false) := by rw [HD.out]; exact decide_eq_false fun c => h1 c.1
    go_enter Try.func12, Try.ntmps12
    go_wp2_with fail
    go_ret
    rw [HE.out]
    exact ⟨rfl, rfl⟩
set_option maxHeartbeats 4000000 in
theorem ccount_any (a : Option Addr) (l : List ByteArray) (n cap : Nat) (s : ByteArray) (hn : n = l.length) (hl : n ≤ 200) (w : World) (hS : Strs w a l) :
    Calls Try.prog 16 #[.slice a n cap, .string s] w fun e w' => e = .returned (.int .i64 (cs l s : Nat)) ∧ w' = w := by
  have HN : Hid (n = l.length ∧ n ≤ 200) := ⟨hn, hl⟩
  have n200 : (n : Int) ≤ 200 := by omega
  have HS : Hid (Strs w a l) := hS
  clear hn hl hS
  go_enter Try.func16, Try.ntmps16
  go_wp2_with fail
  rename_i Kr hKr
  have HKr : Hid _ := hKr
  clear hKr
  go_loopw [5, 10] (fun cv iv wr => ∃ i : Nat, i ≤ n ∧ iv = .int .i64 (i : Nat) ∧ cv = .int .i64 (cs (l.take i) s : Nat) ∧ w = wr) (fun _ iv _ => n - (Go.RowKit.intOf iv).toNat)
  case atStart => exact ⟨0, Nat.zero_le _, rfl, rfl, rfl⟩
  case round =>
    obtain ⟨i, hi, rfl, rfl, hwr⟩ := hrel
    subst hwr
    by_cases hlt : i < n
    · clear HKr
      have hil : i < l.length := by rw [← HN.out.1]; exact hlt
      have hlt' : (i : Int) < (n : Int) := by omega
      obtain ⟨p, o, ha, cp, pl⟩ := (show Strs w a l from HS.out).get hil
      subst ha
      obtain ⟨x, hx⟩ : ∃ x, x = (l[i]'hil) := ⟨_, rfl⟩
      rw [← hx] at cp
      have hx' : l[i]? = some x := by rw [hx]; exact List.getElem?_eq_getElem hil
      have b0 : ((cs (l.take i) s : Nat) : Int) ≤ 200 := by have := cs_take_le l i s; have := HN.out.2; omega
      have HT : Hid _ := cs_take hx' s
      generalize cs (l.take i) s = c at *
      have HLT : Hid (i < n) := hlt
      clear hx hx' hil hi hlt pl
      by_cases hxs : x = s
      · subst hxs
        have e : cs (l.take (i + 1)) x = c + 1 := by rw [HT.out, if_pos rfl]
        have HE : Hid _ := e
        have q1 : (x.toList == x.toList) = true := by simp only [BEq.rfl]
        clear e
        go_wp2_with fail
        go_roundw
        case rel => first | exact ⟨i + 1, HLT.out, by go_num, by (rw [HE.out]; try go_num), by first | rfl | trivial⟩ | ((repeat apply Exists.intro); exact ⟨⟨i + 1, HLT.out, by go_num, by (rw [HE.out]; try go_num), by first | rfl | trivial⟩, rfl⟩)
        case measure => have h1 := HLT.out; simp [Go.RowKit.intOf]; omega
      · have e : cs (l.take (i + 1)) s = c := by rw [HT.out, if_neg hxs]; rfl
        have HE : Hid _ := e
        have q1 : (x.toList == s.toList) = false := toList_neC hxs
        clear e hxs
        go_wp2_with fail
        go_roundw
        case rel => first | exact ⟨i + 1, HLT.out, by go_num, by (rw [HE.out]; try go_num), by first | rfl | trivial⟩ | ((repeat apply Exists.intro); exact ⟨⟨i + 1, HLT.out, by go_num, by (rw [HE.out]; try go_num), by first | rfl | trivial⟩, rfl⟩)
        case measure => have h1 := HLT.out; simp [Go.RowKit.intOf]; omega
    · obtain rfl : i = n := by omega
      have hnl : ¬ ((i : Int) < (i : Int)) := Int.lt_irrefl _
      have ht : l.take i = l := List.take_of_length_le (by rw [← HN.out.1]; exact Nat.le_refl _)
      rw [ht]
      clear hlt hi ht
      go_wp2_with fail
      refine HKr.out _ _ ?_
      clear HKr
      go_wp2_with fail
      go_ret
      exact ⟨rfl, rfl⟩
end Go.Proofs.Ytdfadinpeeigkaa
