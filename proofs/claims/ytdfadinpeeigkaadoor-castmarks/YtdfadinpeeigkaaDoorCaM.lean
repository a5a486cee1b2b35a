/- Package cast: Mark and Find, code and reference; the law CastMarks. -/
import Derived.Test.YtdfadinpeeigkaaDoorCaD
import Derived.Test.YtdfadinpeeigkaaDoorRef4Y
import Derived.Test.YtdfadinpeeigkaaDoorShaF
namespace Go.Proofs.YtdfadinpeeigkaaDoor
open Go Go.RowKit Go.Lib

/-- A text's mark. -/
def mkS (s : ByteArray) : ByteArray := if s = ⟨#[]⟩ then ⟨#[]⟩ else shaS s
/-- The first text of a mark. -/
def fnd (mark : ByteArray) (l : List ByteArray) : Option ByteArray := l.find? (fun t => decide (t ≠ ⟨#[]⟩ ∧ shaS t = mark))
theorem fnd_yes {mark t : ByteArray} {l : List ByteArray} (h : t ≠ ⟨#[]⟩ ∧ shaS t = mark) : fnd mark (t :: l) = some t := by
  unfold fnd
  rw [List.find?_cons, decide_eq_true h]
theorem fnd_no {mark t : ByteArray} {l : List ByteArray} (h : ¬ (t ≠ ⟨#[]⟩ ∧ shaS t = mark)) : fnd mark (t :: l) = fnd mark l := by
  unfold fnd
  rw [List.find?_cons, decide_eq_false h]
theorem cmark_any (s : ByteArray) (hs : s.size ≤ 10000) (w : World) (hG : GlobD w) (hz : 1 < w.heap.size) : Calls Tryd.prog 6 #[.string s] w fun e w' => e = .returned (.string (mkS s)) ∧ Below w.heap.size w w' := by
  have HG : Hid (GlobD w ∧ 1 < w.heap.size) := ⟨hG, hz⟩
  clear hG hz
  by_cases h : s = ⟨#[]⟩
  · have HE : Hid (mkS s = ⟨#[]⟩) := if_pos h
    rw [HE.out]
    subst h
    go_enter Tryd.func6, Tryd.ntmps6
    go_wp2_with fail
    go_ret
    exact ⟨rfl, Below.refl _ _⟩
  · obtain ⟨f1, f2, f3, f4⟩ := full_facts h
    have HE : Hid (mkS s = shaS s) := if_neg h
    have HZ : Hid (s.size ≤ 10000) := hs
    rw [HE.out]
    clear h hs
    go_enter Tryd.func6, Tryd.ntmps6
    go_wp2_with fail
    refine (sum_any s (by have := HZ.out; omega) _ HG.out.1 HG.out.2).mono ?_
    rintro e w1 ⟨rfl, hb⟩
    have HB : Hid _ := hb
    clear hb
    go_wp2_with fail
    go_ret
    exact ⟨rfl, HB.out⟩
theorem cmark4_any (s : ByteArray) (hs : s.size ≤ 10000) (w : World) : Calls Tryd.prog 8 #[.string s] w fun e w' => e = .returned (.string (mkS s)) ∧ Below w.heap.size w w' := by
  by_cases h : s = ⟨#[]⟩
  · have HE : Hid (mkS s = ⟨#[]⟩) := if_pos h
    rw [HE.out]
    subst h
    go_enter Tryd.func8, Tryd.ntmps8
    go_wp2_with fail
    go_ret
    exact ⟨rfl, Below.refl _ _⟩
  · obtain ⟨f1, f2, f3, f4⟩ := full_facts h
    have HE : Hid (mkS s = shaS s) := if_neg h
    have HZ : Hid (s.size ≤ 10000) := hs
    rw [HE.out]
    clear h hs
    go_enter Tryd.func8, Tryd.ntmps8
    go_wp2_with fail
    refine (sum4_any s (by have := HZ.out; omega) _).mono ?_
    rintro e w1 ⟨rfl, hb⟩
    have HB : Hid _ := hb
    clear hb
    go_wp2_with fail
    go_ret
    exact ⟨rfl, HB.out⟩
set_option maxRecDepth 100000 in
set_option maxHeartbeats 4000000 in
theorem cfind_any (mark : ByteArray) (a : Option Addr) (l : List ByteArray) (n cap : Nat) (hn : n = l.length) (hl : n ≤ 100) (hz : ∀ s ∈ l, s.size ≤ 10000) (w : World) (hG : GlobD w) (hzz : 1 < w.heap.size) (hS : Strs w a l) :
    Calls Tryd.prog 5 #[.string mark, .slice a n cap] w fun e w' => e = .returned (.tuple #[.string (pikS (fnd mark l)), .bool (pikB (fnd mark l))]) ∧ Below w.heap.size w w' := by
  have KM : Hid (∀ w' t, t ≠ ⟨#[]⟩ → t ∈ l → Below w.heap.size w w' → Calls Tryd.prog 6 #[.string t] w' fun e w'' => e = .returned (.string (shaS t)) ∧ Below w'.heap.size w' w'') := fun w' t h1 h2 hb => by have h := cmark_any t (hz t h2) w' (hG.call hb) (Nat.lt_of_lt_of_le hzz hb.size); rw [show mkS t = shaS t from if_neg h1] at h; exact h
  have HN : Hid (n = l.length ∧ n ≤ 100 ∧ ∀ s ∈ l, s.size ≤ 10000) := ⟨hn, hl, hz⟩
  have n100 : (n : Int) ≤ 100 := by omega
  have HS : Hid (Strs w a l) := hS
  clear hn hl hz hS hG hzz
  go_enter Tryd.func5, Tryd.ntmps5
  go_wp2_with fail
  rename_i Kr hKr
  have HKr : Hid _ := hKr
  clear hKr
  go_loopw [10] (fun iv wr => ∃ i : Nat, i ≤ n ∧ iv = .int .i64 (i : Nat) ∧ fnd mark l = fnd mark (l.drop i) ∧ Below w.heap.size w wr) (fun iv _ => n - (Go.RowKit.intOf iv).toNat)
  case atStart => exact ⟨0, Nat.zero_le _, rfl, rfl, Below.refl _ _⟩
  case round =>
    obtain ⟨i, hi, rfl, hF, hB⟩ := hrel
    rename World => wr
    have HB : Hid (fnd mark l = fnd mark (l.drop i) ∧ Below w.heap.size w wr) := ⟨hF, hB⟩
    by_cases hlt : i < n
    · clear HKr
      have hil : i < l.length := by rw [← HN.out.1]; exact hlt
      have hlt' : (i : Int) < (n : Int) := by omega
      obtain ⟨p, o, ha, cp, pl⟩ := ((show Strs w a l from HS.out).call hB).get hil
      subst ha
      obtain ⟨x, hx⟩ : ∃ x, x = (l[i]'hil) := ⟨_, rfl⟩
      rw [← hx] at cp
      have HD : Hid (l.drop i = x :: l.drop (i + 1) ∧ x ∈ l) := ⟨by rw [hx]; exact List.drop_eq_getElem_cons hil, by rw [hx]; exact List.getElem_mem hil⟩
      have HLT : Hid (i < n) := hlt
      clear hx hil hi hlt pl hF hB
      by_cases hte : x = ⟨#[]⟩
      · have HX : Hid (fnd mark l = fnd mark (l.drop (i + 1))) := by
          rw [HB.out.1, HD.out.1]
          exact fnd_no (fun q => q.1 hte)
        subst hte
        go_wp2_with fail
        go_roundw
        case rel => first | exact ⟨i + 1, HLT.out, by go_num, HX.out, HB.out.2⟩ | ((repeat apply Exists.intro); exact ⟨⟨i + 1, HLT.out, by go_num, HX.out, HB.out.2⟩, rfl⟩)
        case measure => have h1 := HLT.out; simp [Go.RowKit.intOf]; omega
      · obtain ⟨f1, f2, f3, f4⟩ := full_facts hte
        have HTE : Hid (x ≠ ⟨#[]⟩) := hte
        clear hte
        by_cases hm : shaS x = mark
        · have HX : Hid (fnd mark l = some x) := by
            rw [HB.out.1, HD.out.1]
            exact fnd_yes ⟨HTE.out, hm⟩
          have q1 : ((shaS x).toList == mark.toList) = true := by rw [hm]; simp only [BEq.rfl]
          have KX : Hid (∀ w', Below w.heap.size w w' → Calls Tryd.prog 6 #[.string x] w' fun e w'' => e = .returned (.string (shaS x)) ∧ Below w'.heap.size w' w'') := fun w' hb => KM.out w' x HTE.out HD.out.2 hb
          obtain ⟨Z, hZ⟩ : ∃ Z, Z = shaS x := ⟨_, rfl⟩
          rw [← hZ] at q1 KX
          clear hm hZ
          go_wp2_with fail
          refine (KX.out _ HB.out.2).mono ?_
          rintro e w2 ⟨rfl, hb2⟩
          have H2 : Hid (Below w.heap.size w w2) := below_call0 HB.out.2 hb2
          clear hb2
          go_wp2_with fail
          refine (clone_any x _ (by have := HN.out.2.2 x HD.out.2; omega)).mono ?_
          rintro e w3 ⟨rfl, hb3⟩
          have H3 : Hid (Below w.heap.size w w3) := below_call0 H2.out hb3
          clear hb3
          go_wp2_with fail
          rw [HX.out]
          go_ret2
          exact ⟨rfl, H3.out⟩
        · have HX : Hid (fnd mark l = fnd mark (l.drop (i + 1))) := by
            rw [HB.out.1, HD.out.1]
            exact fnd_no (fun q => hm q.2)
          have q1 : ((shaS x).toList == mark.toList) = false := toList_neC hm
          have KX : Hid (∀ w', Below w.heap.size w w' → Calls Tryd.prog 6 #[.string x] w' fun e w'' => e = .returned (.string (shaS x)) ∧ Below w'.heap.size w' w'') := fun w' hb => KM.out w' x HTE.out HD.out.2 hb
          obtain ⟨Z, hZ⟩ : ∃ Z, Z = shaS x := ⟨_, rfl⟩
          rw [← hZ] at q1 KX
          clear hm hZ
          go_wp2_with fail
          refine (KX.out _ HB.out.2).mono ?_
          rintro e w2 ⟨rfl, hb2⟩
          have H2 : Hid (Below w.heap.size w w2) := below_call0 HB.out.2 hb2
          clear hb2
          go_wp2_with fail
          go_roundw
          case rel => first | exact ⟨i + 1, HLT.out, by go_num, HX.out, H2.out⟩ | ((repeat apply Exists.intro); exact ⟨⟨i + 1, HLT.out, by go_num, HX.out, H2.out⟩, rfl⟩)
          case measure => have h1 := HLT.out; simp [Go.RowKit.intOf]; omega
    · obtain rfl : i = n := by omega
      have hnl : ¬ ((i : Int) < (i : Int)) := Int.lt_irrefl _
      have HX : Hid (fnd mark l = none) := by
        rw [hF, List.drop_eq_nil_of_le (by rw [← HN.out.1]; exact Nat.le_refl _)]
        exact rfl
      clear hlt hi hF hB
      go_wp2_with fail
      refine HKr.out _ _ ?_
      clear HKr
      go_wp2_with fail
      rw [HX.out]
      go_ret2
      exact ⟨rfl, HB.out.2⟩
set_option maxRecDepth 100000 in
set_option maxHeartbeats 4000000 in
theorem cfind4_any (mark : ByteArray) (a : Option Addr) (l : List ByteArray) (n cap : Nat) (hn : n = l.length) (hl : n ≤ 100) (hz : ∀ s ∈ l, s.size ≤ 10000) (w : World) (hS : Strs w a l) :
    Calls Tryd.prog 7 #[.string mark, .slice a n cap] w fun e w' => e = .returned (.tuple #[.string (pikS (fnd mark l)), .bool (pikB (fnd mark l))]) ∧ Below w.heap.size w w' := by
  have KM : Hid (∀ w' t, t ≠ ⟨#[]⟩ → t ∈ l → Below w.heap.size w w' → Calls Tryd.prog 13 #[.string t] w' fun e w'' => e = .returned (.string (shaS t)) ∧ Below w'.heap.size w' w'') := fun w' t _ h2 _ => sum4_any t (by have := hz t h2; omega) w'
  have HN : Hid (n = l.length ∧ n ≤ 100 ∧ ∀ s ∈ l, s.size ≤ 10000) := ⟨hn, hl, hz⟩
  have n100 : (n : Int) ≤ 100 := by omega
  have HS : Hid (Strs w a l) := hS
  clear hn hl hz hS
  go_enter Tryd.func7, Tryd.ntmps7
  go_wp2_with fail
  rename_i Kr hKr
  have HKr : Hid _ := hKr
  clear hKr
  go_loopw [10] (fun iv wr => ∃ i : Nat, i ≤ n ∧ iv = .int .i64 (i : Nat) ∧ fnd mark l = fnd mark (l.drop i) ∧ Below w.heap.size w wr) (fun iv _ => n - (Go.RowKit.intOf iv).toNat)
  case atStart => exact ⟨0, Nat.zero_le _, rfl, rfl, Below.refl _ _⟩
  case round =>
    obtain ⟨i, hi, rfl, hF, hB⟩ := hrel
    rename World => wr
    have HB : Hid (fnd mark l = fnd mark (l.drop i) ∧ Below w.heap.size w wr) := ⟨hF, hB⟩
    by_cases hlt : i < n
    · clear HKr
      have hil : i < l.length := by rw [← HN.out.1]; exact hlt
      have hlt' : (i : Int) < (n : Int) := by omega
      obtain ⟨p, o, ha, cp, pl⟩ := ((show Strs w a l from HS.out).call hB).get hil
      subst ha
      obtain ⟨x, hx⟩ : ∃ x, x = (l[i]'hil) := ⟨_, rfl⟩
      rw [← hx] at cp
      have HD : Hid (l.drop i = x :: l.drop (i + 1) ∧ x ∈ l) := ⟨by rw [hx]; exact List.drop_eq_getElem_cons hil, by rw [hx]; exact List.getElem_mem hil⟩
      have HLT : Hid (i < n) := hlt
      clear hx hil hi hlt pl hF hB
      by_cases hte : x = ⟨#[]⟩
      · have HX : Hid (fnd mark l = fnd mark (l.drop (i + 1))) := by
          rw [HB.out.1, HD.out.1]
          exact fnd_no (fun q => q.1 hte)
        subst hte
        go_wp2_with fail
        go_roundw
        case rel => first | exact ⟨i + 1, HLT.out, by go_num, HX.out, HB.out.2⟩ | ((repeat apply Exists.intro); exact ⟨⟨i + 1, HLT.out, by go_num, HX.out, HB.out.2⟩, rfl⟩)
        case measure => have h1 := HLT.out; simp [Go.RowKit.intOf]; omega
      · obtain ⟨f1, f2, f3, f4⟩ := full_facts hte
        have HTE : Hid (x ≠ ⟨#[]⟩) := hte
        clear hte
        by_cases hm : shaS x = mark
        · have HX : Hid (fnd mark l = some x) := by
            rw [HB.out.1, HD.out.1]
            exact fnd_yes ⟨HTE.out, hm⟩
          have q1 : ((shaS x).toList == mark.toList) = true := by rw [hm]; simp only [BEq.rfl]
          have KX : Hid (∀ w', Below w.heap.size w w' → Calls Tryd.prog 13 #[.string x] w' fun e w'' => e = .returned (.string (shaS x)) ∧ Below w'.heap.size w' w'') := fun w' hb => KM.out w' x HTE.out HD.out.2 hb
          obtain ⟨Z, hZ⟩ : ∃ Z, Z = shaS x := ⟨_, rfl⟩
          rw [← hZ] at q1 KX
          clear hm hZ
          go_wp2_with fail
          refine (KX.out _ HB.out.2).mono ?_
          rintro e w2 ⟨rfl, hb2⟩
          have H2 : Hid (Below w.heap.size w w2) := below_call0 HB.out.2 hb2
          clear hb2
          go_wp2_with fail
          rw [HX.out]
          go_ret2
          exact ⟨rfl, H2.out⟩
        · have HX : Hid (fnd mark l = fnd mark (l.drop (i + 1))) := by
            rw [HB.out.1, HD.out.1]
            exact fnd_no (fun q => hm q.2)
          have q1 : ((shaS x).toList == mark.toList) = false := toList_neC hm
          have KX : Hid (∀ w', Below w.heap.size w w' → Calls Tryd.prog 13 #[.string x] w' fun e w'' => e = .returned (.string (shaS x)) ∧ Below w'.heap.size w' w'') := fun w' hb => KM.out w' x HTE.out HD.out.2 hb
          obtain ⟨Z, hZ⟩ : ∃ Z, Z = shaS x := ⟨_, rfl⟩
          rw [← hZ] at q1 KX
          clear hm hZ
          go_wp2_with fail
          refine (KX.out _ HB.out.2).mono ?_
          rintro e w2 ⟨rfl, hb2⟩
          have H2 : Hid (Below w.heap.size w w2) := below_call0 HB.out.2 hb2
          clear hb2
          go_wp2_with fail
          go_roundw
          case rel => first | exact ⟨i + 1, HLT.out, by go_num, HX.out, H2.out⟩ | ((repeat apply Exists.intro); exact ⟨⟨i + 1, HLT.out, by go_num, HX.out, H2.out⟩, rfl⟩)
          case measure => have h1 := HLT.out; simp [Go.RowKit.intOf]; omega
    · obtain rfl : i = n := by omega
      have hnl : ¬ ((i : Int) < (i : Int)) := Int.lt_irrefl _
      have HX : Hid (fnd mark l = none) := by
        rw [hF, List.drop_eq_nil_of_le (by rw [← HN.out.1]; exact Nat.le_refl _)]
        exact rfl
      clear hlt hi hF hB
      go_wp2_with fail
      refine HKr.out _ _ ?_
      clear HKr
      go_wp2_with fail
      rw [HX.out]
      go_ret2
      exact ⟨rfl, HB.out.2⟩
theorem castMarks_long (s : ByteArray) (a : Option Addr) (n cap : Nat) (h : 100 < n ∨ (n ≤ 100 ∧ 10000 < s.size)) (w : World) :
    Calls Tryd.prog 3 #[.string s, .slice a n cap] w fun e w' => e = .returned (.bool true) ∧ Below w.heap.size w w' := by
  rcases h with h | ⟨h1, h2⟩
  · have h' : (100 : Int) < (n : Int) := by omega
    clear h
    go_enter Tryd.func3, Tryd.ntmps3
    go_wp2_with fail
    refine (four_any _).mono ?_
    rintro e w1 ⟨rfl, hb⟩
    have HB : Hid _ := hb
    clear hb
    go_wp2_with fail
    go_ret
    exact ⟨rfl, HB.out⟩
  · have h' : ¬ ((100 : Int) < (n : Int)) := by omega
    have h'' : (10000 : Int) < (s.size : Int) := by omega
    clear h1 h2
    go_enter Tryd.func3, Tryd.ntmps3
    go_wp2_with fail
    refine (four_any _).mono ?_
    rintro e w1 ⟨rfl, hb⟩
    have HB : Hid _ := hb
    clear hb
    go_wp2_with fail
    go_ret
    exact ⟨rfl, HB.out⟩
set_option maxRecDepth 100000 in
set_option maxHeartbeats 4000000 in
theorem castMarks_in (s : ByteArray) (a : Option Addr) (l : List ByteArray) (n cap : Nat) (hn : n = l.length) (h1 : n ≤ 100) (h2 : s.size ≤ 10000) (w : World) (hG : GlobD w) (hz : 1 < w.heap.size) (hS : Strs w a l) :
    Calls Tryd.prog 3 #[.string s, .slice a n cap] w fun e w' => e = .returned (.bool true) ∧ Below w.heap.size w w' := by
  have HN : Hid (n = l.length ∧ n ≤ 100 ∧ s.size ≤ 10000) := ⟨hn, h1, h2⟩
  have HG : Hid (GlobD w ∧ 1 < w.heap.size) := ⟨hG, hz⟩
  have HS : Hid (Strs w a l) := hS
  have n100 : ¬ ((100 : Int) < (n : Int)) := by omega
  have n100' : (n : Int) ≤ 100 := by omega
  have s4 : ¬ ((10000 : Int) < (s.size : Int)) := by omega
  clear hn h1 h2 hG hz hS
  go_enter Tryd.func3, Tryd.ntmps3
  go_wp2_with fail
  rename_i Kr hKr
  have HKr : Hid _ := hKr
  clear hKr
  go_loopw [26] (fun iv wr => ∃ i : Nat, i ≤ n ∧ iv = .int .i64 (i : Nat) ∧ (∀ t ∈ l.take i, t.size ≤ 10000) ∧ w = wr) (fun iv _ => n - (Go.RowKit.intOf iv).toNat)
  case atStart => exact ⟨0, Nat.zero_le _, rfl, fun t ht => by simp at ht, rfl⟩
  case round =>
    obtain ⟨i, hi, rfl, hA, hwr⟩ := hrel
    subst hwr
    have HA : Hid (∀ t ∈ l.take i, t.size ≤ 10000) := hA
    clear hA
    by_cases hlt : i < n
    · clear HKr
      have hil : i < l.length := by rw [← HN.out.1]; exact hlt
      have hlt' : (i : Int) < (n : Int) := by omega
      obtain ⟨p, o, ha, cp, pl⟩ := (show Strs w a l from HS.out).get hil
      subst ha
      obtain ⟨x, hx⟩ : ∃ x, x = (l[i]'hil) := ⟨_, rfl⟩
      rw [← hx] at cp
      have HT : Hid (l.take (i + 1) = l.take i ++ [x]) := takeC (by rw [hx]; exact List.getElem?_eq_getElem hil)
      have HLT : Hid (i < n) := hlt
      clear hx hil hi hlt pl
      by_cases hxs : 10000 < x.size
      · have q : (10000 : Int) < (x.size : Int) := by omega
        clear hxs
        go_wp2_with fail
        refine (four_any _).mono ?_
        rintro e w1 ⟨rfl, hb⟩
        have HB : Hid _ := hb
        clear hb
        go_wp2_with fail
        go_ret
        exact ⟨rfl, HB.out⟩
      · have q : ¬ ((10000 : Int) < (x.size : Int)) := by omega
        have HX : Hid (∀ t ∈ l.take (i + 1), t.size ≤ 10000) := fun t ht => by
          rw [HT.out, List.mem_append, List.mem_singleton] at ht
          rcases ht with ht | rfl
          · exact HA.out t ht
          · omega
        clear hxs
        go_wp2_with fail
        go_roundw
        case rel => first | exact ⟨i + 1, HLT.out, by go_num, HX.out, by first | rfl | trivial⟩ | ((repeat apply Exists.intro); exact ⟨⟨i + 1, HLT.out, by go_num, HX.out, by first | rfl | trivial⟩, rfl⟩)
        case measure => have h1 := HLT.out; simp [Go.RowKit.intOf]; omega
    · obtain rfl : i = n := by omega
      have hnl : ¬ ((i : Int) < (i : Int)) := Int.lt_irrefl _
      have HZ : Hid (∀ t ∈ l, t.size ≤ 10000) := by
        have h := HA.out
        rw [List.take_of_length_le (by rw [← HN.out.1]; exact Nat.le_refl _)] at h
        exact h
      have KM : Hid (∀ w', Below w.heap.size w w' → Calls Tryd.prog 6 #[.string s] w' fun e w'' => e = .returned (.string (mkS s)) ∧ Below w'.heap.size w' w'') := fun w' hb => cmark_any s HN.out.2.2 w' (HG.out.1.call hb) (Nat.lt_of_lt_of_le HG.out.2 hb.size)
      have KM4 : Hid (∀ w', Calls Tryd.prog 8 #[.string s] w' fun e w'' => e = .returned (.string (mkS s)) ∧ Below w'.heap.size w' w'') := fun w' => cmark4_any s HN.out.2.2 w'
      have KF : Hid (∀ w' m, Below w.heap.size w w' → Calls Tryd.prog 5 #[.string m, .slice a i cap] w' fun e w'' => e = .returned (.tuple #[.string (pikS (fnd m l)), .bool (pikB (fnd m l))]) ∧ Below w'.heap.size w' w'') := fun w' m hb => cfind_any m a l i cap HN.out.1 HN.out.2.1 HZ.out w' (HG.out.1.call hb) (Nat.lt_of_lt_of_le HG.out.2 hb.size) (HS.out.call hb)
      have KF4 : Hid (∀ w' m, Below w.heap.size w w' → Calls Tryd.prog 7 #[.string m, .slice a i cap] w' fun e w'' => e = .returned (.tuple #[.string (pikS (fnd m l)), .bool (pikB (fnd m l))]) ∧ Below w'.heap.size w' w'') := fun w' m hb => cfind4_any m a l i cap HN.out.1 HN.out.2.1 HZ.out w' (HS.out.call hb)
      obtain ⟨M, hM⟩ : ∃ M, M = mkS s := ⟨_, rfl⟩
      rw [← hM] at KM KM4
      obtain ⟨A, hA⟩ : ∃ A, A = pikS (fnd M l) := ⟨_, rfl⟩
      obtain ⟨x, hx⟩ : ∃ x, x = pikB (fnd M l) := ⟨_, rfl⟩
      obtain ⟨C, hC⟩ : ∃ C, C = pikS (fnd s l) := ⟨_, rfl⟩
      obtain ⟨z, hz⟩ : ∃ z, z = pikB (fnd s l) := ⟨_, rfl⟩
      have k1 := fun w' => KF.out w' M
      have k2 := fun w' => KF4.out w' M
      have k3 := fun w' => KF.out w' s
      have k4 := fun w' => KF4.out w' s
      rw [← hA, ← hx] at k1 k2
      rw [← hC, ← hz] at k3 k4
      have HK : Hid (_ ∧ _ ∧ _ ∧ _) := ⟨k1, k2, k3, k4⟩
      have qm : (M.toList == M.toList) = true := by simp only [BEq.rfl]
      have qa : (A.toList == A.toList) = true := by simp only [BEq.rfl]
      have qc : (C.toList == C.toList) = true := by simp only [BEq.rfl]
      have qx : (x == x) = true := by simp only [BEq.rfl]
      have qz : (z == z) = true := by simp only [BEq.rfl]
      clear hlt hi hM hA hx hC hz k1 k2 k3 k4 KF KF4
      go_wp2_with fail
      refine HKr.out _ _ ?_
      clear HKr
      go_wp2_with fail
      refine (KM.out _ (Below.refl _ _)).mono ?_
      rintro e w1 ⟨rfl, hb1⟩
      have H1 : Hid (Below w.heap.size w w1) := hb1
      clear hb1
      go_wp2_with fail
      refine (HK.out.1 _ H1.out).mono ?_
      rintro e w2 ⟨rfl, hb2⟩
      have H2 : Hid (Below w.heap.size w w2) := below_call0 H1.out hb2
      clear hb2
      go_wp2_with fail
      refine (KM4.out _).mono ?_
      rintro e w3 ⟨rfl, hb3⟩
      have H3 : Hid (Below w.heap.size w w3) := below_call0 H2.out hb3
      clear hb3
      go_wp2_with fail
      refine (HK.out.2.1 _ H3.out).mono ?_
      rintro e w4 ⟨rfl, hb4⟩
      have H4 : Hid (Below w.heap.size w w4) := below_call0 H3.out hb4
      clear hb4
      go_wp2_with fail
      refine (HK.out.2.2.1 _ H4.out).mono ?_
      rintro e w5 ⟨rfl, hb5⟩
      have H5 : Hid (Below w.heap.size w w5) := below_call0 H4.out hb5
      clear hb5
      go_wp2_with fail
      refine (HK.out.2.2.2 _ H5.out).mono ?_
      rintro e w6 ⟨rfl, hb6⟩
      have H6 : Hid (Below w.heap.size w w6) := below_call0 H5.out hb6
      clear hb6
      go_wp2_with fail
      refine (KM.out _ H6.out).mono ?_
      rintro e w7 ⟨rfl, hb7⟩
      have H7 : Hid (Below w.heap.size w w7) := below_call0 H6.out hb7
      clear hb7
      go_wp2_with fail
      refine (KM4.out _).mono ?_
      rintro e w8 ⟨rfl, hb8⟩
      have H8 : Hid (Below w.heap.size w w8) := below_call0 H7.out hb8
      clear hb8
      go_wp2_with fail
      refine (four_any _).mono ?_
      rintro e w9 ⟨rfl, hb9⟩
      have H9 : Hid (Below w.heap.size w w9) := below_call0 H8.out hb9
      clear hb9
      go_wp2_with fail
      go_ret
      exact ⟨rfl, H9.out⟩
theorem castMarks_any (s : ByteArray) (a : Option Addr) (l : List ByteArray) (cap : Nat) (w : World) (hG : GlobD w) (hz : 1 < w.heap.size) (hS : Strs w a l) :
    Calls Tryd.prog 3 #[.string s, .slice a l.length cap] w fun e w' => e = .returned (.bool true) ∧ Below w.heap.size w w' := by
  by_cases h1 : 100 < l.length
  · exact castMarks_long s a _ cap (.inl h1) w
  · by_cases h2 : 10000 < s.size
    · exact castMarks_long s a _ cap (.inr ⟨by omega, h2⟩) w
    · exact castMarks_in s a l _ cap rfl (by omega) (by omega) w hG hz hS
end Go.Proofs.YtdfadinpeeigkaaDoor
