/- Package cast: only, Echoed, Ready, Sure; the reference's Most. -/
import Derived.Test.YtdfadinpeeigkaaCaB
namespace Go.Proofs.Ytdfadinpeeigkaa
open Go Go.RowKit Go.Lib

def TabOk (n f : Int) : Prop := 1 ≤ n ∧ n ≤ 10 ∧ 0 ≤ f ∧ 3 * f < n
/-- What is answered, as a tuple. -/
def pikV (p : Option ByteArray) : Value := .tuple #[.string (pikS p), .bool (pikB p), .int .i64 0]
def noV : Value := .tuple #[.string ⟨#[]⟩, .bool false, .int .i64 1]
theorem only_no (n f : Int) (v : Value) (a : Option Addr) (m cap : Nat) (h : ¬ (TabOk n f ∧ (m : Int) = n)) (w : World) :
    Calls Try.prog 17 #[.int .i64 n, .int .i64 f, v, .slice a m cap] w fun e w' => e = .returned noV ∧ w' = w := by
  unfold TabOk at h
  unfold noV
  by_cases h1 : 1 ≤ n ∧ n ≤ 10 ∧ 0 ≤ f ∧ 3 * f < n
  · have HD : Hid (decide (1 ≤ n ∧ n ≤ 10 ∧ 0 ≤ f ∧ 3 * f < n) = true) := decide_eq_true h1
    have hm : ¬ ((m : Int) = n) := fun c => h ⟨h1, c⟩
    clear h h1
    go_enter Try.func17, Try.ntmps17
    go_wp2_with fail
    refine (ctable_any _ _ _).mono ?_
    rintro e w1 ⟨rfl, rfl⟩
    rw [HD.out]
    go_wp2_with fail
    refine bodyPost_ret (v := .tuple #[.string ⟨#[]⟩, .bool false, .int .i64 1]) ?_ rfl ⟨rfl, rfl⟩
    simp [results, Try.results17, go_sem]
  · have HD : Hid (decide (1 ≤ n ∧ n ≤ 10 ∧ 0 ≤ f ∧ 3 * f < n) = false) := decide_eq_false h1
    clear h h1
    go_enter Try.func17, Try.ntmps17
    go_wp2_with fail
    refine (ctable_any _ _ _).mono ?_
    rintro e w1 ⟨rfl, rfl⟩
    rw [HD.out]
    go_wp2_with fail
    refine bodyPost_ret (v := .tuple #[.string ⟨#[]⟩, .bool false, .int .i64 1]) ?_ rfl ⟨rfl, rfl⟩
    simp [results, Try.results17, go_sem]
/-- A table's votes. -/
structure VotesOk (n f : Nat) (l : List ByteArray) : Prop where
  n1 : 1 ≤ n
  n10 : n ≤ 10
  hf : 3 * f < n
  len : n = l.length
  sz : ∀ s ∈ l, s.size < 140737488351233
theorem VotesOk.tab {n f : Nat} {l : List ByteArray} (h : VotesOk n f l) : decide (1 ≤ (n : Int) ∧ (n : Int) ≤ 10 ∧ 0 ≤ (f : Int) ∧ 3 * (f : Int) < (n : Int)) = true := decide_eq_true (by have := h.n1; have := h.n10; have := h.hf; omega)
theorem pick_ne {least : Nat} {l : List ByteArray} (h : (oft least l l.length).length ≠ 1) : pick least l = none := by
  unfold pick
  split
  · next s e => rw [e] at h; exact absurd rfl h
  · rfl
theorem pick_one {least : Nat} {l : List ByteArray} (h : (oft least l l.length).length = 1) : ∃ s, oft least l l.length = [s] ∧ pick least l = some s := by
  unfold pick
  match hh : oft least l l.length, h with
  | [x], _ => exact ⟨x, rfl, rfl⟩
theorem only_ok (n f least : Nat) (h1 : 1 ≤ least) (a : Option Addr) (l : List ByteArray) (cap : Nat) (hV : VotesOk n f l) (w : World) (hS : Strs w a l) :
    Calls Try.prog 17 #[.int .i64 (n : Nat), .int .i64 (f : Nat), .int .i64 (least : Nat), .slice a n cap] w fun e w' => e = .returned (pikV (pick least l)) ∧ Below w.heap.size w w' := by
  have HD : Hid _ := hV.tab
  have HV : Hid (VotesOk n f l ∧ 1 ≤ least) := ⟨hV, h1⟩
  have HS : Hid (Strs w a l) := hS
  clear hV hS h1
  go_enter Try.func17, Try.ntmps17
  go_wp2_with fail
  refine (ctable_any _ _ _).mono ?_
  rintro e w1 ⟨rfl, rfl⟩
  rw [HD.out]
  go_wp2_with fail
  refine (often_any least a l n cap HV.out.1.len HV.out.1.n10 HV.out.1.sz _ HS.out).mono ?_
  rintro e w2 ⟨fa, fc, m, rfl, hm, hF, hb2⟩
  rw [HV.out.1.len] at hm hF
  by_cases h1 : m = 1
  · obtain ⟨s, e1, e2⟩ := pick_one (hm.symm.trans h1)
    rw [e1] at hF
    obtain ⟨p, q, ha, cp, _⟩ := hF.get (k := 0) (by simp)
    subst ha
    have hs : s.size ≤ 281474976710656 := by
      have hmem := (oft_all HV.out.2 l s).1 (by rw [e1]; simp)
      have := HV.out.1.sz s (cs_pos (by have := hmem.2; have := HV.out.2; omega))
      omega
    have HC : Hid (pick least l = some s ∧ s.size ≤ 281474976710656 ∧ Below w1.heap.size w1 w2) := ⟨e2, hs, hb2⟩
    have cp' : w2.cell? ⟨p, q, none⟩ = some (.string s) := cp
    subst h1
    clear hm hF e1 e2 hs hb2 cp
    go_wp2_with fail
    refine (clone_any s _ HC.out.2.1).mono ?_
    rintro e w3 ⟨rfl, hb3⟩
    have HB : Hid (Below w1.heap.size w1 w3) := below_call0 HC.out.2.2 hb3
    clear hb3
    go_wp2_with fail
    rw [HC.out.1]
    refine bodyPost_ret (v := pikV (some s)) ?_ rfl ⟨rfl, HB.out⟩
    simp [results, Try.results17, go_sem, pikV, pikS, pikB]
  · have HC : Hid (pick least l = none ∧ Below w1.heap.size w1 w2) := ⟨pick_ne (by rw [← hm]; exact h1), hb2⟩
    have h1' : ¬ ((m : Int) = 1) := by omega
    clear hm hF hb2 h1
    go_wp2_with fail
    rw [HC.out.1]
    refine bodyPost_ret (v := pikV none) ?_ rfl ⟨rfl, HC.out.2⟩
    simp [results, Try.results17, go_sem, pikV, pikS, pikB]
theorem echoed_ok (n f : Nat) (a : Option Addr) (l : List ByteArray) (cap : Nat) (hV : VotesOk n f l) (w : World) (hS : Strs w a l) :
    Calls Try.prog 8 #[.int .i64 (n : Nat), .int .i64 (f : Nat), .slice a n cap] w fun e w' => e = .returned (pikV (pick (n - f) l)) ∧ Below w.heap.size w w' := by
  have HV : Hid (VotesOk n f l) := hV
  have HS : Hid (Strs w a l) := hS
  have e1 : (n : Int) - (f : Int) = ((n - f : Nat) : Int) := by have := hV.hf; omega
  have n10 : (n : Int) ≤ 10 := by have := hV.n10; omega
  have f10 : (f : Int) ≤ 10 := by have := hV.n10; have := hV.hf; omega
  have HL : Hid (1 ≤ n - f) := (by have := hV.hf; omega : 1 ≤ n - f)
  obtain ⟨L, hL⟩ : ∃ L, L = n - f := ⟨_, rfl⟩
  rw [← hL] at e1 HL ⊢
  clear hV hS hL
  go_enter Try.func8, Try.ntmps8
  go_wp2_with fail
  refine (only_ok n f L HL.out a l cap HV.out _ HS.out).mono ?_
  rintro e w1 ⟨rfl, hb⟩
  have HB : Hid _ := hb
  clear hb
  unfold pikV
  go_wp2_with fail
  refine bodyPost_ret (v := .tuple #[.string (pikS (pick L l)), .bool (pikB (pick L l)), .int .i64 0]) ?_ rfl ⟨rfl, HB.out⟩
  simp [results, Try.results8, go_sem]
theorem echoed_no (n f : Int) (a : Option Addr) (m cap : Nat) (h : ¬ (TabOk n f ∧ (m : Int) = n)) (w : World) :
    Calls Try.prog 8 #[.int .i64 n, .int .i64 f, .slice a m cap] w fun e w' => e = .returned noV ∧ w' = w := by
  have H : Hid _ := h
  clear h
  go_enter Try.func8, Try.ntmps8
  go_wp2_with fail
  refine (only_no n f _ a m cap H.out _).mono ?_
  rintro e w1 ⟨rfl, rfl⟩
  unfold noV
  go_wp2_with fail
  refine bodyPost_ret (v := .tuple #[.string ⟨#[]⟩, .bool false, .int .i64 1]) ?_ rfl ⟨rfl, rfl⟩
  simp [results, Try.results8, go_sem]
theorem sure_ok (n f : Nat) (a : Option Addr) (l : List ByteArray) (cap : Nat) (hV : VotesOk n f l) (w : World) (hS : Strs w a l) :
    Calls Try.prog 10 #[.int .i64 (n : Nat), .int .i64 (f : Nat), .slice a n cap] w fun e w' => e = .returned (pikV (pick (n - f) l)) ∧ Below w.heap.size w w' := by
  have HV : Hid (VotesOk n f l) := hV
  have HS : Hid (Strs w a l) := hS
  have e1 : (n : Int) - (f : Int) = ((n - f : Nat) : Int) := by have := hV.hf; omega
  have n10 : (n : Int) ≤ 10 := by have := hV.n10; omega
  have f10 : (f : Int) ≤ 10 := by have := hV.n10; have := hV.hf; omega
  have HL : Hid (1 ≤ n - f) := (by have := hV.hf; omega : 1 ≤ n - f)
  obtain ⟨L, hL⟩ : ∃ L, L = n - f := ⟨_, rfl⟩
  rw [← hL] at e1 HL ⊢
  clear hV hS hL
  go_enter Try.func10, Try.ntmps10
  go_wp2_with fail
  refine (only_ok n f L HL.out a l cap HV.out _ HS.out).mono ?_
  rintro e w1 ⟨rfl, hb⟩
  have HB : Hid _ := hb
  clear hb
  unfold pikV
  go_wp2_with fail
  refine bodyPost_ret (v := .tuple #[.string (pikS (pick L l)), .bool (pikB (pick L l)), .int .i64 0]) ?_ rfl ⟨rfl, HB.out⟩
  simp [results, Try.results10, go_sem]
theorem sure_no (n f : Int) (a : Option Addr) (m cap : Nat) (h : ¬ (TabOk n f ∧ (m : Int) = n)) (w : World) :
    Calls Try.prog 10 #[.int .i64 n, .int .i64 f, .slice a m cap] w fun e w' => e = .returned noV ∧ w' = w := by
  have H : Hid _ := h
  clear h
  go_enter Try.func10, Try.ntmps10
  go_wp2_with fail
  refine (only_no n f _ a m cap H.out _).mono ?_
  rintro e w1 ⟨rfl, rfl⟩
  unfold noV
  go_wp2_with fail
  refine bodyPost_ret (v := .tuple #[.string ⟨#[]⟩, .bool false, .int .i64 1]) ?_ rfl ⟨rfl, rfl⟩
  simp [results, Try.results10, go_sem]
theorem ready_ok (n f : Nat) (a : Option Addr) (l : List ByteArray) (cap : Nat) (hV : VotesOk n f l) (w : World) (hS : Strs w a l) :
    Calls Try.prog 9 #[.int .i64 (n : Nat), .int .i64 (f : Nat), .slice a n cap] w fun e w' => e = .returned (pikV (pick (f + 1) l)) ∧ Below w.heap.size w w' := by
  have HV : Hid (VotesOk n f l) := hV
  have HS : Hid (Strs w a l) := hS
  have e1 : (f : Int) + 1 = ((f + 1 : Nat) : Int) := by omega
  have n10 : (n : Int) ≤ 10 := by have := hV.n10; omega
  have f10 : (f : Int) ≤ 10 := by have := hV.n10; have := hV.hf; omega
  have HL : Hid (1 ≤ f + 1) := (by have := hV.hf; omega : 1 ≤ f + 1)
  obtain ⟨L, hL⟩ : ∃ L, L = f + 1 := ⟨_, rfl⟩
  rw [← hL] at e1 HL ⊢
  clear hV hS hL
  go_enter Try.func9, Try.ntmps9
  go_wp2_with fail
  refine (only_ok n f L HL.out a l cap HV.out _ HS.out).mono ?_
  rintro e w1 ⟨rfl, hb⟩
  have HB : Hid _ := hb
  clear hb
  unfold pikV
  go_wp2_with fail
  refine bodyPost_ret (v := .tuple #[.string (pikS (pick L l)), .bool (pikB (pick L l)), .int .i64 0]) ?_ rfl ⟨rfl, HB.out⟩
  simp [results, Try.results9, go_sem]
theorem ready_no (n f : Int) (a : Option Addr) (m cap : Nat) (h : ¬ (TabOk n f ∧ (m : Int) = n)) (w : World) :
    Calls Try.prog 9 #[.int .i64 n, .int .i64 f, .slice a m cap] w fun e w' => e = .returned noV ∧ w' = w := by
  have H : Hid _ := h
  clear h
  go_enter Try.func9, Try.ntmps9
  go_wp2_with fail
  refine (only_no n f _ a m cap H.out _).mono ?_
  rintro e w1 ⟨rfl, rfl⟩
  unfold noV
  go_wp2_with fail
  refine bodyPost_ret (v := .tuple #[.string ⟨#[]⟩, .bool false, .int .i64 1]) ?_ rfl ⟨rfl, rfl⟩
  simp [results, Try.results9, go_sem]
theorem most_no (n f : Int) (v : Value) (a : Option Addr) (m cap : Nat) (h : ¬ (TabOk n f ∧ (m : Int) = n)) (w : World) :
    Calls Try.prog 13 #[.int .i64 n, .int .i64 f, v, .slice a m cap] w fun e w' => e = .returned noV ∧ w' = w := by
  unfold TabOk at h
  unfold noV
  by_cases h1 : 1 ≤ n ∧ n ≤ 10 ∧ 0 ≤ f ∧ 3 * f < n
  · have HD : Hid (decide (1 ≤ n ∧ n ≤ 10 ∧ 0 ≤ f ∧ 3 * f < n) = true) := decide_eq_true h1
    have hm : ¬ ((m : Int) = n) := fun c => h ⟨h1, c⟩
    clear h h1
    go_enter Try.func13, Try.ntmps13
    go_wp2_with fail
    refine (crtable_any _ _ _).mono ?_
    rintro e w1 ⟨rfl, rfl⟩
    rw [HD.out]
    go_wp2_with fail
    refine bodyPost_ret (v := .tuple #[.string ⟨#[]⟩, .bool false, .int .i64 1]) ?_ rfl ⟨rfl, rfl⟩
    simp [results, Try.results13, go_sem]
  · have HD : Hid (decide (1 ≤ n ∧ n ≤ 10 ∧ 0 ≤ f ∧ 3 * f < n) = false) := decide_eq_false h1
    clear h h1
    go_enter Try.func13, Try.ntmps13
    go_wp2_with fail
    refine (crtable_any _ _ _).mono ?_
    rintro e w1 ⟨rfl, rfl⟩
    rw [HD.out]
    go_wp2_with fail
    refine bodyPost_ret (v := .tuple #[.string ⟨#[]⟩, .bool false, .int .i64 1]) ?_ rfl ⟨rfl, rfl⟩
    simp [results, Try.results13, go_sem]
/-- What Most keeps behind k votes. -/
def MI (least : Nat) (l : List ByteArray) (k : Nat) (o : ByteArray) : Prop := (o = ⟨#[]⟩ ∨ Eno least l o) ∧ ∀ (j : Nat) (t : ByteArray), j < k → l[j]? = some t → Eno least l t → t = o
theorem MI.step {least k : Nat} {l : List ByteArray} {o t : ByteArray} (h : MI least l k o) (ht : l[k]? = some t) (hc : Eno least l t → t = o) : MI least l (k + 1) o :=
  ⟨h.1, fun j x hj hx he => if e : j = k then by subst e; rw [ht] at hx; cases hx; exact hc he else h.2 j x (by omega) hx he⟩
theorem MI.done {least : Nat} (h1 : 1 ≤ least) {l : List ByteArray} {o : ByteArray} (h : MI least l l.length o) : pikV (pick least l) = .tuple #[.string o, .bool (decide (o ≠ ⟨#[]⟩)), .int .i64 0] := by
  have hall : ∀ t, Eno least l t → t = o := fun t ht => by
    have hm : t ∈ l := cs_pos (by have := ht.2; omega)
    obtain ⟨j, hj, e⟩ := List.getElem_of_mem hm
    exact h.2 j t hj (by rw [← e]; exact List.getElem?_eq_getElem hj) ht
  by_cases q : o = ⟨#[]⟩
  · rw [pick_zero h1 (fun t ht => ht.1 (by rw [hall t ht, q]))]
    subst q
    rfl
  · rw [pick_of h1 (h.1.resolve_left q) hall, decide_eq_true q]
    rfl
set_option maxRecDepth 100000 in
set_option maxHeartbeats 4000000 in
theorem most_ok (n f least : Nat) (h1 : 1 ≤ least) (a : Option Addr) (l : List ByteArray) (cap : Nat) (hV : VotesOk n f l) (w : World) (hS : Strs w a l) :
    Calls Try.prog 13 #[.int .i64 (n : Nat), .int .i64 (f : Nat), .int .i64 (least : Nat), .slice a n cap] w fun e w' => e = .returned (pikV (pick least l)) ∧ w' = w := by
  have HD : Hid _ := hV.tab
  have HV : Hid (VotesOk n f l ∧ 1 ≤ least) := ⟨hV, h1⟩
  have HS : Hid (Strs w a l) := hS
  have n10 : (n : Int) ≤ 10 := by have := hV.n10; omega
  clear hV hS h1
  go_enter Try.func13, Try.ntmps13
  go_wp2_with fail
  refine (crtable_any _ _ _).mono ?_
  rintro e w1 ⟨rfl, hw1⟩
  rw [HD.out]
  obtain rfl : w = w1 := hw1.symm
  clear hw1
  go_wp2_with fail
  rename_i Kr hKr
  have HKr : Hid _ := hKr
  clear hKr
  go_loopw [11, 26] (fun ov iv wr => ∃ (k : Nat) (x : ByteArray), k ≤ n ∧ iv = .int .i64 (k : Nat) ∧ ov = .string x ∧ MI least l k x ∧ w = wr) (fun _ iv _ => n - (Go.RowKit.intOf iv).toNat)
  case atStart => exact ⟨0, ⟨#[]⟩, Nat.zero_le _, rfl, rfl, ⟨.inl rfl, fun j t hj => absurd hj (by omega)⟩, rfl⟩
  case round =>
    obtain ⟨k, x, hk, rfl, rfl, hM, hwr⟩ := hrel
    subst hwr
    have HM : Hid (MI least l k x) := hM
    clear hM
    by_cases hlt : k < n
    · have hil : k < l.length := by rw [← HV.out.1.len]; exact hlt
      have hlt' : (k : Int) < (n : Int) := by omega
      have HLT : Hid (k < n) := hlt
      obtain ⟨p, o, ha, cp, pl⟩ := (show Strs w a l from HS.out).get hil
      obtain ⟨t, ht⟩ : ∃ t, t = (l[k]'hil) := ⟨_, rfl⟩
      rw [← ht] at cp
      have HT : Hid (l[k]? = some t) := by rw [ht]; exact List.getElem?_eq_getElem hil
      have KC : Hid (∀ w', Strs w' a l → Calls Try.prog 16 #[.slice a n cap, .string t] w' fun e w'' => e = .returned (.int .i64 (cs l t : Nat)) ∧ w'' = w') := fun w' h => ccount_any a l n cap t HV.out.1.len (by have := HV.out.1.n10; omega) w' h
      subst ha
      have hc10 : ((cs l t : Nat) : Int) ≤ 10 := by have := cs_le l t; have := HV.out.1.n10; have := HV.out.1.len; omega
      clear HKr hk hlt hil ht pl
      by_cases hte : t = ⟨#[]⟩
      · have HX : Hid (MI least l (k + 1) x) := HM.out.step HT.out (fun h => absurd hte h.1)
        subst hte
        go_wp2_with fail
        go_roundw
        case rel => first | exact ⟨k + 1, x, HLT.out, by go_num, rfl, HX.out, by first | rfl | trivial⟩ | ((repeat apply Exists.intro); exact ⟨⟨k + 1, x, HLT.out, by go_num, rfl, HX.out, by first | rfl | trivial⟩, rfl⟩)
        case measure => have h1 := HLT.out; simp [Go.RowKit.intOf]; omega
      · obtain ⟨f1, f2, f3, f4⟩ := full_facts hte
        have HTE : Hid (t ≠ ⟨#[]⟩) := hte
        clear hte
        by_cases htx : t = x
        · have HX : Hid (MI least l (k + 1) x) := HM.out.step HT.out (fun _ => htx)
          have q1 : (t.toList == x.toList) = true := by rw [htx]; simp only [BEq.rfl]
          clear htx
          go_wp2_with fail
          go_roundw
          case rel => first | exact ⟨k + 1, x, HLT.out, by go_num, rfl, HX.out, by first | rfl | trivial⟩ | ((repeat apply Exists.intro); exact ⟨⟨k + 1, x, HLT.out, by go_num, rfl, HX.out, by first | rfl | trivial⟩, rfl⟩)
          case measure => have h1 := HLT.out; simp [Go.RowKit.intOf]; omega
        · have q1 : (t.toList == x.toList) = false := toList_neC htx
          have HTX : Hid (t ≠ x) := htx
          clear htx
          by_cases hcl : cs l t < least
          · have HX : Hid (MI least l (k + 1) x) := HM.out.step HT.out (fun h => absurd h.2 (by omega))
            have g1 : ((cs l t : Nat) : Int) < (least : Int) := by omega
            generalize cs l t = c at *
            clear hcl
            go_wp2_with fail
            refine (KC.out _ HS.out).mono ?_
            rintro e w2 ⟨rfl, hw2⟩
            obtain rfl : w = w2 := hw2.symm
            go_wp2_with fail
            go_roundw
            case rel => first | exact ⟨k + 1, x, HLT.out, by go_num, rfl, HX.out, by first | rfl | trivial⟩ | ((repeat apply Exists.intro); exact ⟨⟨k + 1, x, HLT.out, by go_num, rfl, HX.out, by first | rfl | trivial⟩, rfl⟩)
            case measure => have h1 := HLT.out; simp [Go.RowKit.intOf]; omega
          · have HE : Hid (Eno least l t) := ⟨HTE.out, by omega⟩
            have g1 : ¬ (((cs l t : Nat) : Int) < (least : Int)) := by omega
            generalize cs l t = c at *
            clear hcl
            by_cases hxe : x = ⟨#[]⟩
            · have HX : Hid (MI least l (k + 1) t) := ⟨.inr HE.out, fun j y hj hy he => by
                by_cases e : j = k
                · subst e; rw [HT.out] at hy; cases hy; rfl
                · exact absurd (HM.out.2 j y (by omega) hy he) (fun c => he.1 (by rw [c, hxe]))⟩
              subst hxe
              go_wp2_with fail
              refine (KC.out _ HS.out).mono ?_
              rintro e w2 ⟨rfl, hw2⟩
              obtain rfl : w = w2 := hw2.symm
              go_wp2_with fail
              go_roundw
              case rel => first | exact ⟨k + 1, t, HLT.out, by go_num, rfl, HX.out, by first | rfl | trivial⟩ | ((repeat apply Exists.intro); exact ⟨⟨k + 1, t, HLT.out, by go_num, rfl, HX.out, by first | rfl | trivial⟩, rfl⟩)
              case measure => have h1 := HLT.out; simp [Go.RowKit.intOf]; omega
            · obtain ⟨r1, r2, r3, r4⟩ := full_facts hxe
              have HP : Hid (pick least l = none) := pick_two HV.out.2 HE.out (HM.out.1.resolve_left hxe) HTX.out
              clear hxe
              go_wp2_with fail
              refine (KC.out _ HS.out).mono ?_
              rintro e w2 ⟨rfl, hw2⟩
              obtain rfl : w = w2 := hw2.symm
              go_wp2_with fail
              rw [HP.out]
              refine bodyPost_ret (v := pikV none) ?_ rfl ⟨rfl, rfl⟩
              simp [results, Try.results13, go_sem, pikV, pikS, pikB]
    · obtain rfl : k = n := by omega
      have hnl : ¬ ((k : Int) < (k : Int)) := Int.lt_irrefl _
      have HE : Hid (pikV (pick least l) = .tuple #[.string x, .bool (decide (x ≠ ⟨#[]⟩)), .int .i64 0]) := MI.done HV.out.2 (by rw [← HV.out.1.len]; exact HM.out)
      clear hlt hk
      by_cases hxe : x = ⟨#[]⟩
      · subst hxe
        go_wp2_with fail
        refine HKr.out _ _ ?_
        clear HKr
        go_wp2_with fail
        rw [HE.out]
        refine bodyPost_ret (v := .tuple #[.string ⟨#[]⟩, .bool false, .int .i64 0]) ?_ rfl ⟨rfl, rfl⟩
        simp [results, Try.results13, go_sem]
      · obtain ⟨r1, r2, r3, r4⟩ := full_facts hxe
        rw [decide_eq_true hxe] at HE
        clear hxe
        go_wp2_with fail
        refine HKr.out _ _ ?_
        clear HKr
        go_wp2_with fail
        rw [HE.out]
        refine bodyPost_ret (v := .tuple #[.string x, .bool true, .int .i64 0]) ?_ rfl ⟨rfl, rfl⟩
        simp [results, Try.results13, go_sem]
end Go.Proofs.Ytdfadinpeeigkaa
