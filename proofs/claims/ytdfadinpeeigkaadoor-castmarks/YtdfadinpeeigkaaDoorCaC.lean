/- Package cast: only, Echoed, Ready, Sure; the reference's Most. -/
import Derived.Test.YtdfadinpeeigkaaDoorCaB
namespace Go.Proofs.YtdfadinpeeigkaaDoor
open Go Go.RowKit Go.Lib

def TabOk (n f : Int) : Prop := 1 ≤ n ∧ n ≤ 10 ∧ 0 ≤ f ∧ 3 * f < n
/-- What is answered, as a tuple. -/
def pikV (p : Option ByteArray) : Value := .tuple #[.string (pikS p), .bool (pikB p), .int .i64 0]
def noV : Value := .tuple #[.string ⟨#[]⟩, .bool false, .int .i64 1]
theorem only_no (n f : Int) (v : Value) (a : Option Addr) (m cap : Nat) (h : ¬ (TabOk n f ∧ (m : Int) = n)) (w : World) :
    Calls Tryd.prog 14 #[.int .i64 n, .int .i64 f, v, .slice a m cap] w fun e w' => e = .returned noV ∧ w' = w := by
  unfold TabOk at h
  unfold noV
  by_cases h1 : 1 ≤ n ∧ n ≤ 10 ∧ 0 ≤ f ∧ 3 * f < n
  · have HD : Hid (decide (1 ≤ n ∧ n ≤ 10 ∧ 0 ≤ f ∧ 3 * f < n) = true) := decide_eq_true h1
    have hm : ¬ ((m : Int) = n) := fun c => h ⟨h1, c⟩
    clear h h1
    go_enter Tryd.func14, Tryd.ntmps14
    go_wp2_with fail
    refine (ctable_any _ _ _).mono ?_
    rintro e w1 ⟨rfl, rfl⟩
    rw [HD.out]
    go_wp2_with fail
    refine bodyPost_ret (v := .tuple #[.string ⟨#[]⟩, .bool false, .int .i64 1]) ?_ rfl ⟨rfl, rfl⟩
    simp [results, Tryd.results14, go_sem]
  · have HD : Hid (decide (1 ≤ n ∧ n ≤ 10 ∧ 0 ≤ f ∧ 3 * f < n) = false) := decide_eq_false h1
    clear h h1
    go_enter Tryd.func14, Tryd.ntmps14
    go_wp2_with fail
    refine (ctable_any _ _ _).mono ?_
    rintro e w1 ⟨rfl, rfl⟩
    rw [HD.out]
    go_wp2_with fail
    refine bodyPost_ret (v := .tuple #[.string ⟨#[]⟩, .bool false, .int .i64 1]) ?_ rfl ⟨rfl, rfl⟩
    simp [results, Tryd.results14, go_sem]
/-- A table's votes. -/
structure VotesOk (n f : Nat) (l : List ByteArray) : Prop where
  n1 : 1 ≤ n
  n10 : n ≤ 10
  hf : 3 * f < n
  len : n = l.length
  sz : ∀ s ∈ l, s.size < 140737488351233
theorem VotesOk.tab {n f : Nat} {l : List ByteArray} (h : VotesOk n f l) : decide (1 ≤ (n : Int) ∧ (n : Int) ≤ 10 ∧ 0 ≤ (f : Int) ∧ 3 * (f : Int) < (n : Int)) = true := decide_eq_true (by have := h.n1; have := h.n10; have := h.hf; omega)
theorem pick_ne {least : Nat} {l : List ByteArray} (h : (oft least l l.length).length ≠ 1) : pick least l = none := by
  unfold pick
  split
  · next s e => rw [e] at h; exact absurd rfl h
  · rfl
theorem pick_one {least : Nat} {l : List ByteArray} (h : (oft least l l.length).length = 1) : ∃ s, oft least l l.length = [s] ∧ pick least l = some s := by
  unfold pick
  match hh : oft least l l.length, h with
  | [x], _ => exact ⟨x, rfl, rfl⟩
theorem only_ok (n f least : Nat) (h1 : 1 ≤ least) (a : Option Addr) (l : List ByteArray) (cap : Nat) (hV : VotesOk n f l) (w : World) (hS : Strs w a l) :
    Calls Tryd.prog 14 #[.int .i64 (n : Nat), .int .i64 (f : Nat), .int .i64 (least : Nat), .slice a n cap] w fun e w' => e = .returned (pikV (pick least l)) ∧ Below w.heap.size w w' := by
  have HD : Hid _ := hV.tab
  have HV : Hid (VotesOk n f l ∧ 1 ≤ least) := ⟨hV, h1⟩
  have HS : Hid (Strs w a l) := hS
  clear hV hS h1
  go_enter Tryd.func14, Tryd.ntmps14
  go_wp2_with fail
  refine (ctable_any _ _ _).mono ?_
  rintro e w1 ⟨rfl, rfl⟩
  rw [HD.out]
  go_wp2_with fail
  refine (often_any least a l n cap HV.out.1.len HV.out.1.n10 HV.out.1.sz _ HS.out).mono ?_
  rintro e w2 ⟨fa, fc, m, rfl, hm, hF, hb2⟩
  rw [HV.out.1.len] at hm hF
  by_cases h1 : m = 1
  · obtain ⟨s, e1, e2⟩ := pick_one (hm.symm.trans h1)
    rw [e1] at hF
    obtain ⟨p, q, ha, cp, _⟩ := hF.get (k := 0) (by simp)
    subst ha
    have hs : s.size ≤ 281474976710656 := by
      have hmem := (oft_all HV.out.2 l s).1 (by rw [e1]; simp)
      have := HV.out.1.sz s (cs_pos (by have := hmem.2; have := HV.out.2; omega))
      omega
    have HC : Hid (pick least l = some s ∧ s.size ≤ 281474976710656 ∧ Below w1.heap.size w1 w2) := ⟨e2, hs, hb2⟩
    have cp' : w2.cell? ⟨p, q, none⟩ = some (.string s) := cp
    subst h1
    clear hm hF e1 e2 hs hb2 cp
    go_wp2_with fail
    refine (clone_any s _ HC.out.2.1).mono ?_
    rintro e w3 ⟨rfl, hb3⟩
    have HB : Hid (Below w1.heap.size w1 w3) := below_call0 HC.out.2.2 hb3
    clear hb3
    go_wp2_with fail
    rw [HC.out.1]
    refine bodyPost_ret (v := pikV (some s)) ?_ rfl ⟨rfl, HB.out⟩
    simp [results, Tryd.results14, go_sem, pikV, pikS, pikB]
  · have HC : Hid (pick least l = none ∧ Below w1.heap.size w1 w2) := ⟨pick_ne (by rw [← hm]; exact h1), hb2⟩
    have h1' : ¬ ((m : Int) = 1) := by omega
    clear hm hF hb2 h1
    go_wp2_with fail
    rw [HC.out.1]
    refine bodyPost_ret (v := pikV none) ?_ rfl ⟨rfl, HC.out.2⟩
    simp [results, Tryd.results14, go_sem, pikV, pikS, pikB]
theorem echoed_ok (n f : Nat) (a : Option Addr) (l : List ByteArray) (cap : Nat) (hV : VotesOk n f l) (w : World) (hS : Strs w a l) :
    Calls Tryd.prog 9 #[.int .i64 (n : Nat), .int .i64 (f : Nat), .slice a n cap] w fun e w' => e = .returned (pikV (pick (n - f) l)) ∧ Below w.heap.size w w' := by
  have HV : Hid (VotesOk n f l) := hV
  have HS : Hid (Strs w a l) := hS
  have e1 : (n : Int) - (f : Int) = ((n - f : Nat) : Int) := by have := hV.hf; omega
  have n10 : (n : Int) ≤ 10 := by have := hV.n10; omega
  have f10 : (f : Int) ≤ 10 := by have := hV.n10; have := hV.hf; omega
  have HL : Hid (1 ≤ n - f) := (by have := hV.hf; omega : 1 ≤ n - f)
  obtain ⟨L, hL⟩ : ∃ L, L = n - f := ⟨_, rfl⟩
  rw [← hL] at e1 HL ⊢
  clear hV hS hL
  go_enter Tryd.func9, Tryd.ntmps9
  go_wp2_with fail
  refine (only_ok n f L HL.out a l cap HV.out _ HS.out).mono ?_
  rintro e w1 ⟨rfl, hb⟩
  have HB : Hid _ := hb
  clear hb
  unfold pikV
  go_wp2_with fail
  refine bodyPost_ret (v := .tuple #[.string (pikS (pick L l)), .bool (pikB (pick L l)), .int .i64 0]) ?_ rfl ⟨rfl, HB.out⟩
  simp [results, Tryd.results9, go_sem]
theorem echoed_no (n f : Int) (a : Option Addr) (m cap : Nat) (h : ¬ (TabOk n f ∧ (m : Int) = n)) (w : World) :
    Calls Tryd.prog 9 #[.int .i64 n, .int .i64 f, .slice a m cap] w fun e w' => e = .returned noV ∧ w' = w := by
  have H : Hid _ := h
  clear h
  go_enter Tryd.func9, Tryd.ntmps9
  go_wp2_with fail
  refine (only_no n f _ a m cap H.out _).mono ?_
  rintro e w1 ⟨rfl, rfl⟩
  unfold noV
  go_wp2_with fail
  refine bodyPost_ret (v := .tuple #[.string ⟨#[]⟩, .bool false, .int .i64 1]) ?_ rfl ⟨rfl, rfl⟩
  simp [results, Tryd.results9, go_sem]
theorem ready_ok (n f : Nat) (a : Option Addr) (l : List ByteArray) (cap : Nat) (hV : VotesOk n f l) (w : World) (hS : Strs w a l) :
    Calls Tryd.prog 10 #[.int .i64 (n : Nat), .int .i64 (f : Nat), .slice a n cap] w fun e w' => e = .returned (pikV (pick (f + 1) l)) ∧ Below w.heap.size w w' := by
  have HV : Hid (VotesOk n f l) := hV
  have HS : Hid (Strs w a l) := hS
  have e1 : (f : Int) + 1 = ((f + 1 : Nat) : Int) := by omega
  have n10 : (n : Int) ≤ 10 := by have := hV.n10; omega
  have f10 : (f : Int) ≤ 10 := by have := hV.n10; have := hV.hf; omega
  have HL : Hid (1 ≤ f + 1) := (by have := hV.hf; omega : 1 ≤ f + 1)
  obtain ⟨L, hL⟩ : ∃ L, L = f + 1 := ⟨_, rfl⟩
  rw [← hL] at e1 HL ⊢
  clear hV hS hL
  go_enter Tryd.func10, Tryd.ntmps10
  go_wp2_with fail
  refine (only_ok n f L HL.out a l cap HV.out _ HS.out).mono ?_
  rintro e w1 ⟨rfl, hb⟩
  have HB : Hid _ := hb
  clear hb
  unfold pikV
  go_wp2_with fail
  refine bodyPost_ret (v := .tuple #[.string (pikS (pick L l)), .bool (pikB (pick L l)), .int .i64 0]) ?_ rfl ⟨rfl, HB.out⟩
  simp [results, Tryd.results10, go_sem]
theorem ready_no (n f : Int) (a : Option Addr) (m cap : Nat) (h : ¬ (TabOk n f ∧ (m : Int) = n)) (w : World) :
    Calls Tryd.prog 10 #[.int .i64 n, .int .i64 f, .slice a m cap] w fun e w' => e = .returned noV ∧ w' = w := by
  have H : Hid _ := h
  clear h
  go_enter Tryd.func10, Tryd.ntmps10
  go_wp2_with fail
  refine (only_no n f _ a m cap H.out _).mono ?_
  rintro e w1 ⟨rfl, rfl⟩
  unfold noV
  go_wp2_with fail
  refine bodyPost_ret (v := .tuple #[.string ⟨#[]⟩, .bool false, .int .i64 1]) ?_ rfl ⟨rfl, rfl⟩
  simp [results, Tryd.results10, go_sem]
end Go.Proofs.YtdfadinpeeigkaaDoor
