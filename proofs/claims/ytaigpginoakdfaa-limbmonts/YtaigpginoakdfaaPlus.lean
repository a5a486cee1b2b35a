/- wardmoteref01.Plus: the digits of a sum. -/
import Derived.Test.YtaigpginoakdfaaCpr
namespace Go.Proofs.Ytaigpginoakdfaa
open Go.RowKit

/-- What the loop of Plus holds behind k rounds: the digits l, the carry c. -/
def PlusAt (a b : List Nat) (N k c : Nat) (l : List Nat) : Prop :=
  Dok l ∧ l.length = k ∧ c ≤ 1 ∧ dval l + 65536 ^ k * c = dpre a k + dpre b k ∧ k ≤ N + 1 ∧ (k = N + 1 → c = 0 ∧ 65536 ^ N ≤ dval l)
theorem PlusAt.start (a b : List Nat) (N : Nat) : PlusAt a b N 0 0 [] := ⟨Dok_nil, rfl, by omega, by simp [dval, dpre], by omega, by omega⟩
theorem PlusAt.step {a b : List Nat} {N k c : Nat} {l : List Nat} (ha : Dok a) (hb : Dok b) (la : a.length ≤ N) (lb : b.length ≤ N) (h : PlusAt a b N k c l) (hgo : k < N ∨ 0 < c) :
    PlusAt a b N (k + 1) ((dget a k + dget b k + c) / 65536) (l ++ [(dget a k + dget b k + c) % 65536]) := by
  obtain ⟨h1, h2, h3, h4, h5, h6⟩ := h
  have ga := dget_lt ha k
  have gb := dget_lt hb k
  have hk : k ≤ N := by
    by_cases e : k = N + 1
    · have := (h6 e).1; omega
    · omega
  refine ⟨h1.snoc (Nat.mod_lt _ (by decide)), by simp [h2], by omega, ?_, by omega, ?_⟩
  · rw [dval_snoc, h2, Nat.pow_succ]
    exact plus_arith (65536 ^ k) (dget a k) (dget b k) c _ (dpre a k) (dpre b k) (dval l) _ h4 rfl (by omega)
  · intro e
    have ek : k = N := by omega
    subst ek
    have z1 := dget_ge a k la
    have z2 := dget_ge b k lb
    have c1 : c = 1 := by omega
    subst c1
    rw [z1, z2, dval_snoc, h2]
    refine ⟨by decide, ?_⟩
    show 65536 ^ k ≤ dval l + 65536 ^ k * 1
    omega
theorem PlusAt.done {a b : List Nat} {N k c : Nat} {l : List Nat} (la : a.length ≤ N) (lb : b.length ≤ N) (h : PlusAt a b N k c l) (h1 : N ≤ k) (h2 : c = 0) :
    Dok l ∧ dval l = dval a + dval b ∧ (l.length = N ∨ l.length = N + 1 ∧ 65536 ^ N ≤ dval l) := by
  obtain ⟨g1, g2, g3, g4, g5, g6⟩ := h
  rw [dpre_eq a k (by omega), dpre_eq b k (by omega), h2] at g4
  refine ⟨g1, by omega, ?_⟩
  by_cases e : k = N + 1
  · exact Or.inr ⟨by omega, (g6 e).2⟩
  · exact Or.inl (by omega)

set_option maxRecDepth 100000 in
set_option maxHeartbeats 2000000 in
theorem plus_ref (v u : Value) (a b : List Nat) (ha : Dok a) (hb : Dok b) (la : a.length < 100) (lb : b.length < 100) (w : World) (hv : Dg w v a) (hu : Dg w u b) :
    Calls Try.prog 11 #[v, u] w fun e w' => ∃ x l, e = .returned x ∧ Dg w' x l ∧ (Dok l ∧ dval l = dval a + dval b ∧ (l.length = max a.length b.length ∨ l.length = max a.length b.length + 1 ∧ 65536 ^ (max a.length b.length) ≤ dval l)) ∧ Below w.heap.size w w' := by
  obtain ⟨i0, hi, hz0, hz1, hz2⟩ := info_int
  obtain ⟨ad, cap, rfl⟩ := hv.len
  obtain ⟨ad', cap', rfl⟩ := hu.len
  obtain ⟨N, hN⟩ : ∃ N, N = max a.length b.length := ⟨_, rfl⟩
  rw [← hN]
  have nA : a.length ≤ N := by omega
  have nB : b.length ≤ N := by omega
  have nC : N ≤ a.length ∨ N ≤ b.length := by omega
  have n1 : N < 100 := by omega
  clear hN
  go_enter Try.func11, Try.ntmps11
  go_wp2_with fail
  go_loopw [5, 6, 7] (fun x cc i wr => ∃ (k c : Nat) (l : List Nat), i = .int .i64 k ∧ cc = .int .i64 c ∧ PlusAt a b N k c l ∧ wr.ownsRow w.heap.size 3 1 x k (l.map dcell) ∧ Below w.heap.size w wr)
    (fun _ _ i _ => N + 1 - (intOf i).toNat)
  case atStart => exact ⟨0, 0, [], rfl, rfl, PlusAt.start a b N, World.ownsRow_nil _ _ _ _, Below.refl _ _⟩
  case round =>
    obtain ⟨k, c, l, rfl, rfl, hP, hown, hbel⟩ := hrel
    have kN : k ≤ N + 1 := hP.2.2.2.2.1
    have c1 : c ≤ 1 := hP.2.2.1
    by_cases hgo : k < N ∨ 0 < c
    · have hS := hP.step ha hb nA nB hgo
      have kN1 : k ≤ N := by
        by_cases e : k = N + 1
        · have := (hP.2.2.2.2.2 e).1; omega
        · omega
      have ga := dget_lt ha k
      have gb := dget_lt hb k
      obtain ⟨s, hs⟩ : ∃ s, s = dget a k + dget b k + c := ⟨_, rfl⟩
      obtain ⟨r, hr⟩ : ∃ r, r = s % 65536 := ⟨_, rfl⟩
      obtain ⟨q, hq⟩ : ∃ q, q = s / 65536 := ⟨_, rfl⟩
      rw [← hs, ← hr, ← hq] at hS
      have e1 : ((dget a k : Nat) : Int) + (dget b k : Nat) + (c : Nat) = (s : Nat) := by omega
      have e2 : ((s : Nat) : Int).tmod 65536 = (r : Nat) := by rw [Int.tmod_eq_emod_of_nonneg (by omega)]; omega
      have e3 : ((s : Nat) : Int).tdiv 65536 = (q : Nat) := by rw [Int.tdiv_eq_ediv_of_nonneg (by omega)]; omega
      have e4 : ((s : Nat) : Int) % 65536 = (r : Nat) := by omega
      have e5 : ((s : Nat) : Int) / 65536 = (q : Nat) := by omega
      have s1 : s < 1000000 := by omega
      have r1 : r < 65536 := by omega
      have q1 : q ≤ 1 := hS.2.2.1
      have HS : Hid _ := hS
      have D1 : Hid (Dg wr _ a) := hv.call hbel
      have D2 : Hid (Dg wr _ b) := hu.call hbel
      clear hP hS hs hr hq hv hu ha hb
      have three : (k < a.length) ∨ (¬ k < a.length ∧ k < b.length) ∨ (¬ k < a.length ∧ ¬ k < b.length ∧ 0 < c) := by omega
      rcases three with t1 | ⟨t1, t2⟩ | ⟨t1, t2, t3⟩
      · have t1' : decide ((k : Int) < (a.length : Int)) = true := by simp; omega
        go_wp2_with fail
        refine (digit_any _ a k _ D1.out).mono ?_
        rintro e w' ⟨rfl, rfl⟩
        go_wp2_with fail
        refine (digit_any _ b k _ D2.out).mono ?_
        rintro e w' ⟨rfl, rfl⟩
        go_wp2_with (first | (at_builtin; refine wpList_append_own _ rfl _ _ 27 rfl w.heap.size 3 i0 (.int .i64 0) 1 8 Try.underlying27 hi hz0 hz1 hz2 rfl (by decide) _ _ _ rfl (hown.alloc _) ⟨_, 0, none⟩ 1 1 [.int .i64 (r : Nat)] rfl rfl ?c1 ?c2 ?c3 ?c4 ?c5 ?_))
        case c1 => exact cell_one_new _ _ _
        case c2 => intro u hu; simp at hu; subst hu; rfl
        case c3 => unfold maxLen; omega
        case c4 => omega
        case c5 => have := hbel.size; simp; omega
        intro v' w1 hown' hgrow _
        have hs2 := hbel.size
        have hb1 := append_below hbel hown (Nat.le_refl _) hbel.size hgrow
        have ho1 := owns_snoc hown'
        clear hgrow hown'
        go_wp2
        go_roundw
        case rel => first | exact ⟨k + 1, q, _, by go_num, rfl, HS.out, ho1, hb1⟩ | ((repeat apply Exists.intro); exact ⟨⟨k + 1, q, _, by go_num, rfl, HS.out, ho1, hb1⟩, rfl⟩)
        case measure => simp [intOf]; omega
      · have t1' : decide ((k : Int) < (a.length : Int)) = false := by simp; omega
        have t2' : decide ((k : Int) < (b.length : Int)) = true := by simp; omega
        go_wp2_with fail
        refine (digit_any _ a k _ D1.out).mono ?_
        rintro e w' ⟨rfl, rfl⟩
        go_wp2_with fail
        refine (digit_any _ b k _ D2.out).mono ?_
        rintro e w' ⟨rfl, rfl⟩
        go_wp2_with (first | (at_builtin; refine wpList_append_own _ rfl _ _ 27 rfl w.heap.size 3 i0 (.int .i64 0) 1 8 Try.underlying27 hi hz0 hz1 hz2 rfl (by decide) _ _ _ rfl (hown.alloc _) ⟨_, 0, none⟩ 1 1 [.int .i64 (r : Nat)] rfl rfl ?c1 ?c2 ?c3 ?c4 ?c5 ?_))
        case c1 => exact cell_one_new _ _ _
        case c2 => intro u hu; simp at hu; subst hu; rfl
        case c3 => unfold maxLen; omega
        case c4 => omega
        case c5 => have := hbel.size; simp; omega
        intro v' w1 hown' hgrow _
        have hs2 := hbel.size
        have hb1 := append_below hbel hown (Nat.le_refl _) hbel.size hgrow
        have ho1 := owns_snoc hown'
        clear hgrow hown'
        go_wp2
        go_roundw
        case rel => first | exact ⟨k + 1, q, _, by go_num, rfl, HS.out, ho1, hb1⟩ | ((repeat apply Exists.intro); exact ⟨⟨k + 1, q, _, by go_num, rfl, HS.out, ho1, hb1⟩, rfl⟩)
        case measure => simp [intOf]; omega
      · have t1' : decide ((k : Int) < (a.length : Int)) = false := by simp; omega
        have t2' : decide ((k : Int) < (b.length : Int)) = false := by simp; omega
        have t3' : decide ((0 : Int) < (c : Nat)) = true := by simp; omega
        go_wp2_with fail
        refine (digit_any _ a k _ D1.out).mono ?_
        rintro e w' ⟨rfl, rfl⟩
        go_wp2_with fail
        refine (digit_any _ b k _ D2.out).mono ?_
        rintro e w' ⟨rfl, rfl⟩
        go_wp2_with (first | (at_builtin; refine wpList_append_own _ rfl _ _ 27 rfl w.heap.size 3 i0 (.int .i64 0) 1 8 Try.underlying27 hi hz0 hz1 hz2 rfl (by decide) _ _ _ rfl (hown.alloc _) ⟨_, 0, none⟩ 1 1 [.int .i64 (r : Nat)] rfl rfl ?c1 ?c2 ?c3 ?c4 ?c5 ?_))
        case c1 => exact cell_one_new _ _ _
        case c2 => intro u hu; simp at hu; subst hu; rfl
        case c3 => unfold maxLen; omega
        case c4 => omega
        case c5 => have := hbel.size; simp; omega
        intro v' w1 hown' hgrow _
        have hs2 := hbel.size
        have hb1 := append_below hbel hown (Nat.le_refl _) hbel.size hgrow
        have ho1 := owns_snoc hown'
        clear hgrow hown'
        go_wp2
        go_roundw
        case rel => first | exact ⟨k + 1, q, _, by go_num, rfl, HS.out, ho1, hb1⟩ | ((repeat apply Exists.intro); exact ⟨⟨k + 1, q, _, by go_num, rfl, HS.out, ho1, hb1⟩, rfl⟩)
        case measure => simp [intOf]; omega
    · have HD : Hid _ := hP.done nA nB (by omega) (by omega)
      have t1' : decide ((k : Int) < (a.length : Int)) = false := by simp; omega
      have t2' : decide ((k : Int) < (b.length : Int)) = false := by simp; omega
      have t3' : decide ((0 : Int) < (c : Nat)) = false := by simp; omega
      go_wp2
      go_ret
      exact ⟨_, l, rfl, dg_of_owns hown, HD.out, hbel⟩
end Go.Proofs.Ytaigpginoakdfaa
