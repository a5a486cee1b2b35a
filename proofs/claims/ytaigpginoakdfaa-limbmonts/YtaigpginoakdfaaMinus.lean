/- wardmoteref01.Minus: the digits of a difference. -/
import Derived.Test.YtaigpginoakdfaaCpr
namespace Go.Proofs.Ytaigpginoakdfaa
open Go.RowKit

/-- What the loop of Minus holds behind k rounds: the digits l, the borrow c. -/
def MinusAt (a b : List Nat) (k c : Nat) (l : List Nat) : Prop :=
  Dok l ∧ l.length = k ∧ c ≤ 1 ∧ dval l + dpre b k = dpre a k + 65536 ^ k * c
theorem MinusAt.start (a b : List Nat) : MinusAt a b 0 0 [] := ⟨Dok_nil, rfl, by omega, by simp [dval, dpre]⟩
theorem minus_arith (p x y c s d L A B : Nat) (h : L + B = A + p * c) (hs : s + y + c = x + 65536 * d) : L + p * s + (B + p * y) = A + p * x + p * 65536 * d := by
  have e : p * s + p * y + p * c = p * x + p * 65536 * d := by
    rw [← Nat.mul_add, ← Nat.mul_add, hs, Nat.mul_add, Nat.mul_assoc]
  omega
theorem MinusAt.step {a b : List Nat} {k c : Nat} {l : List Nat} (h : MinusAt a b k c l) (s d : Nat) (hs : s < 65536) (hd : d ≤ 1) (he : s + dget b k + c = dget a k + 65536 * d) : MinusAt a b (k + 1) d (l ++ [s]) := by
  obtain ⟨h1, h2, h3, h4⟩ := h
  refine ⟨h1.snoc hs, by simp [h2], hd, ?_⟩
  rw [dval_snoc, h2, Nat.pow_succ]
  exact minus_arith (65536 ^ k) (dget a k) (dget b k) c s d _ _ _ h4 he
theorem MinusAt.done {a b : List Nat} {c : Nat} {l : List Nat} (ha : Dok a) (h : MinusAt a b a.length c l) (hle : dval b ≤ dval a) : Dok l ∧ dval l = dval a - dval b ∧ l.length = a.length := by
  obtain ⟨h1, h2, h3, h4⟩ := h
  have la := dval_lt a ha
  have ll := dval_lt l h1
  rw [h2] at ll
  obtain ⟨r, hr⟩ := dpre_split b a.length
  rw [dpre_eq a a.length (Nat.le_refl _)] at h4
  have r0 : r = 0 := by
    rcases Nat.eq_zero_or_pos r with z | z
    · exact z
    · have : 65536 ^ a.length * 1 ≤ 65536 ^ a.length * r := Nat.mul_le_mul_left _ z
      omega
  subst r0
  have c0 : c = 0 := by
    rcases Nat.eq_zero_or_pos c with z | z
    · exact z
    · have : c = 1 := by omega
      subst this
      omega
  subst c0
  exact ⟨h1, by omega, h2⟩

set_option maxRecDepth 100000 in
set_option maxHeartbeats 2000000 in
theorem minus_ref (v u : Value) (a b : List Nat) (ha : Dok a) (hb : Dok b) (la : a.length < 100) (hle : dval b ≤ dval a) (w : World) (hv : Dg w v a) (hu : Dg w u b) :
    Calls Try.prog 41 #[v, u] w fun e w' => ∃ x l, e = .returned x ∧ Dg w' x l ∧ (Dok l ∧ dval l = dval a - dval b ∧ l.length = a.length) ∧ Below w.heap.size w w' := by
  obtain ⟨i0, hi, hz0, hz1, hz2⟩ := info_int
  have hv0 := hv
  rcases hv with ⟨rfl, rfl⟩ | ⟨g, cap, rfl, hg, hcell⟩
  · go_enter Try.func41, Try.ntmps41
    go_wp2
    refine wp_loop_rounds 1 ?_
    rw [rounds_succ]
    go_wp2
    go_ret
    exact ⟨_, [], rfl, Or.inl ⟨rfl, rfl⟩, ⟨Dok_nil, by simp [dval], rfl⟩, Below.refl _ _⟩
  · clear hv0
    go_enter Try.func41, Try.ntmps41
    go_wp2_with fail
    go_loopw [5, 6, 11] (fun x cc i wr => ∃ (k c : Nat) (l : List Nat), k ≤ a.length ∧ i = .int .i64 k ∧ cc = .int .i64 c ∧ MinusAt a b k c l ∧ wr.ownsRow w.heap.size 3 1 x k (l.map dcell) ∧ Below w.heap.size w wr)
      (fun _ _ i _ => a.length - (intOf i).toNat)
    case atStart => exact ⟨0, 0, [], Nat.zero_le _, rfl, rfl, MinusAt.start a b, World.ownsRow_nil _ _ _ _, Below.refl _ _⟩
    case round =>
      obtain ⟨k, c, l, hk, rfl, rfl, hP, hown, hbel⟩ := hrel
      by_cases hlt : k < a.length
      · have ga := dget_lt ha k
        have gb := dget_lt hb k
        have c1 : c ≤ 1 := hP.2.2.1
        have gc : wr.cell? ⟨g, k, none⟩ = some (.int .i64 (dget a k : Nat)) := (hbel.cell (p := ⟨g, k, none⟩) hg).trans (hcell k hlt)
        have D2 : Hid (Dg wr _ b) := hu.call hbel
        by_cases hneg : dget a k < dget b k + c
        · obtain ⟨t, ht⟩ : ∃ t, t = dget a k + 65536 - dget b k - c := ⟨_, rfl⟩
          have HS : Hid _ := hP.step t 1 (by omega) (by omega) (by omega)
          have e1 : ((dget a k : Nat) : Int) - (dget b k : Nat) - (c : Nat) = (t : Nat) - 65536 := by omega
          have t1 : t < 65536 := by omega
          clear hP ht hcell hu ha hb hneg
          go_wp2
          go_quiet ((go_at_call 40; exact Calls.quiet_of_same (digit_any _ b k _ (D2.out.call (below_drewN (Below.refl _ _) _)))))
          go_wp2_with (first | (at_builtin; refine wpList_append_own _ rfl _ _ 27 rfl w.heap.size 3 i0 (.int .i64 0) 1 8 Try.underlying27 hi hz0 hz1 hz2 rfl (by decide) _ _ _ rfl (World.ownsRow.alloc (w := wr.drewN nq) hown _) ⟨_, 0, none⟩ 1 1 [.int .i64 (t : Nat)] rfl rfl ?c1 ?c2 ?c3 ?c4 ?c5 ?_))
          case c1 => exact cell_one_new _ _ _
          case c2 => intro u hu; simp at hu; subst hu; rfl
          case c3 => unfold maxLen; omega
          case c4 => omega
          case c5 => have := hbel.size; simp; omega
          intro v' w1 hown' hgrow _
          have hb1 := append_below (wr := wr.drewN nq) (below_drewN hbel nq) hown (Nat.le_refl _) hbel.size hgrow
          have ho1 := owns_snoc hown'
          clear hgrow hown'
          go_wp2
          go_roundw
          case rel => first | exact ⟨k + 1, 1, _, by omega, by go_num, rfl, HS.out, ho1, hb1⟩ | ((repeat apply Exists.intro); exact ⟨⟨k + 1, 1, _, by omega, by go_num, rfl, HS.out, ho1, hb1⟩, rfl⟩)
          case measure => simp [intOf]; omega
        · obtain ⟨t, ht⟩ : ∃ t, t = dget a k - dget b k - c := ⟨_, rfl⟩
          have HS : Hid _ := hP.step t 0 (by omega) (by omega) (by omega)
          have e1 : ((dget a k : Nat) : Int) - (dget b k : Nat) - (c : Nat) = (t : Nat) := by omega
          have t1 : t < 65536 := by omega
          clear hP ht hcell hu ha hb hneg
          go_wp2
          go_quiet ((go_at_call 40; exact Calls.quiet_of_same (digit_any _ b k _ (D2.out.call (below_drewN (Below.refl _ _) _)))))
          go_wp2_with (first | (at_builtin; refine wpList_append_own _ rfl _ _ 27 rfl w.heap.size 3 i0 (.int .i64 0) 1 8 Try.underlying27 hi hz0 hz1 hz2 rfl (by decide) _ _ _ rfl (World.ownsRow.alloc (w := wr.drewN nq) hown _) ⟨_, 0, none⟩ 1 1 [.int .i64 (t : Nat)] rfl rfl ?c1 ?c2 ?c3 ?c4 ?c5 ?_))
          case c1 => exact cell_one_new _ _ _
          case c2 => intro u hu; simp at hu; subst hu; rfl
          case c3 => unfold maxLen; omega
          case c4 => omega
          case c5 => have := hbel.size; simp; omega
          intro v' w1 hown' hgrow _
          have hb1 := append_below (wr := wr.drewN nq) (below_drewN hbel nq) hown (Nat.le_refl _) hbel.size hgrow
          have ho1 := owns_snoc hown'
          clear hgrow hown'
          go_wp2
          go_roundw
          case rel => first | exact ⟨k + 1, 0, _, by omega, by go_num, rfl, HS.out, ho1, hb1⟩ | ((repeat apply Exists.intro); exact ⟨⟨k + 1, 0, _, by omega, by go_num, rfl, HS.out, ho1, hb1⟩, rfl⟩)
          case measure => simp [intOf]; omega
      · have hk4 : k = a.length := by omega
        subst hk4
        have HD : Hid _ := hP.done ha hle
        clear hcell
        go_wp2
        go_ret
        exact ⟨_, l, rfl, dg_of_owns hown, HD.out, hbel⟩
end Go.Proofs.Ytaigpginoakdfaa
