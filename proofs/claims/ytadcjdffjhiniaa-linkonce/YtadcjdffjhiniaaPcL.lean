/- Records as bytes: there and back; the plain mathematics. -/
import Derived.Test.YtadcjdffjhiniaaPcM
namespace Go.Proofs.Ytadcjdffjhiniaa
open Go Go.Lib

theorem ofNat_toNat8 (n : Nat) : (UInt8.ofNat n).toNat = n % 256 := by simp
theorem toNat_ofNat8 (x : UInt8) : UInt8.ofNat x.toNat = x := by simp
theorem size_back (n : Nat) (h : n ≤ 8000) : 256 * (UInt8.ofNat (n / 256)).toNat + (UInt8.ofNat n).toNat = n := by
  rw [ofNat_toNat8, ofNat_toNat8]
  omega
theorem splitL_items (l : List ByteArray) : okS l = true → ∀ z, splitL l.length (itemsL l ++ z) = (l, z, 0) := by
  induction l with
  | nil => intro _ z; rfl
  | cons s r ih =>
    intro h z
    simp only [okS, List.all_cons, Bool.and_eq_true, decide_eq_true_eq] at h
    have hb := size_back s.size h.1
    have hl := ba_len s
    have e : itemsL (s :: r) ++ z = UInt8.ofNat (s.size / 256) :: UInt8.ofNat s.size :: (s.data.toList ++ (itemsL r ++ z)) := by
      simp [itemsL, itemL]
    rw [e, List.length_cons, splitL_one _ _ _ _ (by rw [hb]; omega) (by rw [hb, List.length_append, hl]; omega), hb]
    have e1 : (s.data.toList ++ (itemsL r ++ z)).take s.size = s.data.toList := by rw [← hl]; exact List.take_left
    have e2 : (s.data.toList ++ (itemsL r ++ z)).drop s.size = itemsL r ++ z := by rw [← hl]; exact List.drop_left
    rw [e1, e2, ih h.2 z, ofL_of]
theorem splitL_back (c : Nat) : ∀ r, (splitL c r).2.2 = 0 → (splitL c r).1.length = c ∧ okS (splitL c r).1 = true ∧ itemsL (splitL c r).1 ++ (splitL c r).2.1 = r := by
  induction c with
  | zero => intro r _; exact ⟨rfl, rfl, rfl⟩
  | succ c ih =>
    intro r h
    match r, h with
    | [], h => exact absurd (show (90 : Int) = 0 from h) (by decide)
    | [x], h => exact absurd (show (90 : Int) = 0 from h) (by decide)
    | x :: y :: r, h =>
      by_cases h1 : 8000 < 256 * x.toNat + y.toNat
      · rw [splitL_long c x y r h1] at h; exact absurd (show (2 : Int) = 0 from h) (by decide)
      · by_cases h2 : r.length < 256 * x.toNat + y.toNat
        · rw [splitL_cut c x y r h1 h2] at h; exact absurd (show (90 : Int) = 0 from h) (by decide)
        · rw [splitL_one c x y r h1 h2] at h ⊢
          obtain ⟨g1, g2, g3⟩ := ih (r.drop (256 * x.toNat + y.toNat)) h
          have hz : (ofL (r.take (256 * x.toNat + y.toNat))).size = 256 * x.toNat + y.toNat := by rw [ofL_size, List.length_take]; omega
          have hx := x.toNat_lt
          have hy := y.toNat_lt
          refine ⟨by simp only [List.length_cons, g1], ?_, ?_⟩
          · unfold okS at g2 ⊢
            rw [List.all_cons, g2, hz, decide_eq_true (by omega)]
            rfl
          · have ex : UInt8.ofNat ((256 * x.toNat + y.toNat) / 256) = x := by
              rw [show (256 * x.toNat + y.toNat) / 256 = x.toNat from by omega]; exact toNat_ofNat8 x
            have ey : UInt8.ofNat (256 * x.toNat + y.toNat) = y := by
              apply UInt8.toNat_inj.1
              rw [ofNat_toNat8]
              omega
            simp only [itemsL, itemL, hz, ex, ey, ofL_data, List.cons_append, List.append_assoc, g3, List.take_append_drop]
/-- What was packed is unpacked. -/
theorem up_pack {k : Nat} {l : List ByteArray} (hk : kindB (k : Nat) = true) (hf : fitB l = true) : upE (packL k l) = 0 ∧ upK (packL k l) = (k : Nat) ∧ upL (packL k l) = l := by
  have hk' : 1 ≤ (k : Int) ∧ (k : Int) ≤ 63 := of_decide_eq_true hk
  unfold fitB at hf
  simp only [Bool.and_eq_true, decide_eq_true_eq] at hf
  have ek : (UInt8.ofNat k).toNat = k := by rw [ofNat_toNat8]; omega
  have el : (UInt8.ofNat l.length).toNat = l.length := by rw [ofNat_toNat8]; omega
  have hs := splitL_items l hf.1.2 []
  rw [List.append_nil] at hs
  have e0 : upE (packL k l) = 0 := by
    unfold packL upE
    rw [if_neg (by simp only [List.length_cons, itemsL_length]; omega)]
    simp only [ek, el, hs, hk, decide_eq_false (show ¬ 40 < l.length by omega)]
    decide
  refine ⟨e0, ?_, ?_⟩
  · unfold upK; rw [if_pos e0]; show ((UInt8.ofNat k).toNat : Int) = _; rw [ek]
  · unfold upL
    rw [if_pos e0]
    show (splitL (UInt8.ofNat l.length).toNat (itemsL l)).1 = l
    rw [el, hs]
/-- What is unpacked is packed so. -/
theorem pack_up {t : List UInt8} (h : upE t = 0) : kindB (upK t) = true ∧ fitB (upL t) = true ∧ packL (upK t).toNat (upL t) = t := by
  have h0 := h
  unfold upE at h
  split at h
  · exact absurd h (by decide)
  · rename_i hlen
    match t, h, hlen, h0 with
    | [], h, _, _ => exact absurd h (by decide)
    | [x], h, _, _ => exact absurd (show (90 : Int) = 0 from h) (by decide)
    | x :: y :: r, h, hlen, h0 =>
      simp only at h
      split at h
      · exact absurd h (by decide)
      · rename_i hc
        split at h
        · rename_i he; exact absurd h he
        · rename_i he
          split at h
          · exact absurd h (by decide)
          · rename_i hr
            have he' : (splitL y.toNat r).2.2 = 0 := by simpa using he
            have hr' : (splitL y.toNat r).2.1 = [] := by simpa using hr
            obtain ⟨g1, g2, g3⟩ := splitL_back y.toNat r he'
            rw [hr', List.append_nil] at g3
            have hc' : kindB (x.toNat : Nat) = true ∧ ¬ 40 < y.toNat := by simpa using hc
            have eK : upK (x :: y :: r) = (x.toNat : Nat) := by unfold upK; rw [if_pos h0]; rfl
            have eL : upL (x :: y :: r) = (splitL y.toNat r).1 := by unfold upL; rw [if_pos h0]
            rw [eK, eL]
            refine ⟨hc'.1, ?_, ?_⟩
            · unfold fitB
              have hsum : sumN (splitL y.toNat r).1 = r.length := by rw [← itemsL_length, g3]
              simp only [List.length_cons] at hlen
              rw [g1, g2, hsum, decide_eq_true (show y.toNat ≤ 40 by omega), decide_eq_true (show 2 + r.length ≤ 20000 by omega)]
              rfl
            · unfold packL
              rw [g1, g3, Int.toNat_natCast, toNat_ofNat8, toNat_ofNat8]
/-- No record's bytes are the beginning of another one's. -/
theorem pack_prefix {k : Nat} {a b : List ByteArray} (ha : fitB a = true) (hb : fitB b = true) (z : List UInt8) (h : packL k b = packL k a ++ z) : a = b := by
  unfold fitB at ha hb
  simp only [Bool.and_eq_true, decide_eq_true_eq] at ha hb
  unfold packL at h
  simp only [List.cons_append, List.cons.injEq, true_and] at h
  have hl : a.length = b.length := by
    have := congrArg UInt8.toNat h.1
    rw [ofNat_toNat8, ofNat_toNat8] at this
    omega
  have h1 := splitL_items a ha.1.2 z
  have h2 := splitL_items b hb.1.2 []
  rw [List.append_nil, h.2, ← hl, h1] at h2
  exact congrArg Prod.fst h2
end Go.Proofs.Ytadcjdffjhiniaa
