/- What a log tells that was cut, or whose last byte was turned. -/
import Derived.Test.YtdnahobafhelhaaDoorLgQ
namespace Go.Proofs.YtdnahobafhelhaaDoor
open Go Go.RowKit Go.Lib

/-- The bytes of records from number k on. -/
def logS : Nat → List ByteArray → ByteArray
  | _, [] => ByteArray.empty
  | k, r :: rs => recS k r ++ logS (k + 1) rs
theorem logS_size : ∀ (rs : List ByteArray) (k : Nat), (logS k rs).size = sizesN rs := by
  intro rs
  induction rs with
  | nil => intro k; rfl
  | cons r rs ih => intro k; simp only [logS, sizesN]; rw [ByteArray.size_append, recS_size, ih]
theorem told_log : ∀ (rs : List ByteArray) (k : Nat), (∀ r ∈ rs, r.size ≤ 9000) → Told k (logS k rs) rs := by
  intro rs
  induction rs with
  | nil => intro k _; exact told_empty k
  | cons r rs ih => intro k h; exact told_recS k r _ rs (h r (by simp)) (ih (k + 1) (fun x hx => h x (by simp [hx])))
theorem log_snoc : ∀ (rs : List ByteArray) (k : Nat) (r : ByteArray), logS k (rs ++ [r]) = logS k rs ++ recS (k + rs.length) r := by
  intro rs
  induction rs with
  | nil => intro k r; simp only [List.nil_append, logS, List.length_nil, Nat.add_zero]; exact ba_ext (by rw [ba_append, ba_append]; simp)
  | cons x rs ih =>
    intro k r
    simp only [List.cons_append, logS, List.length_cons]
    rw [ih, show k + 1 + rs.length = k + (rs.length + 1) by omega]
    exact ba_ext (by rw [ba_append, ba_append, ba_append, ba_append, List.append_assoc])
/-- A record that is cut short tells nothing. -/
theorem first_cut (k : Nat) (r t : ByteArray) (n : Nat) (hr : r.size ≤ 9000) (hn : n < r.size + 6) : firstS k ((recS k r ++ t).extract 0 n) = none := by
  have hz : ((recS k r ++ t).extract 0 n).size = n := by rw [ByteArray.size_extract, recS_size']; omega
  by_cases h6 : n < 6
  · exact firstS_short _ _ (by omega)
  have h1 : 1 < ((recS k r ++ t).extract 0 n).size := by omega
  have hd := recS_data k r t
  have he : ((recS k r ++ t).extract 0 n).data.toList = UInt8.ofNat (r.size / 256) :: UInt8.ofNat r.size :: (r.data.toList ++ ((sealS k r).data.toList ++ t.data.toList)).take (n - 2) := by
    rw [ba_extract, hd, List.drop_zero, Nat.sub_zero, show n = n - 2 + 1 + 1 by omega, List.take_succ_cons, List.take_succ_cons, show n - 2 + 1 + 1 - 2 = n - 2 by omega]
  have hh : headN ((recS k r ++ t).extract 0 n) h1 = r.size := by
    unfold headN
    have e0 : ((recS k r ++ t).extract 0 n)[0] = UInt8.ofNat (r.size / 256) := l0_get ((recS k r ++ t).extract 0 n).data.toList _ _ _ (by rw [he]; simp) he
    have e1 : ((recS k r ++ t).extract 0 n)[1] = UInt8.ofNat r.size := l1_get ((recS k r ++ t).extract 0 n).data.toList _ _ _ (by rw [he]; simp) he
    rw [e0, e1]
    simp
    omega
  unfold firstS
  rw [dif_pos h1, hh, if_pos (by omega)]
theorem ext_past (a t : ByteArray) (n : Nat) (h : a.size ≤ n) : (a ++ t).extract 0 n = a ++ t.extract 0 (n - a.size) := by
  refine ba_ext ?_
  rw [ba_extract, ba_append, ba_append, ba_extract, List.drop_zero, List.drop_zero, Nat.sub_zero, Nat.sub_zero, List.take_append, ba_len, List.take_of_length_le (by rw [ba_len]; exact h)]
/-- A log that is cut tells a beginning: all the records that are whole. -/
theorem told_cut : ∀ (rs : List ByteArray) (k n : Nat), (∀ r ∈ rs, r.size ≤ 9000) → ∃ j, j ≤ rs.length ∧ Told k ((logS k rs).extract 0 n) (rs.take j) ∧ (∀ i, i ≤ rs.length → sizesN (rs.take i) ≤ n → i ≤ j) ∧ sizesN (rs.take j) ≤ n := by
  intro rs
  induction rs with
  | nil =>
    intro k n _
    refine ⟨0, Nat.le_refl _, ?_, fun i hi _ => hi, Nat.zero_le _⟩
    have e : (logS k []).extract 0 n = ByteArray.empty := ba_ext (by rw [ba_extract]; simp [logS])
    rw [e]
    exact told_empty k
  | cons r rs ih =>
    intro k n h
    by_cases hn : n < r.size + 6
    · refine ⟨0, Nat.zero_le _, .done (first_cut k r _ n (h r (by simp)) hn), fun i hi hs => ?_, Nat.zero_le _⟩
      cases i with
      | zero => exact Nat.le_refl _
      | succ i => simp only [List.take_succ_cons, sizesN] at hs; omega
    · obtain ⟨j, h1, h2, h3, h4⟩ := ih (k + 1) (n - (r.size + 6)) (fun x hx => h x (by simp [hx]))
      refine ⟨j + 1, by simp; exact h1, ?_, fun i hi hs => ?_, by simp only [List.take_succ_cons, sizesN]; omega⟩
      · simp only [logS, List.take_succ_cons]
        rw [ext_past _ _ _ (by rw [recS_size]; omega), recS_size]
        exact told_recS k r _ _ (h r (by simp)) h2
      · cases i with
        | zero => exact Nat.zero_le _
        | succ i =>
          simp only [List.take_succ_cons, sizesN] at hs
          have := h3 i (by simp at hi; exact hi) (by omega)
          omega
theorem log_take : ∀ (rs : List ByteArray) (k j : Nat), j ≤ rs.length → (logS k rs).extract 0 (sizesN (rs.take j)) = logS k (rs.take j) := by
  intro rs
  induction rs with
  | nil =>
    intro k j _
    have e : (logS k []).extract 0 (sizesN (([] : List ByteArray).take j)) = ByteArray.empty := ba_ext (by rw [ba_extract]; simp [logS])
    rw [e]; simp [logS]
  | cons r rs ih =>
    intro k j hj
    cases j with
    | zero => exact ba_ext (by rw [ba_extract]; simp [logS, sizesN])
    | succ j =>
      simp only [List.take_succ_cons, logS, sizesN]
      rw [ext_past _ _ _ (by rw [recS_size]; omega), recS_size, Nat.add_sub_cancel_left, ih (k + 1) j (by simpa using hj)]
theorem ext_ext0 (b : ByteArray) (n s : Nat) (h : s ≤ n) : (b.extract 0 n).extract 0 s = b.extract 0 s := by
  refine ba_ext ?_
  rw [ba_extract, ba_extract, ba_extract, List.drop_zero, List.drop_zero, Nat.sub_zero, Nat.sub_zero, List.take_take, Nat.min_eq_left h]
theorem ext_app (b u : ByteArray) (p s : Nat) (h : s ≤ p) (hp : p ≤ b.size) : (b.extract 0 p ++ u).extract 0 s = b.extract 0 s := by
  refine ba_ext ?_
  rw [ba_extract, ba_append, ba_extract, ba_extract, List.drop_zero, List.drop_zero, Nat.sub_zero, Nat.sub_zero, List.take_append_of_le_length (by rw [List.length_take, ba_len]; omega), List.take_take, Nat.min_eq_left h]

/-- A record whose last byte is another one, or that is cut, tells nothing. -/
theorem first_turn (k : Nat) (r t u : ByteArray) (v : UInt8) (p : Nat) (hr : r.size ≤ 9000) (hp : p < r.size + 6) (hu : u.data.toList = [v]) (hv : (recS k r ++ t).data.toList[p]? ≠ some v) : firstS k ((recS k r ++ t).extract 0 p ++ u) = none := by
  have hus : u.size = 1 := by rw [← ba_len, hu]; rfl
  have hz : ((recS k r ++ t).extract 0 p ++ u).size = p + 1 := by rw [ByteArray.size_append, ByteArray.size_extract, recS_size', hus]; omega
  by_cases h6 : p + 1 < 6
  · exact firstS_short _ _ (by omega)
  have h1 : 1 < ((recS k r ++ t).extract 0 p ++ u).size := by omega
  have hd := recS_data k r t
  have he : ((recS k r ++ t).extract 0 p ++ u).data.toList = UInt8.ofNat (r.size / 256) :: UInt8.ofNat r.size :: ((r.data.toList ++ ((sealS k r).data.toList ++ t.data.toList)).take (p - 2) ++ [v]) := by
    rw [ba_append, ba_extract, hd, hu, List.drop_zero, Nat.sub_zero, show p = p - 2 + 1 + 1 by omega, List.take_succ_cons, List.take_succ_cons, show p - 2 + 1 + 1 - 2 = p - 2 by omega]
    rfl
  have hh : headN ((recS k r ++ t).extract 0 p ++ u) h1 = r.size := by
    unfold headN
    have e0 : ((recS k r ++ t).extract 0 p ++ u)[0] = UInt8.ofNat (r.size / 256) := l0_get ((recS k r ++ t).extract 0 p ++ u).data.toList _ _ _ (by rw [he]; simp) he
    have e1 : ((recS k r ++ t).extract 0 p ++ u)[1] = UInt8.ofNat r.size := l1_get ((recS k r ++ t).extract 0 p ++ u).data.toList _ _ _ (by rw [he]; simp) he
    rw [e0, e1]
    simp
    omega
  unfold firstS
  rw [dif_pos h1, hh]
  by_cases hs : p + 1 < r.size + 6
  · rw [if_pos (by omega)]
  have hp' : p = r.size + 5 := by omega
  have hl : (sealS k r).data.toList.length = 4 := by rw [ba_len, sealS_size]
  have ht : (r.data.toList ++ ((sealS k r).data.toList ++ t.data.toList)).take (p - 2) = r.data.toList ++ (sealS k r).data.toList.take 3 := by
    rw [hp', List.take_append, ba_len, List.take_of_length_le (by rw [ba_len]; omega), show r.size + 5 - 2 - r.size = 3 by omega, List.take_append_of_le_length (by omega)]
  rw [ht] at he
  have e2 : ((recS k r ++ t).extract 0 p ++ u).extract 2 (2 + r.size) = r := by
    refine ba_ext ?_
    rw [ba_extract, he, Nat.add_sub_cancel_left, List.drop_succ_cons, List.drop_succ_cons, List.drop_zero, List.append_assoc, List.take_append_of_le_length (by rw [ba_len]; exact Nat.le_refl _), List.take_of_length_le (by rw [ba_len]; exact Nat.le_refl _)]
  have e3 : (((recS k r ++ t).extract 0 p ++ u).extract (2 + r.size) (6 + r.size)).data.toList = (sealS k r).data.toList.take 3 ++ [v] := by
    rw [ba_extract, he, show 6 + r.size - (2 + r.size) = 4 by omega, show 2 + r.size = r.size + 1 + 1 by omega, List.drop_succ_cons, List.drop_succ_cons, List.append_assoc, List.drop_append_of_le_length (by rw [ba_len]; exact Nat.le_refl _), List.drop_of_length_le (by rw [ba_len]; exact Nat.le_refl _), List.nil_append, List.take_of_length_le (by simp; omega)]
  rw [if_neg (by omega), e2, if_neg]
  intro hq
  rw [ByteArray.toList_eq, ByteArray.toList_eq, e3] at hq
  have hq' : (sealS k r).data.toList.take 3 ++ [v] = (sealS k r).data.toList := by simpa using hq
  apply hv
  rw [hd, hp', show r.size + 5 = r.size + 3 + 1 + 1 by omega, List.getElem?_cons_succ, List.getElem?_cons_succ, List.getElem?_append_right (by rw [ba_len]; omega), ba_len, show r.size + 3 - r.size = 3 by omega, List.getElem?_append_left (by omega), ← hq', List.getElem?_append_right (by simp; omega)]
  simp [hl]
/-- A log whose last byte is another one tells a beginning: all the records that are whole ahead of it. -/
theorem told_turn : ∀ (rs : List ByteArray) (k p : Nat) (u : ByteArray) (v : UInt8), (∀ r ∈ rs, r.size ≤ 9000) → u.data.toList = [v] → p < sizesN rs → (logS k rs).data.toList[p]? ≠ some v → ∃ j, j ≤ rs.length ∧ Told k ((logS k rs).extract 0 p ++ u) (rs.take j) ∧ (∀ i, i ≤ rs.length → sizesN (rs.take i) ≤ p → i ≤ j) ∧ sizesN (rs.take j) ≤ p := by
  intro rs
  induction rs with
  | nil => intro k p u v _ _ hp _; simp [sizesN] at hp
  | cons r rs ih =>
    intro k p u v h hu hp hv
    simp only [logS] at hv ⊢
    by_cases hn : p < r.size + 6
    · refine ⟨0, Nat.zero_le _, .done (first_turn k r _ u v p (h r (by simp)) hn hu hv), fun i hi hs => ?_, Nat.zero_le _⟩
      cases i with
      | zero => exact Nat.le_refl _
      | succ i => simp only [List.take_succ_cons, sizesN] at hs; omega
    · obtain ⟨j, h1, h2, h3, h4⟩ := ih (k + 1) (p - (r.size + 6)) u v (fun x hx => h x (by simp [hx])) hu (by simp only [sizesN] at hp; omega) (by
        rw [ba_append, List.getElem?_append_right (by rw [ba_len, recS_size]; omega), ba_len, recS_size] at hv
        exact hv)
      refine ⟨j + 1, by simp; exact h1, ?_, fun i hi hs => ?_, by simp only [List.take_succ_cons, sizesN]; omega⟩
      · rw [List.take_succ_cons, ext_past _ _ _ (by rw [recS_size]; omega), recS_size, show recS k r ++ (logS (k + 1) rs).extract 0 (p - (r.size + 6)) ++ u = recS k r ++ ((logS (k + 1) rs).extract 0 (p - (r.size + 6)) ++ u) from ba_ext (by rw [ba_append, ba_append, ba_append, ba_append, List.append_assoc])]
        exact told_recS k r _ _ (h r (by simp)) h2
      · cases i with
        | zero => exact Nat.zero_le _
        | succ i =>
          simp only [List.take_succ_cons, sizesN] at hs
          have := h3 i (by simp at hi; exact hi) (by omega)
          omega
end Go.Proofs.YtdnahobafhelhaaDoor
