/- The law DiskSteps: a step of a file, and of the reference's. -/
import Derived.Test.YtlcinkhgjjpmmaaDkS
import Derived.Test.YtlcinkhgjjpmmaaHeldR
namespace Go.Proofs.Ytlcinkhgjjpmmaa
open Go Go.RowKit Go.Lib

/-- Both files: the program's at block g, the reference's at block r; the program's array a block of P. -/
def Both (w : World) (g r : Nat) (P : Nat → Prop) (S R : ByteArray) : Prop := FileAt w g P S.size (S ++ R) ∧ RefAt w r S R ∧ ¬ P r ∧ g ≠ r ∧ S.size + R.size ≤ 1048576
theorem FileAt.mono {w : World} {g m : Nat} {P Q : Nat → Prop} {bs : ByteArray} (h : FileAt w g P m bs) (hq : ∀ k, k < w.heap.size → P k → Q k) (hg : ¬ Q g) (hQ : ∀ k, w.heap.size ≤ k → Q k) : FileAt w g Q m bs := by
  obtain ⟨a, cap, c0, c1, fz, _, _, hR⟩ := h
  exact ⟨a, cap, c0, c1, fz, hg, hQ, hR.mono hq⟩
/-- What Append answers, and what it leaves. -/
def apV (n : Nat) (s : ByteArray) : Int := if n + s.size ≤ 1048576 then 0 else 5
def apR (n : Nat) (R s : ByteArray) : ByteArray := if n + s.size ≤ 1048576 then R ++ s else R
theorem fapp_any (g : Nat) (P : Nat → Prop) (S R s : ByteArray) (hz : S.size + R.size ≤ 1048576) (w : World) (hF : FileAt w g P S.size (S ++ R)) :
    Calls Try.prog 11 #[.pointer (some ⟨g, 0, none⟩), .string s] w fun e w' => e = .returned (.int .i64 (apV (S.size + R.size) s)) ∧ FileAt w' g P S.size (S ++ apR (S.size + R.size) R s) ∧ But g P w w' := by
  have es : (S ++ R).size = S.size + R.size := ByteArray.size_append
  unfold apV apR
  by_cases h : S.size + R.size + s.size ≤ 1048576
  · rw [if_pos h, if_pos h]
    have := fappend_ok g P S.size (S ++ R) s (by rw [es]; exact h) w hF
    rwa [ByteArray.append_assoc] at this
  · rw [if_neg h, if_neg h]
    exact fappend_no g P S.size (S ++ R) s (by rw [es]; exact hz) (by rw [es]; omega) w hF
theorem rapp_any (r : Nat) (S R s : ByteArray) (hz : S.size + R.size ≤ 1048576) (hs : s.size < 140737488351233) (w : World) (hF : RefAt w r S R) :
    Calls Try.prog 15 #[.pointer (some ⟨r, 0, none⟩), .string s] w fun e w' => e = .returned (.int .i64 (apV (S.size + R.size) s)) ∧ RefAt w' r S (apR (S.size + R.size) R s) ∧ But r (From w.heap.size) w w' := by
  unfold apV apR
  by_cases h : S.size + R.size + s.size ≤ 1048576
  · rw [if_pos h, if_pos h]
    exact rappend_ok r S R s h w hF
  · rw [if_neg h, if_neg h]
    exact rappend_no r S R s hz hs (by omega) w hF
theorem apR_size (S R s : ByteArray) (hz : S.size + R.size ≤ 1048576) : S.size + (apR (S.size + R.size) R s).size ≤ 1048576 := by
  unfold apR
  by_cases h : S.size + R.size + s.size ≤ 1048576
  · rw [if_pos h, ByteArray.size_append]; omega
  · rw [if_neg h]; exact hz
/-- What Cut answers, and what it leaves. -/
def ctV (n : Int) (z : Nat) : Int := if 0 ≤ n ∧ n ≤ z then 0 else 1
def ctS (n : Int) (S R : ByteArray) : ByteArray := if 0 ≤ n ∧ n ≤ (S.size + R.size : Nat) then (S ++ R).extract 0 n.toNat else S
def ctR (n : Int) (S R : ByteArray) : ByteArray := if 0 ≤ n ∧ n ≤ (S.size + R.size : Nat) then emp else R
theorem emp_size : emp.size = 0 := rfl
theorem app_emp (a : ByteArray) : a ++ emp = a := ba_ext (by rw [ba_append]; simp [emp])
theorem fct_any (g : Nat) (P : Nat → Prop) (n : Int) (S R : ByteArray) (hz : S.size + R.size ≤ 1048576) (w : World) (hF : FileAt w g P S.size (S ++ R)) :
    Calls Try.prog 14 #[.pointer (some ⟨g, 0, none⟩), .int .i64 n] w fun e w' => e = .returned (.int .i64 (ctV n (S.size + R.size))) ∧ FileAt w' g P (ctS n S R).size (ctS n S R ++ ctR n S R) ∧ But g P w w' := by
  have es : (S ++ R).size = S.size + R.size := ByteArray.size_append
  unfold ctV ctS ctR
  by_cases h : 0 ≤ n ∧ n ≤ (S.size + R.size : Nat)
  · rw [if_pos h, if_pos h, if_pos h, app_emp]
    obtain ⟨k, rfl⟩ : ∃ k : Nat, n = (k : Nat) := ⟨n.toNat, by omega⟩
    have hk : k ≤ (S ++ R).size := by omega
    have ez : ((S ++ R).extract 0 k).size = k := by rw [ByteArray.size_extract]; omega
    rw [Int.toNat_natCast, ez]
    exact fcut_ok g P S.size k (S ++ R) hk (by omega) w hF
  · rw [if_neg h, if_neg h, if_neg h]
    exact fcut_no g P S.size n (S ++ R) (by omega) w hF
theorem rct_any (r : Nat) (n : Int) (S R : ByteArray) (hz : S.size + R.size ≤ 1048576) (w : World) (hF : RefAt w r S R) :
    Calls Try.prog 17 #[.pointer (some ⟨r, 0, none⟩), .int .i64 n] w fun e w' => e = .returned (.int .i64 (ctV n (S.size + R.size))) ∧ RefAt w' r (ctS n S R) (ctR n S R) ∧ But r (From w.heap.size) w w' := by
  unfold ctV ctS ctR
  by_cases h : 0 ≤ n ∧ n ≤ (S.size + R.size : Nat)
  · rw [if_pos h, if_pos h, if_pos h]
    obtain ⟨k, rfl⟩ : ∃ k : Nat, n = (k : Nat) := ⟨n.toNat, by omega⟩
    rw [Int.toNat_natCast]
    exact rcut_ok r k S R hz (by omega) w hF
  · rw [if_neg h, if_neg h, if_neg h]
    exact rcut_no r n S R hz (by omega) w hF
theorem ct_size (n : Int) (S R : ByteArray) (hz : S.size + R.size ≤ 1048576) : (ctS n S R).size + (ctR n S R).size ≤ 1048576 := by
  unfold ctS ctR
  by_cases h : 0 ≤ n ∧ n ≤ (S.size + R.size : Nat)
  · rw [if_pos h, if_pos h, ByteArray.size_extract, ByteArray.size_append, emp_size]; omega
  · rw [if_neg h, if_neg h]; exact hz
/-- What Crash answers, and what it leaves. -/
def crB (k q : Int) (z : Nat) : Bool := decide (0 ≤ k ∧ k ≤ z ∧ 0 ≤ q ∧ q ≤ 255)
def crV (k q : Int) (z : Nat) : Int := if crB k q z then 0 else 1
def crS (k q : Int) (S R : ByteArray) : ByteArray := if crB k q R.size then (if 0 < q ∧ k < R.size then S ++ R.extract 0 k.toNat ++ one (xr (R.data.toList.getD k.toNat 0) q.toNat) else S ++ R.extract 0 k.toNat) else S
def crR (k q : Int) (R : ByteArray) : ByteArray := if crB k q R.size then emp else R
theorem ext_app (S R : ByteArray) (k : Nat) : (S ++ R).extract 0 (S.size + k) = S ++ R.extract 0 k := by
  apply ba_ext
  have l := ba_len S
  rw [ba_extract0, ba_append, ba_append, ba_extract0, List.take_append, l, Nat.add_sub_cancel_left, List.take_of_length_le (by omega)]
theorem getD_app (S R : ByteArray) (k : Nat) : (S ++ R).data.toList.getD (S.size + k) 0 = R.data.toList.getD k 0 := by
  have l := ba_len S
  rw [ba_append, List.getD_eq_getElem?_getD, List.getD_eq_getElem?_getD, List.getElem?_append_right (by omega), l, Nat.add_sub_cancel_left]
theorem fcr_any (g : Nat) (P : Nat → Prop) (k q : Int) (S R : ByteArray) (hz : S.size + R.size ≤ 1048576) (w : World) (hF : FileAt w g P S.size (S ++ R)) :
    Calls Try.prog 13 #[.pointer (some ⟨g, 0, none⟩), .int .i64 k, .int .i64 q] w fun e w' => e = .returned (.int .i64 (crV k q R.size)) ∧ FileAt w' g P (crS k q S R).size (crS k q S R ++ crR k q R) ∧ But g P w w' := by
  have es : (S ++ R).size = S.size + R.size := ByteArray.size_append
  unfold crV crS crR
  by_cases h : crB k q R.size = true
  · simp only [h, if_true, app_emp]
    unfold crB at h
    have h' := of_decide_eq_true h
    obtain ⟨k', rfl⟩ : ∃ k' : Nat, k = (k' : Nat) := ⟨k.toNat, by omega⟩
    obtain ⟨q', rfl⟩ : ∃ q' : Nat, q = (q' : Nat) := ⟨q.toNat, by omega⟩
    rw [Int.toNat_natCast, Int.toNat_natCast]
    have ez : (R.extract 0 k').size = k' := by rw [ByteArray.size_extract]; omega
    by_cases c : (0 : Int) < (q' : Int) ∧ (k' : Int) < R.size
    · rw [if_pos c]
      have := fcrash_byte g P S.size k' q' (S ++ R) (by omega) (by omega) (by omega) (by omega) w hF
      rw [ext_app, getD_app] at this
      rw [ByteArray.size_append, ByteArray.size_append, ez, one_size]
      exact this
    · rw [if_neg c]
      have := fcrash_ok g P S.size k' q' (S ++ R) (by omega) (by omega) (by omega) (by omega) w hF
      rw [ext_app] at this
      rw [ByteArray.size_append, ez]
      exact this
  · simp only [h]
    have h' : ¬ (0 ≤ k ∧ k ≤ R.size ∧ 0 ≤ q ∧ q ≤ 255) := fun c => h (decide_eq_true c)
    exact fcrash_no g P S.size k q (S ++ R) (by omega) (by omega) (by omega) w hF
theorem rcr_any (r : Nat) (k q : Int) (S R : ByteArray) (hz : S.size + R.size ≤ 1048576) (w : World) (hF : RefAt w r S R) :
    Calls Try.prog 18 #[.pointer (some ⟨r, 0, none⟩), .int .i64 k, .int .i64 q] w fun e w' => e = .returned (.int .i64 (crV k q R.size)) ∧ RefAt w' r (crS k q S R) (crR k q R) ∧ But r (From w.heap.size) w w' := by
  unfold crV crS crR
  by_cases h : crB k q R.size = true
  · simp only [h, if_true]
    unfold crB at h
    have h' := of_decide_eq_true h
    obtain ⟨k', rfl⟩ : ∃ k' : Nat, k = (k' : Nat) := ⟨k.toNat, by omega⟩
    obtain ⟨q', rfl⟩ : ∃ q' : Nat, q = (q' : Nat) := ⟨q.toNat, by omega⟩
    rw [Int.toNat_natCast, Int.toNat_natCast]
    by_cases c : (0 : Int) < (q' : Int) ∧ (k' : Int) < R.size
    · rw [if_pos c]
      exact rcrash_byte r k' q' S R hz (by omega) (by omega) (by omega) w hF
    · rw [if_neg c]
      exact rcrash_ok r k' q' S R hz (by omega) (by omega) (by omega) w hF
  · simp only [h]
    have h' : ¬ (0 ≤ k ∧ k ≤ R.size ∧ 0 ≤ q ∧ q ≤ 255) := fun c => h (decide_eq_true c)
    exact rcrash_no r k q S R (by omega) (by omega) w hF
theorem cr_size (k q : Int) (S R : ByteArray) (hz : S.size + R.size ≤ 1048576) : (crS k q S R).size + (crR k q R).size ≤ 1048576 := by
  unfold crS crR
  by_cases h : crB k q R.size = true
  · simp only [h, if_true]
    unfold crB at h
    have h' := of_decide_eq_true h
    have ez : (R.extract 0 k.toNat).size = k.toNat := by rw [ByteArray.size_extract]; omega
    by_cases c : 0 < q ∧ k < R.size
    · rw [if_pos c, ByteArray.size_append, ByteArray.size_append, ez, one_size, emp_size]; omega
    · rw [if_neg c, ByteArray.size_append, ez, emp_size]; omega
  · simp only [h]; exact hz
end Go.Proofs.Ytlcinkhgjjpmmaa
