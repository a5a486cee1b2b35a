/- wardmoteref01.Compare: -1, 0 or 1, as the numbers of the digits lie. -/
import Derived.Test.YtaigpginoakdfaaDg
import Derived.Test.YtaigpginoakdfaaCmp
namespace Go.Proofs.Ytaigpginoakdfaa
open Go.RowKit

theorem Dg.len {w : World} {v : Value} {ds : List Nat} (h : Dg w v ds) : ∃ ad cap, v = .slice ad ds.length cap := by
  rcases h with ⟨rfl, rfl⟩ | ⟨g, cap, rfl, _⟩
  · exact ⟨_, _, rfl⟩
  · exact ⟨_, _, rfl⟩

set_option maxHeartbeats 1000000 in
theorem compare_lt (v u : Value) (a b : List Nat) (ha : Dok a) (hb : Dok b) (_la : a.length < 100) (_lb : b.length < 100) (hlt : a.length < b.length) (w : World) (hv : Dg w v a) (hu : Dg w u b) :
    Calls Try.prog 21 #[v, u] w fun e w' => e = .returned (.int .i64 (cmpN (dval a) (dval b))) ∧ w' = w := by
  have eA := dpre_eq a b.length (by omega)
  have eB := dpre_eq b b.length (by omega)
  have fin : ∀ m, m < b.length → (∀ j, m + 1 ≤ j → j < b.length → dget a j = dget b j) → dget a m < dget b m → cmpN (dval a) (dval b) = -1 := fun m hm he hl => by
    rw [← eA, ← eB]; exact cmpN_lt (dpre_cmp ha m b.length (by omega) he hl)
  have fin2 : ∀ m, m < b.length → (∀ j, m + 1 ≤ j → j < b.length → dget a j = dget b j) → dget b m < dget a m → cmpN (dval a) (dval b) = 1 := fun m hm he hl => by
    rw [← eA, ← eB]; exact cmpN_gt (dpre_cmp hb m b.length (by omega) (fun j x y => (he j x y).symm) hl)
  have fin3 : (∀ j, 0 ≤ j → j < b.length → dget a j = dget b j) → cmpN (dval a) (dval b) = 0 := fun he => by
    rw [← eA, ← eB, dpre_same b.length (fun j hj => he j (by omega) hj)]; exact cmpN_self _
  have HF : Hid _ := And.intro fin (And.intro fin2 fin3)
  clear fin fin2 fin3 eA eB ha hb
  have D1 := fun i => digit_any v a i w hv
  have D2 := fun i => digit_any u b i w hu
  have H1 : Hid _ := D1
  have H2 : Hid _ := D2
  clear D1 D2
  obtain ⟨ad, cap, rfl⟩ := hv.len
  obtain ⟨ad', cap', rfl⟩ := hu.len
  clear hv hu
  go_enter Try.func21, Try.ntmps21
  go_wp2_with fail
  go_loop [6] (fun i => ∃ k : Nat, k ≤ b.length ∧ i = .int .i64 ((k : Int) - 1) ∧ (∀ j, k ≤ j → j < b.length → dget a j = dget b j)) (fun i => (intOf i + 1).toNat)
  case atStart => exact ⟨b.length, Nat.le_refl _, rfl, fun j h1 h2 => by omega⟩
  case round =>
    obtain ⟨k, hk, rfl, heq⟩ := hrel
    by_cases hk0 : k = 0
    · subst hk0
      have HR : Hid (cmpN (dval a) (dval b) = 0) := HF.out.2.2 heq
      clear heq
      go_wp2
      go_ret
      exact ⟨ret_int HR.out.symm, rfl⟩
    · obtain ⟨m, rfl⟩ : ∃ m, k = m + 1 := ⟨k - 1, by omega⟩
      have e : ((m + 1 : Nat) : Int) - 1 = (m : Int) := by omega
      rw [e]
      clear e
      have HE : Hid (∀ j, m + 1 ≤ j → j < b.length → dget a j = dget b j) := heq
      clear heq
      by_cases h1 : dget a m < dget b m
      · have HR : Hid (cmpN (dval a) (dval b) = -1) := HF.out.1 m (by omega) HE.out h1
        go_wp2_with fail
        refine (H1.out m).mono ?_
        rintro e w' ⟨rfl, rfl⟩
        go_wp2_with fail
        refine (H2.out m).mono ?_
        rintro e w' ⟨rfl, rfl⟩
        go_wp2
        go_ret
        exact ⟨ret_int HR.out.symm, rfl⟩
      · by_cases h2 : dget b m < dget a m
        · have HR : Hid (cmpN (dval a) (dval b) = 1) := HF.out.2.1 m (by omega) HE.out h2
          go_wp2_with fail
          refine (H1.out m).mono ?_
          rintro e w' ⟨rfl, rfl⟩
          go_wp2_with fail
          refine (H2.out m).mono ?_
          rintro e w' ⟨rfl, rfl⟩
          go_wp2_with fail
          refine (H1.out m).mono ?_
          rintro e w' ⟨rfl, rfl⟩
          go_wp2_with fail
          refine (H2.out m).mono ?_
          rintro e w' ⟨rfl, rfl⟩
          go_wp2
          go_ret
          exact ⟨ret_int HR.out.symm, rfl⟩
        · have EM : Hid (dget a m = dget b m) := by show _ = _; omega
          go_wp2_with fail
          refine (H1.out m).mono ?_
          rintro e w' ⟨rfl, rfl⟩
          go_wp2_with fail
          refine (H2.out m).mono ?_
          rintro e w' ⟨rfl, rfl⟩
          go_wp2_with fail
          refine (H1.out m).mono ?_
          rintro e w' ⟨rfl, rfl⟩
          go_wp2_with fail
          refine (H2.out m).mono ?_
          rintro e w' ⟨rfl, rfl⟩
          go_wp2
          go_round
          case rel =>
            refine ⟨m, by omega, rfl, ?_⟩
            intro j hj hj4
            by_cases hjm : j = m
            · subst hjm; exact EM.out
            · exact HE.out j (by omega) hj4
          case measure => simp [intOf]

set_option maxHeartbeats 1000000 in
theorem compare_ge (v u : Value) (a b : List Nat) (ha : Dok a) (hb : Dok b) (_la : a.length < 100) (_lb : b.length < 100) (hlt : ¬ a.length < b.length) (w : World) (hv : Dg w v a) (hu : Dg w u b) :
    Calls Try.prog 21 #[v, u] w fun e w' => e = .returned (.int .i64 (cmpN (dval a) (dval b))) ∧ w' = w := by
  have eA := dpre_eq a a.length (by omega)
  have eB := dpre_eq b a.length (by omega)
  have fin : ∀ m, m < a.length → (∀ j, m + 1 ≤ j → j < a.length → dget a j = dget b j) → dget a m < dget b m → cmpN (dval a) (dval b) = -1 := fun m hm he hl => by
    rw [← eA, ← eB]; exact cmpN_lt (dpre_cmp ha m a.length (by omega) he hl)
  have fin2 : ∀ m, m < a.length → (∀ j, m + 1 ≤ j → j < a.length → dget a j = dget b j) → dget b m < dget a m → cmpN (dval a) (dval b) = 1 := fun m hm he hl => by
    rw [← eA, ← eB]; exact cmpN_gt (dpre_cmp hb m a.length (by omega) (fun j x y => (he j x y).symm) hl)
  have fin3 : (∀ j, 0 ≤ j → j < a.length → dget a j = dget b j) → cmpN (dval a) (dval b) = 0 := fun he => by
    rw [← eA, ← eB, dpre_same a.length (fun j hj => he j (by omega) hj)]; exact cmpN_self _
  have HF : Hid _ := And.intro fin (And.intro fin2 fin3)
  clear fin fin2 fin3 eA eB ha hb
  have D1 := fun i => digit_any v a i w hv
  have D2 := fun i => digit_any u b i w hu
  have H1 : Hid _ := D1
  have H2 : Hid _ := D2
  clear D1 D2
  obtain ⟨ad, cap, rfl⟩ := hv.len
  obtain ⟨ad', cap', rfl⟩ := hu.len
  clear hv hu
  go_enter Try.func21, Try.ntmps21
  go_wp2_with fail
  go_loop [6] (fun i => ∃ k : Nat, k ≤ a.length ∧ i = .int .i64 ((k : Int) - 1) ∧ (∀ j, k ≤ j → j < a.length → dget a j = dget b j)) (fun i => (intOf i + 1).toNat)
  case atStart => exact ⟨a.length, Nat.le_refl _, rfl, fun j h1 h2 => by omega⟩
  case round =>
    obtain ⟨k, hk, rfl, heq⟩ := hrel
    by_cases hk0 : k = 0
    · subst hk0
      have HR : Hid (cmpN (dval a) (dval b) = 0) := HF.out.2.2 heq
      clear heq
      go_wp2
      go_ret
      exact ⟨ret_int HR.out.symm, rfl⟩
    · obtain ⟨m, rfl⟩ : ∃ m, k = m + 1 := ⟨k - 1, by omega⟩
      have e : ((m + 1 : Nat) : Int) - 1 = (m : Int) := by omega
      rw [e]
      clear e
      have HE : Hid (∀ j, m + 1 ≤ j → j < a.length → dget a j = dget b j) := heq
      clear heq
      by_cases h1 : dget a m < dget b m
      · have HR : Hid (cmpN (dval a) (dval b) = -1) := HF.out.1 m (by omega) HE.out h1
        go_wp2_with fail
        refine (H1.out m).mono ?_
        rintro e w' ⟨rfl, rfl⟩
        go_wp2_with fail
        refine (H2.out m).mono ?_
        rintro e w' ⟨rfl, rfl⟩
        go_wp2
        go_ret
        exact ⟨ret_int HR.out.symm, rfl⟩
      · by_cases h2 : dget b m < dget a m
        · have HR : Hid (cmpN (dval a) (dval b) = 1) := HF.out.2.1 m (by omega) HE.out h2
          go_wp2_with fail
          refine (H1.out m).mono ?_
          rintro e w' ⟨rfl, rfl⟩
          go_wp2_with fail
          refine (H2.out m).mono ?_
          rintro e w' ⟨rfl, rfl⟩
          go_wp2_with fail
          refine (H1.out m).mono ?_
          rintro e w' ⟨rfl, rfl⟩
          go_wp2_with fail
          refine (H2.out m).mono ?_
          rintro e w' ⟨rfl, rfl⟩
          go_wp2
          go_ret
          exact ⟨ret_int HR.out.symm, rfl⟩
        · have EM : Hid (dget a m = dget b m) := by show _ = _; omega
          go_wp2_with fail
          refine (H1.out m).mono ?_
          rintro e w' ⟨rfl, rfl⟩
          go_wp2_with fail
          refine (H2.out m).mono ?_
          rintro e w' ⟨rfl, rfl⟩
          go_wp2_with fail
          refine (H1.out m).mono ?_
          rintro e w' ⟨rfl, rfl⟩
          go_wp2_with fail
          refine (H2.out m).mono ?_
          rintro e w' ⟨rfl, rfl⟩
          go_wp2
          go_round
          case rel =>
            refine ⟨m, by omega, rfl, ?_⟩
            intro j hj hj4
            by_cases hjm : j = m
            · subst hjm; exact EM.out
            · exact HE.out j (by omega) hj4
          case measure => simp [intOf]

theorem compare_any (v u : Value) (a b : List Nat) (ha : Dok a) (hb : Dok b) (la : a.length < 100) (lb : b.length < 100) (w : World) (hv : Dg w v a) (hu : Dg w u b) :
    Calls Try.prog 21 #[v, u] w fun e w' => e = .returned (.int .i64 (cmpN (dval a) (dval b))) ∧ w' = w := by
  by_cases hlt : a.length < b.length
  · exact compare_lt v u a b ha hb la lb hlt w hv hu
  · exact compare_ge v u a b ha hb la lb hlt w hv hu
end Go.Proofs.Ytaigpginoakdfaa
