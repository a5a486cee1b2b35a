/- Share: lists of polynomials; are all of one length? -/
import Derived.Test.YtcdiehnkknmbeaaDoorShX
namespace Go.Proofs.YtcdiehnkknmbeaaDoor
open Go Go.RowKit Go.Lib

/-- Lists of numbers that lie behind an address. -/
def Rows2 (w : World) (a : Option Addr) (L : List (List Nat)) : Prop :=
  ∀ j row, L[j]? = some row → ∃ p o ra rc, a = some ⟨p, o, none⟩ ∧ w.cell? ⟨p, o + j, none⟩ = some (.slice ra row.length rc) ∧ Nums w ra row ∧ p < w.heap.size
theorem Rows2.call {w w' : World} {a : Option Addr} {L : List (List Nat)} (h : Rows2 w a L) (hb : Below w.heap.size w w') : Rows2 w' a L := fun j s hj => by
  obtain ⟨p, o, ra, rc, h1, h2, h3, h4⟩ := h j s hj
  exact ⟨p, o, ra, rc, h1, (hb.cell (p := ⟨p, o + j, none⟩) h4).trans h2, h3.call hb, Nat.lt_of_lt_of_le h4 hb.size⟩
theorem Rows2.get {w : World} {a : Option Addr} {L : List (List Nat)} (h : Rows2 w a L) {k : Nat} (hk : k < L.length) : ∃ p o ra rc, a = some ⟨p, o, none⟩ ∧ w.cell? ⟨p, o + k, none⟩ = some (.slice ra (L[k]'hk).length rc) ∧ Nums w ra (L[k]'hk) ∧ p < w.heap.size :=
  h k _ (List.getElem?_eq_getElem hk)
/-- How many coefficients the first one has. -/
def len0 (L : List (List Nat)) : Nat := (L[0]?.getD []).length
def AlikeP (m : Nat) (L : List (List Nat)) : Prop := ∀ row ∈ L, (1 ≤ row.length ∧ row.length ≤ 10) ∧ row.length = m
instance (m : Nat) (L : List (List Nat)) : Decidable (AlikeP m L) := inferInstanceAs (Decidable (∀ row ∈ L, _))
def alikeB (L : List (List Nat)) : Bool := decide (AlikeP (len0 L) L ∧ 0 < L.length)
theorem alike_step {m : Nat} {L : List (List Nat)} {k : Nat} (hk : k < L.length) (h : AlikeP m (L.take k)) (h1 : (1 ≤ (L[k]'hk).length ∧ (L[k]'hk).length ≤ 10) ∧ (L[k]'hk).length = m) : AlikeP m (L.take (k + 1)) := by
  rw [List.take_succ_eq_append_getElem hk]
  intro row hr
  rcases List.mem_append.1 hr with c | c
  · exact h row c
  · rw [List.mem_singleton.1 c]; exact h1
theorem alike_bad {L : List (List Nat)} {k : Nat} (hk : k < L.length) (h : ¬ ((1 ≤ (L[k]'hk).length ∧ (L[k]'hk).length ≤ 10) ∧ (L[k]'hk).length = len0 L)) : alikeB L = false := decide_eq_false fun c => h (c.1 _ (List.getElem_mem hk))
theorem alike_all {L : List (List Nat)} {k : Nat} (hk : k = L.length) (h : AlikeP (len0 L) (L.take k)) : alikeB L = decide (0 < k) := by
  rw [List.take_of_length_le (by omega)] at h
  unfold alikeB
  exact decide_eq_decide.2 ⟨fun c => by have := c.2; omega, fun c => ⟨h, by omega⟩⟩
theorem alike_ok {L : List (List Nat)} (h : alikeB L = true) : AlikeP (len0 L) L ∧ 0 < L.length := of_decide_eq_true h
theorem len0_eq {L : List (List Nat)} (h : 0 < L.length) : len0 L = (L[0]'h).length := by
  unfold len0
  rw [List.getElem?_eq_getElem h]
  rfl
set_option maxRecDepth 100000 in
set_option maxHeartbeats 4000000 in
theorem alike_any (a : Option Addr) (L : List (List Nat)) (c : Nat) (hl : L.length ≤ 17592186044416) (w : World) (hN : Rows2 w a L) :
    Calls Tryd.prog 42 #[.slice a L.length c] w fun e w' => e = .returned (.bool (alikeB L)) ∧ Below w.heap.size w w' := by
  obtain ⟨n, hn⟩ : ∃ n, n = L.length := ⟨_, rfl⟩
  rw [← hn]
  have HL : Hid (n = L.length ∧ Rows2 w a L) := ⟨hn, hN⟩
  have n43 : (n : Int) ≤ 17592186044416 := by omega
  have K1 : Hid _ := fun a n c w => isPoly_any a n c w
  obtain ⟨D, hD⟩ : ∃ D, D = alikeB L := ⟨_, rfl⟩
  rw [← hD]
  have HD : Hid (D = alikeB L) := hD
  clear hn hl hN hD
  go_enter Tryd.func42, Tryd.ntmps42
  go_wp2_with fail
  rename_i Kr hKr
  have HKr : Hid _ := hKr
  clear hKr
  go_loopw [7] (fun iv wr => ∃ k : Nat, k ≤ n ∧ iv = .int .i64 (k : Nat) ∧ AlikeP (len0 L) (L.take k) ∧ Below w.heap.size w wr) (fun iv _ => n - (Go.RowKit.intOf iv).toNat)
  case atStart => exact ⟨0, Nat.zero_le _, rfl, fun _ h => (List.not_mem_nil h).elim, Below.refl _ _⟩
  case round =>
    obtain ⟨k, hk, rfl, hP, hB⟩ := hrel
    rename World => wr
    have HR : Hid (AlikeP (len0 L) (L.take k) ∧ Below w.heap.size w wr) := ⟨hP, hB⟩
    clear hP hB
    by_cases hlt : k < n
    · clear HKr
      have hkl : k < L.length := by rw [← HL.out.1]; exact hlt
      have h0l : 0 < L.length := by omega
      have hlt' : (k : Int) < (n : Int) := Int.ofNat_lt.2 hlt
      have h0n : 0 < n := by omega
      obtain ⟨p, o, ra, rc, rfl, c0, hr, pz⟩ := (HL.out.2.call HR.out.2).get hkl
      obtain ⟨p', o', sa, sc, e', d0, _, _⟩ := (HL.out.2.call HR.out.2).get h0l
      simp only [Option.some.injEq, Addr.mk.injEq, and_true] at e'
      obtain ⟨rfl, rfl⟩ := e'
      rw [← len0_eq h0l, Nat.add_zero] at d0
      obtain ⟨m, hm⟩ : ∃ m, m = (L[k]'hkl).length := ⟨_, rfl⟩
      obtain ⟨m0, hm0⟩ : ∃ m, m = len0 L := ⟨_, rfl⟩
      rw [← hm] at c0
      rw [← hm0] at d0
      clear hr
      by_cases h1 : 1 ≤ m ∧ m ≤ 10
      · have HF1 : Hid (decide (1 ≤ m ∧ m ≤ 10) = true) := decide_eq_true h1
        by_cases h2 : m = m0
        · have HE : Hid (AlikeP (len0 L) (L.take (k + 1)) ∧ Below w.heap.size w wr) := ⟨alike_step hkl HR.out.1 ⟨by rw [← hm]; exact h1, by rw [← hm, ← hm0]; exact h2⟩, HR.out.2⟩
          clear hm hm0
          subst h2
          clear h1
          go_wp2_with fail
          refine (K1.out _ _ _ _).mono ?_
          rintro e w1 ⟨rfl, rfl⟩
          rw [HF1.out]
          go_wp2_with fail
          go_roundw
          case rel => first | exact ⟨k + 1, hlt, by go_num, HE.out⟩ | ((repeat apply Exists.intro); exact ⟨⟨k + 1, hlt, by go_num, HE.out⟩, rfl⟩)
          case measure => simp [intOf]; omega
        · have HF : Hid (D = false) := by rw [HD.out, alike_bad hkl (fun q => h2 (by rw [hm, hm0]; exact q.2))]; rfl
          have e1 : ((m : Int) == (m0 : Int)) = false := by simp; omega
          have e2 : ¬ ((m : Int) = (m0 : Int)) := by omega
          clear hm hm0 h1 h2
          go_wp2_with fail
          refine (K1.out _ _ _ _).mono ?_
          rintro e w1 ⟨rfl, rfl⟩
          rw [HF1.out]
          go_wp2_with fail
          go_ret
          exact ⟨by rw [HF.out]; rfl, HR.out.2⟩
      · have HF1 : Hid (decide (1 ≤ m ∧ m ≤ 10) = false) := decide_eq_false h1
        have HF : Hid (D = false) := by rw [HD.out, alike_bad hkl (fun q => h1 (by rw [hm]; exact q.1))]; rfl
        clear hm hm0 h1
        go_wp2_with fail
        refine (K1.out _ _ _ _).mono ?_
        rintro e w1 ⟨rfl, rfl⟩
        rw [HF1.out]
        go_wp2_with fail
        go_ret
        exact ⟨by rw [HF.out]; rfl, HR.out.2⟩
    · obtain rfl : k = n := by omega
      have hnl : ¬ ((k : Int) < (k : Int)) := Int.lt_irrefl _
      have HF : Hid (D = decide (0 < k)) := by rw [HD.out, alike_all HL.out.1 HR.out.1]; rfl
      clear hlt hk
      go_wp2_with fail
      refine HKr.out _ _ ?_
      clear HKr
      go_wp2_with fail
      go_ret
      exact ⟨by rw [HF.out]; rfl, HR.out.2⟩
end Go.Proofs.YtcdiehnkknmbeaaDoor
