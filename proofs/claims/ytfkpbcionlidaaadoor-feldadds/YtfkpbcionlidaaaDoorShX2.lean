/- Several texts laid together. -/
import Derived.Test.YtfkpbcionlidaaaDoorMhC
namespace Go.Proofs.YtfkpbcionlidaaaDoor
open Go Go.RowKit Go.Lib

/-- Lists of numbers that lie behind an address. -/
def Rows2 (w : World) (a : Option Addr) (L : List (List Nat)) : Prop :=
  ∀ j row, L[j]? = some row → ∃ p o ra rc, a = some ⟨p, o, none⟩ ∧ w.cell? ⟨p, o + j, none⟩ = some (.slice ra row.length rc) ∧ Nums w ra row ∧ p < w.heap.size
theorem Rows2.call {w w' : World} {a : Option Addr} {L : List (List Nat)} (h : Rows2 w a L) (hb : Below w.heap.size w w') : Rows2 w' a L := fun j s hj => by
  obtain ⟨p, o, ra, rc, h1, h2, h3, h4⟩ := h j s hj
  exact ⟨p, o, ra, rc, h1, (hb.cell (p := ⟨p, o + j, none⟩) h4).trans h2, h3.call hb, Nat.lt_of_lt_of_le h4 hb.size⟩
theorem Rows2.get {w : World} {a : Option Addr} {L : List (List Nat)} (h : Rows2 w a L) {k : Nat} (hk : k < L.length) : ∃ p o ra rc, a = some ⟨p, o, none⟩ ∧ w.cell? ⟨p, o + k, none⟩ = some (.slice ra (L[k]'hk).length rc) ∧ Nums w ra (L[k]'hk) ∧ p < w.heap.size :=
  h k _ (List.getElem?_eq_getElem hk)
/-- How many coefficients the first one has. -/
def len0 (L : List (List Nat)) : Nat := (L[0]?.getD []).length
def AlikeP (m : Nat) (L : List (List Nat)) : Prop := ∀ row ∈ L, (1 ≤ row.length ∧ row.length ≤ 10) ∧ row.length = m
instance (m : Nat) (L : List (List Nat)) : Decidable (AlikeP m L) := inferInstanceAs (Decidable (∀ row ∈ L, _))
def alikeB (L : List (List Nat)) : Bool := decide (AlikeP (len0 L) L ∧ 0 < L.length)
theorem alike_step {m : Nat} {L : List (List Nat)} {k : Nat} (hk : k < L.length) (h : AlikeP m (L.take k)) (h1 : (1 ≤ (L[k]'hk).length ∧ (L[k]'hk).length ≤ 10) ∧ (L[k]'hk).length = m) : AlikeP m (L.take (k + 1)) := by
  rw [List.take_succ_eq_append_getElem hk]
  intro row hr
  rcases List.mem_append.1 hr with c | c
  · exact h row c
  · rw [List.mem_singleton.1 c]; exact h1
theorem alike_bad {L : List (List Nat)} {k : Nat} (hk : k < L.length) (h : ¬ ((1 ≤ (L[k]'hk).length ∧ (L[k]'hk).length ≤ 10) ∧ (L[k]'hk).length = len0 L)) : alikeB L = false := decide_eq_false fun c => h (c.1 _ (List.getElem_mem hk))
theorem alike_all {L : List (List Nat)} {k : Nat} (hk : k = L.length) (h : AlikeP (len0 L) (L.take k)) : alikeB L = decide (0 < k) := by
  rw [List.take_of_length_le (by omega)] at h
  unfold alikeB
  exact decide_eq_decide.2 ⟨fun c => by have := c.2; omega, fun c => ⟨h, by omega⟩⟩
theorem alike_ok {L : List (List Nat)} (h : alikeB L = true) : AlikeP (len0 L) L ∧ 0 < L.length := of_decide_eq_true h
theorem len0_eq {L : List (List Nat)} (h : 0 < L.length) : len0 L = (L[0]'h).length := by
  unfold len0
  rw [List.getElem?_eq_getElem h]
  rfl
set_option maxRecDepth 100000 in
set_option maxHeartbeats 4000000 in
theorem alike_any (a : Option Addr) (L : List (List Nat)) (c : Nat) (hl : L.length ≤ 17592186044416) (w : World) (hN : Rows2 w a L) :
    Calls Tryd.prog 22 #[.slice a L.length c] w fun e w' => e = .returned (.bool (alikeB L)) ∧ Below w.heap.size w w' := by
  obtain ⟨n, hn⟩ : ∃ n, n = L.length := ⟨_, rfl⟩
  rw [← hn]
  have HL : Hid (n = L.length ∧ Rows2 w a L) := ⟨hn, hN⟩
  have n43 : (n : Int) ≤ 17592186044416 := by omega
  have K1 : Hid _ := fun a n c w => isPoly_any a n c w
  obtain ⟨D, hD⟩ : ∃ D, D = alikeB L := ⟨_, rfl⟩
  rw [← hD]
  have HD : Hid (D = alikeB L) := hD
  clear hn hl hN hD
  go_enter Tryd.func22, Tryd.ntmps22
  go_wp2_with fail
  rename_i Kr hKr
  have HKr : Hid _ := hKr
  clear hKr
  go_loopw [7] (fun iv wr => ∃ k : Nat, k ≤ n ∧ iv = .int .i64 (k : Nat) ∧ AlikeP (len0 L) (L.take k) ∧ Below w.heap.size w wr) (fun iv _ => n - (Go.RowKit.intOf iv).toNat)
  case atStart => exact ⟨0, Nat.zero_le _, rfl, fun _ h => (List.not_mem_nil h).elim, Below.refl _ _⟩
  case round =>
    obtain ⟨k, hk, rfl, hP, hB⟩ := hrel
    rename World => wr
    have HR : Hid (AlikeP (len0 L) (L.take k) ∧ Below w.heap.size w wr) := ⟨hP, hB⟩
    clear hP hB
    by_cases hlt : k < n
    · clear HKr
      have hkl : k < L.length := by rw [← HL.out.1]; exact hlt
      have h0l : 0 < L.length := by omega
      have hlt' : (k : Int) < (n : Int) := Int.ofNat_lt.2 hlt
      have h0n : 0 < n := by omega
      obtain ⟨p, o, ra, rc, rfl, c0, hr, pz⟩ := (HL.out.2.call HR.out.2).get hkl
      obtain ⟨p', o', sa, sc, e', d0, _, _⟩ := (HL.out.2.call HR.out.2).get h0l
      simp only [Option.some.injEq, Addr.mk.injEq, and_true] at e'
      obtain ⟨rfl, rfl⟩ := e'
      rw [← len0_eq h0l, Nat.add_zero] at d0
      obtain ⟨m, hm⟩ : ∃ m, m = (L[k]'hkl).length := ⟨_, rfl⟩
      obtain ⟨m0, hm0⟩ : ∃ m, m = len0 L := ⟨_, rfl⟩
      rw [← hm] at c0
      rw [← hm0] at d0
      clear hr
      by_cases h1 : 1 ≤ m ∧ m ≤ 10
      · have HF1 : Hid (decide (1 ≤ m ∧ m ≤ 10) = true) := decide_eq_true h1
        by_cases h2 : m = m0
        · have HE : Hid (AlikeP (len0 L) (L.take (k + 1)) ∧ Below w.heap.size w wr) := ⟨alike_step hkl HR.out.1 ⟨by rw [← hm]; exact h1, by rw [← hm, ← hm0]; exact h2⟩, HR.out.2⟩
          clear hm hm0
          subst h2
          clear h1
          go_wp2_with fail
          refine (K1.out _ _ _ _).mono ?_
          rintro e w1 ⟨rfl, rfl⟩
          rw [HF1.out]
          go_wp2_with fail
          go_roundw
          case rel => first | exact ⟨k + 1, hlt, by go_num, HE.out⟩ | ((repeat apply Exists.intro); exact ⟨⟨k + 1, hlt, by go_num, HE.out⟩, rfl⟩)
          case measure => simp [intOf]; omega
        · have HF : Hid (D = false) := by rw [HD.out, alike_bad hkl (fun q => h2 (by rw [hm, hm0]; exact q.2))]; rfl
          have e1 : ((m : Int) == (m0 : Int)) = false := by simp; omega
          have e2 : ¬ ((m : Int) = (m0 : Int)) := by omega
          clear hm hm0 h1 h2
          go_wp2_with fail
          refine (K1.out _ _ _ _).mono ?_
          rintro e w1 ⟨rfl, rfl⟩
          rw [HF1.out]
          go_wp2_with fail
          go_ret
          exact ⟨by rw [HF.out]; rfl, HR.out.2⟩
      · have HF1 : Hid (decide (1 ≤ m ∧ m ≤ 10) = false) := decide_eq_false h1
        have HF : Hid (D = false) := by rw [HD.out, alike_bad hkl (fun q => h1 (by rw [hm]; exact q.1))]; rfl
        clear hm hm0 h1
        go_wp2_with fail
        refine (K1.out _ _ _ _).mono ?_
        rintro e w1 ⟨rfl, rfl⟩
        rw [HF1.out]
        go_wp2_with fail
        go_ret
        exact ⟨by rw [HF.out]; rfl, HR.out.2⟩
    · obtain rfl : k = n := by omega
      have hnl : ¬ ((k : Int) < (k : Int)) := Int.lt_irrefl _
      have HF : Hid (D = decide (0 < k)) := by rw [HD.out, alike_all HL.out.1 HR.out.1]; rfl
      clear hlt hk
      go_wp2_with fail
      refine HKr.out _ _ ?_
      clear HKr
      go_wp2_with fail
      go_ret
      exact ⟨by rw [HF.out]; rfl, HR.out.2⟩
end Go.Proofs.YtfkpbcionlidaaaDoor

namespace Go.Proofs.YtfkpbcionlidaaaDoor
open Go Go.RowKit Go.Lib

/-- A coefficient of the sum of the first k. -/
def suC (L : List (List Nat)) (i : Nat) : Nat → Nat
  | 0 => 0
  | k + 1 => (suC L i k + (L[k]?.getD [])[i]?.getD 0) % QQ
theorem suC_lt (L : List (List Nat)) (i k : Nat) : suC L i k < QQ := by
  cases k with
  | zero => exact QQ_pos
  | succ k => exact Nat.mod_lt _ QQ_pos
def suL (L : List (List Nat)) (k : Nat) : List Nat := (List.range (len0 L)).map fun i => suC L i k
theorem suL_length (L : List (List Nat)) (k : Nat) : (suL L k).length = len0 L := by simp [suL]
theorem suL_get (L : List (List Nat)) (k j : Nat) (hj : j < (suL L k).length) : ((suL L k)[j]'hj) = suC L j k := by simp [suL]
theorem suL_all (L : List (List Nat)) (k : Nat) : allQ (suL L k) = true := by
  unfold allQ suL
  rw [List.all_eq_true]
  intro x hx
  obtain ⟨y, _, rfl⟩ := List.mem_map.1 hx
  exact decide_eq_true (suC_lt _ _ _)
def allB (L : List (List Nat)) : Bool := L.all allQ
theorem allB_bad {L : List (List Nat)} {k : Nat} (hk : k < L.length) (h : allQ (L[k]'hk) = false) : allB L = false := by
  unfold allB
  rw [List.all_eq_false]
  exact ⟨_, List.getElem_mem hk, by rw [h]; decide⟩
theorem allB_get {L : List (List Nat)} (h : allB L = true) {k : Nat} (hk : k < L.length) : allQ (L[k]'hk) = true := List.all_eq_true.1 h _ (List.getElem_mem hk)
def AllP (L : List (List Nat)) (k : Nat) : Prop := ∀ j (hj : j < L.length), j < k → allQ (L[j]'hj) = true
theorem allB_all {L : List (List Nat)} (h : AllP L L.length) : allB L = true := by
  unfold allB
  rw [List.all_eq_true]
  intro x hx
  obtain ⟨j, hj, rfl⟩ := List.getElem_of_mem hx
  exact h j hj hj
theorem AllP.step {L : List (List Nat)} {k : Nat} (hk : k < L.length) (h : AllP L k) (h1 : allQ (L[k]'hk) = true) : AllP L (k + 1) := fun j hj c => by
  rcases Nat.lt_or_ge j k with c' | c'
  · exact h j hj c'
  · obtain rfl : j = k := by omega
    exact h1
set_option maxRecDepth 100000 in
set_option maxHeartbeats 4000000 in
theorem sum_bad (a : Option Addr) (L : List (List Nat)) (c : Nat) (hl : L.length ≤ 17592186044416) (hb : alikeB L = false) (w : World) (hN : Rows2 w a L) :
    Calls Tryd.prog 9 #[.slice a L.length c] w fun e w' => e = .returned (.tuple #[.slice none 0 0, .int .i64 1]) ∧ Below w.heap.size w w' := by
  have k1 := fun w hN => alike_any a L c hl w hN
  rw [hb] at k1
  obtain ⟨n, hn⟩ : ∃ n, n = L.length := ⟨_, rfl⟩
  rw [← hn] at k1
  rw [← hn]
  have K1 : Hid _ := k1
  have H0 : Hid (Rows2 w a L) := hN
  clear hn hl hb hN k1
  go_enter Tryd.func9, Tryd.ntmps9
  go_wp2_with fail
  refine (K1.out _ H0.out).mono ?_
  rintro e w1 ⟨rfl, hb1⟩
  have H1 : Hid (Below w.heap.size w w1) := hb1
  clear hb1
  go_wp2_with fail
  go_ret2
  exact ⟨rfl, H1.out⟩
set_option maxRecDepth 100000 in
set_option maxHeartbeats 16000000 in
theorem sum_any (a : Option Addr) (L : List (List Nat)) (c : Nat) (hl : L.length ≤ 17592186044416) (hb : alikeB L = true) (hR : ∀ row ∈ L, ∀ n ∈ row, n < R256) (w : World) (hG : GlobQ w) (hN : Rows2 w a L) :
    Calls Tryd.prog 9 #[.slice a L.length c] w fun e w' => (allB L = false ∧ e = .returned (.tuple #[.slice none 0 0, .int .i64 20]) ∧ Below w.heap.size w w') ∨ (allB L = true ∧ ∃ b, e = .returned (.tuple #[.slice (some ⟨b, 0, none⟩) (len0 L) (len0 L), .int .i64 0]) ∧ Nums w' (some ⟨b, 0, none⟩) (suL L L.length) ∧ Below w.heap.size w w') := by
  have k1 := fun w hN => alike_any a L c hl w hN
  rw [hb] at k1
  have hA := alike_ok hb
  obtain ⟨n, hn⟩ : ∃ n, n = L.length := ⟨_, rfl⟩
  obtain ⟨m, hm⟩ : ∃ m, m = len0 L := ⟨_, rfl⟩
  have hm10 : 1 ≤ m ∧ m ≤ 10 := by rw [hm, len0_eq hA.2]; exact (hA.1 _ (List.getElem_mem hA.2)).1
  rw [← hn] at k1
  rw [← hn, ← hm]
  have K1 : Hid _ := k1
  have K4 : Hid _ := fun w h => reckoner_any w h
  have H0 : Hid (Rows2 w a L ∧ GlobQ w ∧ n = L.length ∧ m = len0 L ∧ AlikeP (len0 L) L ∧ 0 < L.length ∧ (∀ row ∈ L, ∀ n ∈ row, n < R256)) := ⟨hN, hG, hn, hm, hA.1, hA.2, hR⟩
  have n43 : (n : Int) ≤ 17592186044416 := by omega
  have m10 : (m : Int) ≤ 10 := by omega
  have n0 : 0 < n := by omega
  have hmk : ∀ w, (Instr.makeSlice 32 (.int .i64 (m : Int)) (.int .i64 (m : Int))).run Tryd.prog w = .ok (.slice (some ⟨w.heap.size, 0, none⟩) m m) (w.alloc (.cells (madeN m) 41)) := fun w => make_run m (by omega) w
  clear hn hl hb hN hG k1 hA hm hR hm10
  go_enter Tryd.func9, Tryd.ntmps9
  go_wp2_with fail
  refine (K1.out _ H0.out.1).mono ?_
  rintro e w1 ⟨rfl, hb1⟩
  have H1 : Hid (Below w.heap.size w w1) := hb1
  clear hb1 K1
  go_wp2_with fail
  rename_i Kr hKr
  have HKr : Hid _ := hKr
  clear hKr
  go_loopw [17] (fun iv wr => ∃ k : Nat, k ≤ n ∧ iv = .int .i64 (k : Nat) ∧ AllP L k ∧ Below w1.heap.size w1 wr) (fun iv _ => n - (Go.RowKit.intOf iv).toNat)
  case atStart => exact ⟨0, Nat.zero_le _, rfl, fun j hj c => absurd c (Nat.not_lt_zero _), Below.refl _ _⟩
  case round =>
    obtain ⟨k, hk, rfl, hP, hB⟩ := hrel
    rename World => wr
    have HR : Hid (AllP L k ∧ Below w1.heap.size w1 wr ∧ Below w.heap.size w wr) := ⟨hP, hB, below_call0 H1.out hB⟩
    clear hP hB
    by_cases hlt : k < n
    · clear HKr hmk
      have hkl : k < L.length := by rw [← H0.out.2.2.1]; exact hlt
      have hlt' : (k : Int) < (n : Int) := Int.ofNat_lt.2 hlt
      obtain ⟨p, o, ra, rc, rfl, c0, hr, pz⟩ := (H0.out.1.call HR.out.2.2).get hkl
      have HN : Hid (Nums wr ra (L[k]'hkl)) := hr
      have hr10 := H0.out.2.2.2.2.1 _ (List.getElem_mem hkl)
      obtain ⟨row, hrow⟩ : ∃ r, r = (L[k]'hkl) := ⟨_, rfl⟩
      rw [← hrow] at c0 HN hr10
      have hl10 : row.length ≤ 8796093022208 := by omega
      obtain ⟨rl, hrl⟩ : ∃ r, r = row.length := ⟨_, rfl⟩
      rw [← hrl] at c0
      clear hr hr10
      by_cases hq : allQ row = true
      · have K2 : Hid (∀ w, GlobQ w → Nums w ra row → Calls Tryd.prog 23 #[.slice ra rl rc] w fun e w' => e = .returned (.int .i64 0) ∧ Below w.heap.size w w') := fun w h1 h2 => by rw [hrl]; exact check_yes ra row rc hl10 hq w h1 h2
        have HP : Hid (AllP L (k + 1)) := HR.out.1.step hkl (by rw [← hrow]; exact hq)
        clear hrow hrl hq hl10
        go_wp2_with fail
        refine (K2.out _ (H0.out.2.1.call HR.out.2.2) HN.out).mono ?_
        rintro e w2 ⟨rfl, hb2⟩
        have HE : Hid (Below w1.heap.size w1 w2) := below_call0 HR.out.2.1 hb2
        clear hb2 c0 pz
        go_wp2_with fail
        go_roundw
        case rel => first | exact ⟨k + 1, hlt, by go_num, HP.out, HE.out⟩ | ((repeat apply Exists.intro); exact ⟨⟨k + 1, hlt, by go_num, HP.out, HE.out⟩, rfl⟩)
        case measure => simp [intOf]; omega
      · have K2 : Hid (∀ w, GlobQ w → Nums w ra row → Calls Tryd.prog 23 #[.slice ra rl rc] w fun e w' => e = .returned (.int .i64 20) ∧ Below w.heap.size w w') := fun w h1 h2 => by rw [hrl]; exact check_not ra row rc hl10 (fun n hn => H0.out.2.2.2.2.2.2 _ (by rw [hrow]; exact List.getElem_mem hkl) n hn) (by simpa using hq) w h1 h2
        have HF : Hid (allB L = false) := allB_bad hkl (by rw [← hrow]; simpa using hq)
        clear hrow hrl hq hl10
        go_wp2_with fail
        refine (K2.out _ (H0.out.2.1.call HR.out.2.2) HN.out).mono ?_
        rintro e w2 ⟨rfl, hb2⟩
        have HE : Hid (Below w.heap.size w w2) := below_call0 HR.out.2.2 hb2
        clear hb2 c0 pz
        go_wp2_with fail
        go_ret2
        exact .inl ⟨HF.out, rfl, HE.out⟩
    · obtain rfl : k = n := by omega
      have hnl : ¬ ((k : Int) < (k : Int)) := Int.lt_irrefl _
      have HA : Hid (allB L = true) := allB_all (by rw [← H0.out.2.2.1]; exact HR.out.1)
      clear hlt hk
      go_wp2_with fail
      refine HKr.out _ _ ?_
      clear HKr
      go_wp2_with fail
      refine (K4.out _ (H0.out.2.1.call HR.out.2.2)).mono ?_
      rintro e w4 ⟨g, rfl, hFB, hb4⟩
      obtain ⟨w5, hw5⟩ : ∃ y, y = w4.alloc (.cells #[.pointer (some ⟨g, 0, none⟩)] 61) := ⟨_, rfl⟩
      have H5 : Hid (Below w.heap.size w w5 ∧ Ptr1 w5 w4.heap.size g ∧ FieldB w5 g QQ ∧ w4.heap.size + 1 = w5.heap.size ∧ w5 = w4.alloc (.cells #[.pointer (some ⟨g, 0, none⟩)] 61)) := by
        refine ⟨?_, ?_, ?_, ?_, hw5⟩
        · rw [hw5]; exact below_alloc0 (below_call0 HR.out.2.2 hb4) _
        · rw [hw5]; exact Ptr1.new _ _ _
        · rw [hw5]; exact hFB.alloc
        · rw [hw5]; simp
      obtain ⟨p, o, ra, rc, rfl, c0, _, pz⟩ := (H0.out.1.call HR.out.2.2).get H0.out.2.2.2.2.2.1
      rw [← len0_eq H0.out.2.2.2.2.2.1, ← H0.out.2.2.2.1, Nat.add_zero] at c0
      have c1 : w4.cell? ⟨p, o, none⟩ = some (.slice ra m rc) := (hb4.cell (p := ⟨p, o, none⟩) pz).trans c0
      have pz1 : p < w4.heap.size := Nat.lt_of_lt_of_le pz hb4.size
      clear hb4 hFB hw5 c0 pz K4
      go_wp2_with fail
      rw [← H5.out.2.2.2.2]
      try rw [H5.out.2.2.2.1]
      clear hmk c1 pz1
      obtain ⟨w6, hw6⟩ : ∃ y, y = w5.alloc (.cells (madeN m) 41) := ⟨_, rfl⟩
      have H6 : Hid (Below w5.heap.size w5 w6 ∧ TabN w6 w5.heap.size m (fun _ => 0)) := by
        rw [hw6]
        exact ⟨below_alloc0 (Below.refl _ _) _, TabN.made _ _ _⟩
      rw [← hw6]
      clear hw6
      rename_i Kq hKq
      have HKq : Hid _ := hKq
      clear hKq
      go_loopw [35] (fun iv wz => ∃ k' : Nat, k' ≤ k ∧ iv = .int .i64 (k' : Nat) ∧ ∃ f : Nat → Nat, TabN wz w5.heap.size m f ∧ (∀ j, j < m → f j = suC L j k') ∧ Below w5.heap.size w5 wz) (fun iv _ => k - (Go.RowKit.intOf iv).toNat)
      case atStart => exact ⟨0, Nat.zero_le _, rfl, _, H6.out.2, fun j _ => rfl, H6.out.1⟩
      case round =>
        obtain ⟨k', hk', rfl, f, hT, hf, hB⟩ := hrel
        rename World => wz
        have HZ : Hid (TabN wz w5.heap.size m f ∧ (∀ j, j < m → f j = suC L j k') ∧ Below w5.heap.size w5 wz ∧ Below w.heap.size w wz) := ⟨hT, hf, hB, below_call0 H5.out.1 hB⟩
        clear hT hf hB
        by_cases hlt2 : k' < k
        · clear HKq
          have hkl : k' < L.length := by rw [← H0.out.2.2.1]; exact hlt2
          have hlt2' : (k' : Int) < (k : Int) := Int.ofNat_lt.2 hlt2
          obtain ⟨p2, o2, ra2, rc2, e', c0, hr, pz⟩ := (H0.out.1.call HZ.out.2.2.2).get hkl
          simp only [Option.some.injEq, Addr.mk.injEq, and_true] at e'
          obtain ⟨rfl, rfl⟩ := e'
          have hrm : (L[k']'hkl).length = m := by rw [H0.out.2.2.2.1]; exact (H0.out.2.2.2.2.1 _ (List.getElem_mem hkl)).2
          rw [hrm] at c0
          have HN : Hid (Nums wz ra2 (L[k']'hkl) ∧ (L[k']'hkl).length = m) := ⟨hr, hrm⟩
          have HRN : Hid (∀ w', Below w.heap.size w w' → Nums w' ra2 (L[k']'hkl)) := by
            obtain ⟨p4, o4, ra4, rc4, e4, c4, hn4, pz4⟩ := H0.out.1.get hkl
            simp only [Option.some.injEq, Addr.mk.injEq, and_true] at e4
            obtain ⟨rfl, rfl⟩ := e4
            have h1 := (HZ.out.2.2.2.cell (p := ⟨_, _, none⟩) pz4).trans c4
            rw [hrm] at h1
            have h2 := h1.symm.trans c0
            simp only [Option.some.injEq, Value.slice.injEq] at h2
            obtain ⟨h2, _⟩ := h2
            subst h2
            exact fun w' hb => hn4.call hb
          clear hr hrm
          go_wp2_with fail
          rename_i Ki hKi
          have HKi : Hid _ := hKi
          clear hKi c0 pz
          go_loopw [41] (fun jv wi => ∃ i : Nat, i ≤ m ∧ jv = .int .i64 (i : Nat) ∧ ∃ f' : Nat → Nat, TabN wi w5.heap.size m f' ∧ (∀ j, j < i → f' j = suC L j (k' + 1)) ∧ (∀ j, i ≤ j → j < m → f' j = suC L j k') ∧ Below w5.heap.size w5 wi ∧ Nums wi ra2 (L[k']'hkl)) (fun jv _ => m - (Go.RowKit.intOf jv).toNat)
          case atStart => exact ⟨0, Nat.zero_le _, rfl, f, HZ.out.1, fun j c => absurd c (Nat.not_lt_zero _), fun j _ hj => HZ.out.2.1 j hj, HZ.out.2.2.1, HN.out.1⟩
          case round =>
            obtain ⟨i, hi, rfl, f', hT, hf1, hf2, hB, hr⟩ := hrel
            rename World => wi
            have HI : Hid (TabN wi w5.heap.size m f' ∧ (∀ j, j < i → f' j = suC L j (k' + 1)) ∧ (∀ j, i ≤ j → j < m → f' j = suC L j k') ∧ Below w5.heap.size w5 wi ∧ Nums wi ra2 (L[k']'hkl)) := ⟨hT, hf1, hf2, hB, hr⟩
            clear hT hf1 hf2 hB hr
            by_cases hit : i < m
            · clear HKi
              have hil : i < (L[k']'hkl).length := by rw [HN.out.2]; exact hit
              have hit' : (i : Int) < (m : Int) := Int.ofNat_lt.2 hit
              obtain ⟨p3, o3, rfl, ⟨c0, c1, c2, c3⟩, pz⟩ := HI.out.2.2.2.2.get hil
              obtain ⟨y, hy⟩ : ∃ y, y = ((L[k']'hkl)[i]'hil) := ⟨_, rfl⟩
              rw [← hy] at c0 c1 c2 c3
              obtain ⟨v, hv⟩ : ∃ v, v = f' i := ⟨_, rfl⟩
              obtain ⟨⟨t0, t1, t2, t3⟩, _⟩ := HI.out.1.at i hit
              have tz := HI.out.1.2.2
              rw [← hv] at t0 t1 t2 t3
              have hvs : v = suC L i k' := by rw [hv]; exact HI.out.2.2.1 i (Nat.le_refl _) hit
              have hvq : v < QQ := by rw [hvs]; exact suC_lt _ _ _
              have hyq : y < QQ := by rw [hy]; exact allQ_get (allB_get HA.out hkl) hil
              obtain ⟨u, hu⟩ : ∃ u, u = (v + y) % QQ := ⟨_, rfl⟩
              have KP : Hid (∀ w, FieldB w g QQ → Calls Tryd.prog 25 #[.agg #[.pointer (some ⟨g, 0, none⟩)], .agg #[.int .u64 (limb (v) 0 : Nat), .int .u64 (limb (v) 1 : Nat), .int .u64 (limb (v) 2 : Nat), .int .u64 (limb (v) 3 : Nat)], .agg #[.int .u64 (limb (y) 0 : Nat), .int .u64 (limb (y) 1 : Nat), .int .u64 (limb (y) 2 : Nat), .int .u64 (limb (y) 3 : Nat)]] w fun e w' => e = .returned (.agg #[.int .u64 (limb (u) 0 : Nat), .int .u64 (limb (u) 1 : Nat), .int .u64 (limb (u) 2 : Nat), .int .u64 (limb (u) 3 : Nat)]) ∧ Below w.heap.size w w') := fun w h => by rw [hu]; exact rplus_any g v y hvq hyq w h
              have HVF : Hid (f' i = v) := hv.symm
              have HU : Hid (u = suC L i (k' + 1)) := by
                show u = (suC L i k' + (L[k']?.getD [])[i]?.getD 0) % QQ
                have e1 : L[k']?.getD [] = (L[k']'hkl) := by rw [List.getElem?_eq_getElem hkl]; rfl
                rw [e1, List.getElem?_eq_getElem hil, ← hvs]
                show u = (v + ((L[k']'hkl)[i]'hil)) % QQ
                rw [← hy]; exact hu
              have HC : Hid (∀ w', Below wi.heap.size wi w' → (w'.cell? ⟨p3, o3 + i * 4, none⟩ = some (.int .u64 (limb y 0 : Nat)) ∧ w'.cell? ⟨p3, o3 + i * 4 + 1, none⟩ = some (.int .u64 (limb y 1 : Nat)) ∧ w'.cell? ⟨p3, o3 + i * 4 + 2, none⟩ = some (.int .u64 (limb y 2 : Nat)) ∧ w'.cell? ⟨p3, o3 + i * 4 + 3, none⟩ = some (.int .u64 (limb y 3 : Nat))) ∧ p3 < w'.heap.size) := fun w' hb => by
                have e := fun j => hb.cell (p := ⟨p3, j, none⟩) pz
                exact ⟨⟨(e _).trans c0, (e _).trans c1, (e _).trans c2, (e _).trans c3⟩, Nat.lt_of_lt_of_le pz hb.size⟩
              have HT : Hid (∀ w', Below wi.heap.size wi w' → (w'.cell? ⟨w5.heap.size, i * 4, none⟩ = some (.int .u64 (limb v 0 : Nat)) ∧ w'.cell? ⟨w5.heap.size, i * 4 + 1, none⟩ = some (.int .u64 (limb v 1 : Nat)) ∧ w'.cell? ⟨w5.heap.size, i * 4 + 2, none⟩ = some (.int .u64 (limb v 2 : Nat)) ∧ w'.cell? ⟨w5.heap.size, i * 4 + 3, none⟩ = some (.int .u64 (limb v 3 : Nat))) ∧ w5.heap.size < w'.heap.size) := fun w' hb => by
                have e := fun j => hb.cell (p := ⟨w5.heap.size, j, none⟩) tz
                exact ⟨⟨(e _).trans t0, (e _).trans t1, (e _).trans t2, (e _).trans t3⟩, Nat.lt_of_lt_of_le tz hb.size⟩
              clear hy hv hvs hvq hyq hu c0 c1 c2 c3 pz t0 t1 t2 t3 tz
              go_wp2_with fail
              refine wp_region_N (fun w' => Below wi.heap.size wi w') 13 14 rfl (by kernel_rfl) ?_
              refine wpAnyN_takeF (i := 0) (oi := ?o0) (v := ?v0) ?hi0 (by kernel_rfl) (by kernel_rfl) (by kernel_rfl) (by decide) ?hQ0 ?hy0 (Below.drew (Below.refl _ _)) ?more0
              case hi0 => rw [List.getElem?_toArray]; exact rfl
              case hQ0 => exact fun _ _ _ h => h
              case hy0 =>
                refine Or.inl ⟨by rfl, ?_⟩
                intro w' hSw
                clear hSw
                go_simp
                try with_reducible rfl
              simp only [Act.put, List.setIfInBounds_toArray, List.set_cons_zero, List.set_cons_succ]
              refine wpAnyN_takeF (i := 1) (oi := ?o1) (v := ?v1) ?hi1 (by kernel_rfl) (by kernel_rfl) (by kernel_rfl) (by decide) ?hQ1 ?hy1 (Below.drew (Below.refl _ _)) ?more1
              case hi1 => rw [List.getElem?_toArray]; exact rfl
              case hQ1 => exact fun _ _ _ h => h
              case hy1 =>
                refine Or.inl ⟨by rfl, ?_⟩
                intro w' hSw
                clear hSw
                go_simp
                try with_reducible rfl
              simp only [Act.put, List.setIfInBounds_toArray, List.set_cons_zero, List.set_cons_succ]
              refine wpAnyN_take (i := 2) (oi := ?o2) (v := ?v2) ?hi2 (by kernel_rfl) (by kernel_rfl) (by kernel_rfl) (by kernel_rfl) (by decide) (by kernel_rfl) ?hQ2 ?hy2 (Below.drew (Below.refl _ _)) ?more2
              case hi2 => rw [List.getElem?_toArray]; exact rfl
              case hQ2 => exact fun _ _ _ h => h
              case hy2 =>
                refine Or.inl ⟨by rfl, ?_⟩
                intro w' hSw
                obtain ⟨r0, rz⟩ := (H5.out.2.1.call HI.out.2.2.2.1).call hSw
                obtain ⟨⟨c0, c1, c2, c3⟩, cz⟩ := HC.out _ hSw
                obtain ⟨⟨t0, t1, t2, t3⟩, tz⟩ := HT.out _ hSw
                clear hSw
                go_simp
                try with_reducible rfl
              simp only [Act.put, List.setIfInBounds_toArray, List.set_cons_zero, List.set_cons_succ]
              refine wpAnyN_takeF (i := 3) (oi := ?o3) (v := ?v3) ?hi3 (by kernel_rfl) (by kernel_rfl) (by kernel_rfl) (by decide) ?hQ3 ?hy3 (Below.drew (Below.refl _ _)) ?more3
              case hi3 => rw [List.getElem?_toArray]; exact rfl
              case hQ3 => exact fun _ _ _ h => h
              case hy3 =>
                refine Or.inl ⟨by rfl, ?_⟩
                intro w' hSw
                clear hSw
                go_simp
                try with_reducible rfl
              simp only [Act.put, List.setIfInBounds_toArray, List.set_cons_zero, List.set_cons_succ]
              refine wpAnyN_takeF (i := 4) (oi := ?o4) (v := ?v4) ?hi4 (by kernel_rfl) (by kernel_rfl) (by kernel_rfl) (by decide) ?hQ4 ?hy4 (Below.drew (Below.refl _ _)) ?more4
              case hi4 => rw [List.getElem?_toArray]; exact rfl
              case hQ4 => exact fun _ _ _ h => h
              case hy4 =>
                refine Or.inl ⟨by rfl, ?_⟩
                intro w' hSw
                clear hSw
                go_simp
                try with_reducible rfl
              simp only [Act.put, List.setIfInBounds_toArray, List.set_cons_zero, List.set_cons_succ]
              refine wpAnyN_takeF (i := 5) (oi := ?o5) (v := ?v5) ?hi5 (by kernel_rfl) (by kernel_rfl) (by kernel_rfl) (by decide) ?hQ5 ?hy5 (Below.drew (Below.refl _ _)) ?more5
              case hi5 => rw [List.getElem?_toArray]; exact rfl
              case hQ5 => exact fun _ _ _ h => h
              case hy5 =>
                refine Or.inl ⟨by rfl, ?_⟩
                intro w' hSw
                clear hSw
                go_simp
                try with_reducible rfl
              simp only [Act.put, List.setIfInBounds_toArray, List.set_cons_zero, List.set_cons_succ]
              refine wpAnyN_take (i := 6) (oi := ?o6) (v := ?v6) ?hi6 (by kernel_rfl) (by kernel_rfl) (by kernel_rfl) (by kernel_rfl) (by decide) (by kernel_rfl) ?hQ6 ?hy6 (Below.drew (Below.refl _ _)) ?more6
              case hi6 => rw [List.getElem?_toArray]; exact rfl
              case hQ6 => exact fun _ _ _ h => h
              case hy6 =>
                refine Or.inl ⟨by rfl, ?_⟩
                intro w' hSw
                obtain ⟨r0, rz⟩ := (H5.out.2.1.call HI.out.2.2.2.1).call hSw
                obtain ⟨⟨c0, c1, c2, c3⟩, cz⟩ := HC.out _ hSw
                obtain ⟨⟨t0, t1, t2, t3⟩, tz⟩ := HT.out _ hSw
                clear hSw
                go_simp
                try with_reducible rfl
              simp only [Act.put, List.setIfInBounds_toArray, List.set_cons_zero, List.set_cons_succ]
              refine wpAnyN_takeF (i := 7) (oi := ?o7) (v := ?v7) ?hi7 (by kernel_rfl) (by kernel_rfl) (by kernel_rfl) (by decide) ?hQ7 ?hy7 (Below.drew (Below.refl _ _)) ?more7
              case hi7 => rw [List.getElem?_toArray]; exact rfl
              case hQ7 => exact fun _ _ _ h => h
              case hy7 =>
                refine Or.inl ⟨by rfl, ?_⟩
                intro w' hSw
                clear hSw
                go_simp
                try with_reducible rfl
              simp only [Act.put, List.setIfInBounds_toArray, List.set_cons_zero, List.set_cons_succ]
              refine wpAnyN_takeF (i := 8) (oi := ?o8) (v := ?v8) ?hi8 (by kernel_rfl) (by kernel_rfl) (by kernel_rfl) (by decide) ?hQ8 ?hy8 (Below.drew (Below.refl _ _)) ?more8
              case hi8 => rw [List.getElem?_toArray]; exact rfl
              case hQ8 => exact fun _ _ _ h => h
              case hy8 =>
                refine Or.inl ⟨by rfl, ?_⟩
                intro w' hSw
                clear hSw
                go_simp
                try with_reducible rfl
              simp only [Act.put, List.setIfInBounds_toArray, List.set_cons_zero, List.set_cons_succ]
              refine wpAnyN_takeF (i := 9) (oi := ?o9) (v := ?v9) ?hi9 (by kernel_rfl) (by kernel_rfl) (by kernel_rfl) (by decide) ?hQ9 ?hy9 (Below.drew (Below.refl _ _)) ?more9
              case hi9 => rw [List.getElem?_toArray]; exact rfl
              case hQ9 => exact fun _ _ _ h => h
              case hy9 =>
                refine Or.inl ⟨by rfl, ?_⟩
                intro w' hSw
                clear hSw
                go_simp
                try with_reducible rfl
              simp only [Act.put, List.setIfInBounds_toArray, List.set_cons_zero, List.set_cons_succ]
              refine wpAnyN_take (i := 10) (oi := ?o10) (v := ?v10) ?hi10 (by kernel_rfl) (by kernel_rfl) (by kernel_rfl) (by kernel_rfl) (by decide) (by kernel_rfl) ?hQ10 ?hy10 (Below.drew (Below.refl _ _)) ?more10
              case hi10 => rw [List.getElem?_toArray]; exact rfl
              case hQ10 => exact fun _ _ _ h => h
              case hy10 =>
                refine Or.inl ⟨by rfl, ?_⟩
                intro w' hSw
                obtain ⟨r0, rz⟩ := (H5.out.2.1.call HI.out.2.2.2.1).call hSw
                obtain ⟨⟨c0, c1, c2, c3⟩, cz⟩ := HC.out _ hSw
                obtain ⟨⟨t0, t1, t2, t3⟩, tz⟩ := HT.out _ hSw
                clear hSw
                go_simp
                try with_reducible rfl
              simp only [Act.put, List.setIfInBounds_toArray, List.set_cons_zero, List.set_cons_succ]
              refine wpAnyN_one (i := 11) (o := ?o11) (by kernel_rfl) ?hi11 ?hw11 ?st11
              case hi11 => rw [List.getElem?_toArray]; exact rfl
              case hw11 => exact rfl
              intro K hK
              have HK11 : Hid _ := hK
              clear hK
              go_simp
              refine (KP.out _ (FieldB.drew (H5.out.2.2.1.call HI.out.2.2.2.1))).mono ?_
              rintro e w9 ⟨rfl, hq⟩
              have H9 : Hid (Below wi.heap.size wi w9) := below_call0 (Below.drew (Below.refl _ _)) hq
              obtain ⟨⟨t0, t1, t2, t3⟩, g0, g1, g2, g3⟩ := (HI.out.1.call H9.out).at i hit
              have tz := (HI.out.1.call H9.out).2.2
              rw [HVF.out] at t0 t1 t2 t3
              clear hq
              go_wp2_with fail
              refine HK11.out _ _ ⟨fun _ => H9.out, ?_⟩
              clear HK11 K
              try simp only [Act.put, List.setIfInBounds_toArray, List.set_cons_zero, List.set_cons_succ]
              refine wpAnyN_takeF (i := 12) (oi := ?o12) (v := ?v12) ?hi12 (by kernel_rfl) (by kernel_rfl) (by kernel_rfl) (by decide) ?hQ12 ?hy12 H9.out ?more12
              case hi12 => rw [List.getElem?_toArray]; exact rfl
              case hQ12 => exact fun _ _ _ h => h
              case hy12 =>
                refine Or.inl ⟨by rfl, ?_⟩
                intro w' hSw
                clear hSw
                go_simp
                try with_reducible rfl
              simp only [Act.put, List.setIfInBounds_toArray, List.set_cons_zero, List.set_cons_succ]
              refine wpAnyN_one (i := 13) (o := ?o13) (by kernel_rfl) ?hi13 ?hw13 ?st13
              case hi13 => rw [List.getElem?_toArray]; exact rfl
              case hw13 => exact rfl
              intro K hK
              have HK13 : Hid _ := hK
              clear hK
              go_simp
              refine HK13.out _ _ ⟨fun h => absurd h (by decide +kernel), ?_⟩
              clear HK13 K
              try simp only [Act.put, List.setIfInBounds_toArray, List.set_cons_zero, List.set_cons_succ]
              refine wpAnyN_done (by kernel_rfl) ?_ _
              have HE : Hid (TabN ((((w9.setCell ⟨w5.heap.size, i * 4, none⟩ (.int .u64 (limb u 0 : Nat))).setCell ⟨w5.heap.size, i * 4 + 1, none⟩ (.int .u64 (limb u 1 : Nat))).setCell ⟨w5.heap.size, i * 4 + 2, none⟩ (.int .u64 (limb u 2 : Nat))).setCell ⟨w5.heap.size, i * 4 + 3, none⟩ (.int .u64 (limb u 3 : Nat))) w5.heap.size m (fun j => if j = i then u else f' j) ∧ (∀ j, j < i + 1 → (fun j => if j = i then u else f' j) j = suC L j (k' + 1)) ∧ (∀ j, i + 1 ≤ j → j < m → (fun j => if j = i then u else f' j) j = suC L j k') ∧ Below w5.heap.size w5 ((((w9.setCell ⟨w5.heap.size, i * 4, none⟩ (.int .u64 (limb u 0 : Nat))).setCell ⟨w5.heap.size, i * 4 + 1, none⟩ (.int .u64 (limb u 1 : Nat))).setCell ⟨w5.heap.size, i * 4 + 2, none⟩ (.int .u64 (limb u 2 : Nat))).setCell ⟨w5.heap.size, i * 4 + 3, none⟩ (.int .u64 (limb u 3 : Nat))) ∧ Nums ((((w9.setCell ⟨w5.heap.size, i * 4, none⟩ (.int .u64 (limb u 0 : Nat))).setCell ⟨w5.heap.size, i * 4 + 1, none⟩ (.int .u64 (limb u 1 : Nat))).setCell ⟨w5.heap.size, i * 4 + 2, none⟩ (.int .u64 (limb u 2 : Nat))).setCell ⟨w5.heap.size, i * 4 + 3, none⟩ (.int .u64 (limb u 3 : Nat))) (some ⟨p3, o3, none⟩) (L[k']'hkl)) := by
                refine ⟨(HI.out.1.call H9.out).put i u hit, fun j hj => ?_, fun j hj hj' => ?_, Below.setCell (Below.setCell (Below.setCell (Below.setCell (below_call0 HI.out.2.2.2.1 H9.out) (Nat.le_refl _) _) (Nat.le_refl _) _) (Nat.le_refl _) _) (Nat.le_refl _) _, ?_⟩
                · show (if j = i then u else f' j) = _
                  by_cases e : j = i
                  · rw [if_pos e, e]; exact HU.out
                  · rw [if_neg e]; exact HI.out.2.1 j (by omega)
                · show (if j = i then u else f' j) = _
                  rw [if_neg (by omega)]; exact HI.out.2.2.1 j (by omega) hj'
                · exact HRN.out _ (Below.setCell (Below.setCell (Below.setCell (Below.setCell (below_call0 (below_call0 H5.out.1 HI.out.2.2.2.1) H9.out) H5.out.1.size _) H5.out.1.size _) H5.out.1.size _) H5.out.1.size _)
              go_wp2_with fail
              go_roundw
              case rel => first | exact ⟨i + 1, hit, by go_num, _, HE.out⟩ | ((repeat apply Exists.intro); exact ⟨⟨i + 1, hit, by go_num, _, HE.out⟩, rfl⟩)
              case measure => simp [intOf]; omega
            · obtain rfl : i = m := by omega
              have hnl2 : ¬ ((i : Int) < (i : Int)) := Int.lt_irrefl _
              clear hit hi
              go_wp2_with fail
              refine HKi.out _ _ ?_
              clear HKi
              go_wp2_with fail
              go_roundw
              case rel => first | exact ⟨k' + 1, hlt2, by go_num, f', HI.out.1, HI.out.2.1, HI.out.2.2.2.1⟩ | ((repeat apply Exists.intro); exact ⟨⟨k' + 1, hlt2, by go_num, f', HI.out.1, HI.out.2.1, HI.out.2.2.2.1⟩, rfl⟩)
              case measure => simp [intOf]; omega
        · obtain rfl : k' = k := by omega
          have hnl2 : ¬ ((k' : Int) < (k' : Int)) := Int.lt_irrefl _
          have HF : Hid (Nums wz (some ⟨w5.heap.size, 0, none⟩) (suL L k')) := by
            have hT := HZ.out.1
            have e : m = (suL L k').length := by rw [suL_length]; exact H0.out.2.2.2.1
            rw [e] at hT
            refine hT.nums fun j hj => ?_
            rw [suL_get]
            exact HZ.out.2.1 j (by rw [e]; exact hj)
          clear hlt2 hk'
          go_wp2_with fail
          refine HKq.out _ _ ?_
          clear HKq
          go_wp2_with fail
          go_ret2
          exact .inr ⟨HA.out, _, rfl, HF.out, HZ.out.2.2.2⟩
end Go.Proofs.YtfkpbcionlidaaaDoor
