/- Package parcel: Pack. -/
import Derived.Test.YtadcjdffjhiniaaPcA
namespace Go.Proofs.Ytadcjdffjhiniaa
open Go Go.RowKit Go.Lib

theorem pair_cells (x y : UInt8) (w : World) (t : TypeId) : ∀ j u, (strCells (ofL [x, y]))[j]? = some u → (w.alloc (.cells #[.int .u8 (x.toNat : Int), .int .u8 (y.toNat : Int)] t)).cell? ((⟨w.heap.size, 0, none⟩ : Addr).add j) = some u := fun j u hj => by
  match j, hj with
  | 0, hj => simp [strCells, ofL] at hj; subst hj; simp [go_sem, Addr.add_lit]
  | 1, hj => simp [strCells, ofL] at hj; subst hj; simp [go_sem, Addr.add_lit]
  | j + 2, hj => simp [strCells, ofL] at hj
theorem pair_row (x y : UInt8) (w : World) (t : TypeId) (B : Nat) (hB : B ≤ w.heap.size) : RowB (w.alloc (.cells #[.int .u8 (x.toNat : Int), .int .u8 (y.toNat : Int)] t)) (From B) (some ⟨w.heap.size, 0, none⟩) (ofL [x, y]) 2 := by
  refine .inr ⟨w.heap.size, rfl, hB, by simp, Nat.le_refl _, by decide, fun j u hj => ?_, fun j hj => ?_, fun j => by simp [go_sem]⟩
  · have := pair_cells x y w t j u hj
    rwa [Addr.add_lit, Nat.zero_add] at this
  · match j, hj with
    | 0, _ => simp [go_sem]
    | 1, _ => simp [go_sem]
theorem u8wrap (n : Nat) : IntKind.u8.wrap (n : Int) = ((UInt8.ofNat n).toNat : Int) := by
  rw [IntKind.wrap_u8]
  simp
theorem pack_kind (k : Int) (a : Option Addr) (n cap : Nat) (hk : kindB k = false) (w : World) :
    Calls Try.prog 40 #[.int .i64 k, .slice a n cap] w fun e w' => e = .returned (.tuple #[.string ⟨#[]⟩, .int .i64 1]) ∧ Below w.heap.size w w' := by
  go_enter Try.func40, Try.ntmps40
  go_wp2_with fail
  refine (isKind_any k _).mono ?_
  rintro e w1 ⟨rfl, rfl⟩
  go_wp2_with fail
  go_ret2
  exact ⟨rfl, Below.refl _ _⟩
theorem pack_long (k : Int) (a : Option Addr) (l : List ByteArray) (cap : Nat) (hk : kindB k = true) (hf : fitB l = false) (w : World) (hS : Strs w a l) (hz : ∀ s ∈ l, s.size < 140737488351233) :
    Calls Try.prog 40 #[.int .i64 k, .slice a l.length cap] w fun e w' => e = .returned (.tuple #[.string ⟨#[]⟩, .int .i64 2]) ∧ Below w.heap.size w w' := by
  have HS : Hid (Strs w a l ∧ ∀ s ∈ l, s.size < 140737488351233) := ⟨hS, hz⟩
  clear hS hz
  go_enter Try.func40, Try.ntmps40
  go_wp2_with fail
  refine (isKind_any k _).mono ?_
  rintro e w1 ⟨rfl, rfl⟩
  go_wp2_with fail
  refine (fit_any a l cap _ HS.out.1 HS.out.2).mono ?_
  rintro e w2 ⟨rfl, rfl⟩
  go_wp2_with fail
  go_ret2
  exact ⟨rfl, Below.refl _ _⟩
set_option maxHeartbeats 2000000 in
theorem pack_in (k : Nat) (a : Option Addr) (l : List ByteArray) (cap : Nat) (hk : kindB (k : Nat) = true) (hf : fitB l = true) (w : World) (hS : Strs w a l) :
    Calls Try.prog 40 #[.int .i64 (k : Nat), .slice a l.length cap] w fun e w' => e = .returned (.tuple #[.string (ofL (packL k l)), .int .i64 0]) ∧ Below w.heap.size w w' := by
  obtain ⟨i0, hi, hz0, hz1, hz2⟩ := infoU8'
  have hf1 : l.length ≤ 40 ∧ okS l = true ∧ 2 + sumN l ≤ 20000 := by
    unfold fitB at hf
    simp only [Bool.and_eq_true, decide_eq_true_eq] at hf
    exact ⟨hf.1.1, hf.1.2, hf.2⟩
  have hz : ∀ s ∈ l, s.size < 140737488351233 := fun s hs => by
    have := List.all_eq_true.1 hf1.2.1 s hs
    have : s.size ≤ 8000 := by simpa using this
    omega
  obtain ⟨x, hx⟩ : ∃ x, x = UInt8.ofNat k := ⟨_, rfl⟩
  obtain ⟨y, hy⟩ : ∃ y, y = UInt8.ofNat l.length := ⟨_, rfl⟩
  have wx : IntKind.u8.wrap (k : Int) = (x.toNat : Int) := by rw [hx]; exact u8wrap k
  have wy : IntKind.u8.wrap (l.length : Int) = (y.toNat : Int) := by rw [hy]; exact u8wrap l.length
  have hsz : ∀ w, (Go.sizeOf 5).run Try.prog w = .ok 1 w := fun _ => by kernel_rfl
  have HP : Hid (packL k l = x :: y :: itemsL l) := by rw [hx, hy]; exact rfl
  have HS : Hid (Strs w a l ∧ (∀ s ∈ l, s.size < 140737488351233) ∧ l.length ≤ 40 ∧ okS l = true ∧ 2 + sumN l ≤ 20000) := ⟨hS, hz, hf1⟩
  obtain ⟨n, hn⟩ : ∃ n, n = l.length := ⟨_, rfl⟩
  rw [← hn] at wy ⊢
  have HL : Hid (n = l.length) := hn
  have KF : Hid _ := fun (w' : World) (h : Strs w' a l) => fit_any a l cap w' h hz
  rw [← hn] at KF
  clear hS hz hf1 hx hy hn
  go_enter Try.func40, Try.ntmps40
  go_wp2_with fail
  refine (isKind_any k _).mono ?_
  rintro e w1 ⟨rfl, rfl⟩
  go_wp2_with fail
  refine (KF.out _ HS.out.1).mono ?_
  rintro e w2 ⟨rfl, rfl⟩
  go_wp2_with fail
  rename_i Kr hKr
  have HKr : Hid _ := hKr
  clear hKr
  go_loopw [6, 23] (fun ov iv wr => ∃ (j m c : Nat) (ao : Option Addr), j ≤ n ∧ iv = .int .i64 (j : Nat) ∧ ov = .slice ao m c ∧ m = (ofL (x :: y :: itemsL (l.take j))).size ∧ RowB wr (From w2.heap.size) ao (ofL (x :: y :: itemsL (l.take j))) c ∧ Below w2.heap.size w2 wr)
    (fun _ iv _ => n - (intOf iv).toNat)
  case atStart => exact ⟨0, 2, 2, _, Nat.zero_le _, rfl, rfl, rfl, pair_row x y w2 _ _ (Nat.le_refl _), below_alloc0 (Below.refl _ _) _⟩
  case round =>
    obtain ⟨j, m, c, ao, hj, rfl, rfl, hm, hR, hB⟩ := hrel
    rename World => wr
    by_cases hlt : j < n
    · clear HKr
      have hjl : j < l.length := by rw [← HL.out]; exact hlt
      obtain ⟨p, o, rfl, hc, hp⟩ := HS.out.1.get hjl
      obtain ⟨s, hs⟩ : ∃ s, s = (l[j]'hjl) := ⟨_, rfl⟩
      rw [← hs] at hc
      have hc' : wr.cell? ⟨p, o + j, none⟩ = some (.string s) := (hB.cell (p := ⟨p, o + j, none⟩) hp).trans hc
      have hlt' : (j : Int) < (n : Int) := Int.ofNat_lt.2 hlt
      have n40 : (n : Int) ≤ 40 := by have := HS.out.2.2.1; rw [← HL.out] at this; omega
      have hs8 : s.size ≤ 8000 := by rw [hs]; exact okS_of_mem HS.out.2.2.2.1 hjl
      obtain ⟨u, hu⟩ : ∃ u, u = UInt8.ofNat (s.size / 256) := ⟨_, rfl⟩
      obtain ⟨v, hv⟩ : ∃ v, v = UInt8.ofNat s.size := ⟨_, rfl⟩
      have wv : (s.size : Int) % 256 = (v.toNat : Int) := by rw [hv, ← u8wrap, IntKind.wrap_u8]
      have wu : (s.size : Int) / 256 = (u.toNat : Int) := by
        have h := u8wrap (s.size / 256)
        rw [← hu, IntKind.wrap_u8] at h
        omega
      have sb : (s.size : Int) ≤ 8000 := by omega
      have ei : itemL s = u :: v :: s.data.toList := by rw [hu, hv]; rfl
      have es : (ofL [u, v]).size = 2 := rfl
      have el : (ofL (x :: y :: itemsL (l.take j))).size ≤ 20000 := by
        rw [ofL_size]
        simp only [List.length_cons, itemsL_length]
        have h1 := HS.out.2.2.2.2
        have h2 : sumN (l.take j) ≤ sumN l := by
          have := sumN_append (l.take j) (l.drop j)
          rw [List.take_append_drop] at this
          omega
        omega
      have HB : Hid (m = (ofL (x :: y :: itemsL (l.take j))).size ∧ RowB wr (From w2.heap.size) ao (ofL (x :: y :: itemsL (l.take j))) c ∧ Below w2.heap.size w2 wr) := ⟨hm, hR, hB⟩
      have HI : Hid (s = (l[j]'hjl) ∧ itemL s = u :: v :: s.data.toList ∧ (ofL (x :: y :: itemsL (l.take j))).size ≤ 20000 ∧ s.size ≤ 8000) := ⟨hs, ei, el, hs8⟩
      have hb0 : Below wr.heap.size wr (wr.alloc (.cells #[.int .u8 (u.toNat : Int), .int .u8 (v.toNat : Int)] 5)) := below_alloc0 (Below.refl _ _) _
      have HB0 : Hid (Below wr.heap.size wr (wr.alloc (.cells #[.int .u8 (u.toNat : Int), .int .u8 (v.toNat : Int)] 5)) ∧ RowB (wr.alloc (.cells #[.int .u8 (u.toNat : Int), .int .u8 (v.toNat : Int)] 5)) (From w2.heap.size) ao (ofL (x :: y :: itemsL (l.take j))) c ∧ (∀ k', (wr.alloc (.cells #[.int .u8 (u.toNat : Int), .int .u8 (v.toNat : Int)] 5)).heap.size ≤ k' → From w2.heap.size k')) :=
        ⟨hb0, hR.call hb0, fun k' hk' => Nat.le_trans (Nat.le_trans hB.size hb0.size) hk'⟩
      clear hm hR hB hc hs8 hs hu hv ei el hb0
      go_wp2_with (first
        | (at_builtin; refine wpList_append_RowB_slice _ rfl (.tmp 27) (.tmp 35) 94 rfl (From w2.heap.size) 5 i0 Try.underlying94 hi hz0 hz1 hz2 ao m c (ofL (x :: y :: itemsL (l.take j))) (ofL [u, v]) rfl HB.out.1 HB0.out.2.1 (by rw [es]; have := HI.out.2.2.1; omega) HB0.out.2.2 ⟨wr.heap.size, 0, none⟩ 2 2 rfl rfl (pair_cells u v wr _) ?_; intro a3 m3 c3 w3 hm3 hR3 hb3; have H3 : Hid (m3 = m + (ofL [u, v]).size ∧ RowB w3 (From w2.heap.size) a3 (ofL (x :: y :: itemsL (l.take j)) ++ ofL [u, v]) c3 ∧ Off (From w2.heap.size) wr w3 ∧ ∀ k', w3.heap.size ≤ k' → From w2.heap.size k') := ⟨hm3, hR3, (Off.of_below HB0.out.1 (fun k' hk' => Nat.le_trans HB.out.2.2.size hk')).trans hb3, fun k' hk' => HB0.out.2.2 k' (Nat.le_trans hb3.size hk')⟩; clear hm3 hR3 hb3)
        | (at_builtin; refine wpList_append_RowB _ rfl (.tmp 37) (.tmp 38) 94 9 rfl (From w2.heap.size) 5 i0 Try.underlying94 Try.underlying9 hi hz0 hz1 hz2 a3 m3 c3 (ofL (x :: y :: itemsL (l.take j)) ++ ofL [u, v]) s rfl (by rw [H3.out.1, HB.out.1, ByteArray.size_append]) rfl H3.out.2.1 (by rw [ByteArray.size_append, es]; have := HI.out.2.2; omega) H3.out.2.2.2 ?_; intro a4 m4 c4 w4 hm4 hR4 hb4; have H4 : Hid (m4 = m3 + s.size ∧ RowB w4 (From w2.heap.size) a4 (ofL (x :: y :: itemsL (l.take j)) ++ ofL [u, v] ++ s) c4 ∧ Off (From w2.heap.size) wr w4) := ⟨hm4, hR4, H3.out.2.2.1.trans hb4⟩; clear hm4 hR4 hb4))
      have HN : Hid (ofL (x :: y :: itemsL (l.take j)) ++ ofL [u, v] ++ s = ofL (x :: y :: itemsL (l.take (j + 1)))) := by
        rw [itemsL_take_succ hjl, ← HI.out.1, HI.out.2.1]
        apply ba_ext
        rw [ba_append, ba_append, ofL_data, ofL_data, ofL_data]
        simp
      go_roundw
      case rel =>
        have hR4 := H4.out.2.1
        rw [HN.out] at hR4
        have hm4 : m4 = (ofL (x :: y :: itemsL (l.take (j + 1)))).size := by rw [H4.out.1, H3.out.1, HB.out.1, ← HN.out, ByteArray.size_append, ByteArray.size_append]
        have hB4 : Below w2.heap.size w2 w4 := HB.out.2.2.trans ⟨H4.out.2.2.os, H4.out.2.2.tape, H4.out.2.2.output, H4.out.2.2.size, fun k' hk' => H4.out.2.2.block k' (not_from hk')⟩
        first | exact ⟨j + 1, m4, c4, a4, hlt, by go_num, rfl, hm4, hR4, hB4⟩ | ((repeat apply Exists.intro); exact ⟨⟨j + 1, m4, c4, a4, hlt, by go_num, rfl, hm4, hR4, hB4⟩, rfl⟩)
      case measure => simp [intOf]; omega
    · obtain rfl : j = n := by omega
      have hnl : ¬ ((j : Int) < (j : Int)) := Int.lt_irrefl _
      have et : l.take j = l := by rw [HL.out]; exact List.take_of_length_le (Nat.le_refl _)
      rw [et, ← HP.out] at hm hR
      rw [hm]
      have hcv := run_string_RowB (P := Try.prog) wr (From w2.heap.size) 94 5 9 Try.underlying94 Try.underlying5 Try.underlying9 ao c _ hR
      have HB : Hid (Below w2.heap.size w2 wr) := hB
      clear hm hR hB et hlt hj
      go_wp2_with fail
      refine HKr.out _ _ ?_
      clear HKr
      go_wp2_with fail
      go_ret2
      exact ⟨rfl, HB.out⟩
end Go.Proofs.Ytadcjdffjhiniaa
