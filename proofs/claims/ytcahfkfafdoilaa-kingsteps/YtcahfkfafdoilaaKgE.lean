/- Package king: Hear; a node alone; the law KingNil. -/
import Derived.Test.YtcahfkfafdoilaaKgD
namespace Go.Proofs.Ytcahfkfafdoilaa
open Go Go.RowKit Go.Lib

theorem khear_nil (v : Value) (w : World) : Calls Try.prog 15 #[.pointer none, v] w fun e w' => e = .returned (.int .i64 7) ∧ w' = w := by
  go_enter Try.func15, Try.ntmps15
  go_wp2_with fail
  refine (kgoes_nil _).mono ?_
  rintro e w1 ⟨rfl, rfl⟩
  go_wp2_with fail
  go_ret
  exact ⟨rfl, rfl⟩
theorem khear_state (g : Nat) (x : Kn) (v : Value) (w : World) (h : NodeAt w g x) (hr : ¬ x.r < 3 * (x.f + 1)) : Calls Try.prog 15 #[.pointer (some ⟨g, 0, none⟩), v] w fun e w' => e = .returned (.int .i64 7) ∧ w' = w := by
  have H : Hid (NodeAt w g x) := h
  have HD : Hid (decide (x.r < 3 * (x.f + 1)) = false) := decide_eq_false hr
  clear h hr
  go_enter Try.func15, Try.ntmps15
  go_wp2_with fail
  refine (kgoes_in g x _ H.out).mono ?_
  rintro e w1 ⟨rfl, rfl⟩
  rw [HD.out]
  go_wp2_with fail
  go_ret
  exact ⟨rfl, rfl⟩
theorem khear_arg (g : Nat) (x : Kn) (a : Option Addr) (n cap : Nat) (w : World) (h : NodeAt w g x) (hr : x.r < 3 * (x.f + 1)) (hn : n ≠ x.n) : Calls Try.prog 15 #[.pointer (some ⟨g, 0, none⟩), .slice a n cap] w fun e w' => e = .returned (.int .i64 1) ∧ w' = w := by
  have H : Hid (NodeAt w g x) := h
  have c0 := h.c0
  have HD : Hid (decide (x.r < 3 * (x.f + 1)) = true) := decide_eq_true hr
  have hn' : ¬ ((n : Int) = (x.n : Int)) := by omega
  clear h hr hn
  go_enter Try.func15, Try.ntmps15
  go_wp2_with fail
  refine (kgoes_in g x _ H.out).mono ?_
  rintro e w1 ⟨rfl, rfl⟩
  rw [HD.out]
  go_wp2_with fail
  go_ret
  exact ⟨rfl, rfl⟩
theorem cnt3_cnt (l : List Int) {k : Nat} (hk : k ≤ 2) : cnt3 (cnt l 0) (cnt l 1) (cnt l 2) k = cnt l k := by
  have : k = 0 ∨ k = 1 ∨ k = 2 := by omega
  rcases this with rfl | rfl | rfl <;> rfl
theorem IntsAt.drew {w : World} {a : Option Addr} {l : List Int} (h : IntsAt w a l) : IntsAt w.drew a l := h
set_option maxHeartbeats 4000000 in
theorem khear_ok (g : Nat) (x : Kn) (a : Option Addr) (l : List Int) (n cap : Nat) (hn : n = l.length) (w : World) (h : NodeAt w g x) (hr : x.r < 3 * (x.f + 1)) (hl : l.length = x.n) (hI : IntsAt w a l) :
    Calls Try.prog 15 #[.pointer (some ⟨g, 0, none⟩), .slice a n cap] w fun e w' => e = .returned (.int .i64 0) ∧ NodeAt w' g (stepK x l) ∧ But g (From w.heap.size) w w' := by
  have H : Hid (NodeAt w g x) := h
  have HI : Hid (IntsAt w a l) := hI
  have c0 := h.c0
  have c3 := h.c3
  have HD : Hid (decide (x.r < 3 * (x.f + 1)) = true) := decide_eq_true hr
  have HR : Hid (x.r < 3 * (x.f + 1)) := hr
  have hn' : (n : Int) = (x.n : Int) := by omega
  have l10 : l.length ≤ 10 := by have := h.ok.n10; omega
  have HL : Hid (l.length = x.n ∧ l.length ≤ 10) := ⟨hl, l10⟩
  have KC : Hid (∀ w, IntsAt w a l → Calls Try.prog 27 #[.slice a n cap] w fun e w' => e = .returned (.agg #[.int .i64 (cnt l 0 : Nat), .int .i64 (cnt l 1 : Nat), .int .i64 (cnt l 2 : Nat)]) ∧ Below w.heap.size w w') := fun w hI => by rw [hn]; exact kcount_any a l cap l10 w hI
  have b0 : cnt l 0 ≤ 10 := Nat.le_trans (cnt_le _ _) l10
  have b1 : cnt l 1 ≤ 10 := Nat.le_trans (cnt_le _ _) l10
  have b2 : cnt l 2 ≤ 10 := Nat.le_trans (cnt_le _ _) l10
  have HB : Hid (_ ∧ _ ∧ _) := ⟨b0, b1, b2⟩
  have r12 : (x.r : Int) ≤ 100 := by have := h.ok.hf; have := h.ok.n10; omega
  have m3 : ((x.r : Nat) : Int).tmod 3 = ((x.r % 3 : Nat) : Int) := rfl
  have d3 : ((x.r : Nat) : Int).tdiv 3 = ((x.r / 3 : Nat) : Int) := rfl
  have hcase : x.r % 3 = 0 ∨ x.r % 3 = 1 ∨ x.r % 3 = 2 := by omega
  have hk : x.r / 3 < n := by have := h.ok.hf; omega
  obtain ⟨M, hM⟩ : ∃ M, M = x.r % 3 := ⟨_, rfl⟩
  obtain ⟨k, hkk⟩ : ∃ k, k = x.r / 3 := ⟨_, rfl⟩
  rw [← hM] at m3 hcase
  rw [← hkk] at d3 hk
  have HM : Hid (M = x.r % 3) := hM
  have HK : Hid (k = x.r / 3) := hkk
  obtain ⟨pp, oo, ha, ck, pl⟩ := hI.get (k := k) (by omega)
  obtain ⟨y, hy⟩ : ∃ y, y = (l[k]'(by omega)) := ⟨_, rfl⟩
  rw [← hy] at ck
  have HY : Hid (l.getD (x.r / 3) 2 = y) := by rw [← hkk, hy, List.getD_eq_getElem?_getD, List.getElem?_eq_getElem (by omega)]; rfl
  subst ha
  have HH : Hid (hw y ≤ 2) := hw_le y
  have hk0 : (0 : Int) ≤ (k : Int) := by omega
  have hk1 : (k : Int) < (n : Int) := by omega
  have k100 : (k : Int) ≤ 100 := by omega
  clear h hr hl l10 b0 b1 b2 hM hkk hy hI hn hk pl
  rcases hcase with rfl | rfl | rfl
  · have HS : Hid (stepK x l = firstK x l) := if_pos HM.out.symm
    go_enter Try.func15, Try.ntmps15
    go_wp2_with fail
    refine (kgoes_in g x _ H.out).mono ?_
    rintro e w1 ⟨rfl, rfl⟩
    rw [HD.out]
    go_wp2_with fail
    refine (KC.out _ HI.out).mono ?_
    rintro e w2 ⟨rfl, hb2⟩
    have H2 : Hid _ := hb2
    clear hb2
    go_wp2_with fail
    refine (kfirst_in g x _ _ _ HB.out.1 HB.out.2.1 _ ((show NodeAt w1 g x from H.out).call H2.out)).mono ?_
    rintro e w3 ⟨rfl, hN, hU⟩
    have H3 : Hid (_ ∧ _) := ⟨hN, hU⟩
    have c3' : w3.cell? ⟨g, 3, none⟩ = some (.int .i64 (x.r : Nat)) := hN.c3
    have f3 := hN.fz 3
    clear hN hU c3
    go_wp2_with fail
    go_ret
    rw [HS.out]
    exact ⟨rfl, by have := H3.out.1.setr (r := x.r + 1) HR.out; exact this, (((But.of_below H2.out)).trans (H3.out.2.mono fun k hk => Nat.le_trans H2.out.size hk)).set _⟩
  · have HS : Hid (stepK x l = secondK x l) := (if_neg (by rw [← HM.out]; decide)).trans (if_pos HM.out.symm)
    have HV : Hid (secondV x.f (cnt l 0) (cnt l 1) (cnt l 2) x.v ≤ 2) := secondV_le (show NodeAt w g x from H.out).ok.hv
    go_enter Try.func15, Try.ntmps15
    go_wp2_with fail
    refine (kgoes_in g x _ H.out).mono ?_
    rintro e w1 ⟨rfl, rfl⟩
    rw [HD.out]
    go_wp2_with fail
    refine (KC.out _ HI.out).mono ?_
    rintro e w2 ⟨rfl, hb2⟩
    have H2 : Hid _ := hb2
    clear hb2
    go_wp2_with fail
    refine (ksecond_in g x _ _ _ HB.out.1 HB.out.2.1 HB.out.2.2 _ ((show NodeAt w1 g x from H.out).call H2.out)).mono ?_
    rintro e w3 ⟨rfl, hN, hU⟩
    have H3 : Hid (_ ∧ _) := ⟨hN, hU⟩
    have c3' : w3.cell? ⟨g, 3, none⟩ = some (.int .i64 (x.r : Nat)) := hN.c3
    have f3 := hN.fz 3
    clear hN hU c3
    go_wp2_with fail
    go_ret
    rw [HS.out]
    exact ⟨rfl, by have := H3.out.1.setr (r := x.r + 1) HR.out; rw [cnt3_cnt l HV.out] at this; exact this, (((But.of_below H2.out)).trans (H3.out.2.mono fun k hk => Nat.le_trans H2.out.size hk)).set _⟩
  · have HS : Hid (stepK x l = thirdK x l) := (if_neg (by rw [← HM.out]; decide)).trans (if_neg (by rw [← HM.out]; decide))
    go_enter Try.func15, Try.ntmps15
    go_wp2_with fail
    refine (kgoes_in g x _ H.out).mono ?_
    rintro e w1 ⟨rfl, rfl⟩
    rw [HD.out]
    go_wp2_with fail
    refine (kheard_any y _).mono ?_
    rintro e w2 ⟨rfl, rfl⟩
    go_wp2_with fail
    refine (kthird_in g x _ HH.out _ H.out).mono ?_
    rintro e w3 ⟨rfl, hN, hU⟩
    have H3 : Hid (_ ∧ _) := ⟨hN, hU⟩
    have c3' : w3.cell? ⟨g, 3, none⟩ = some (.int .i64 (x.r : Nat)) := hN.c3
    have f3 := hN.fz 3
    clear hN hU c3
    go_wp2_with fail
    go_ret
    rw [HS.out]
    exact ⟨rfl, by have := H3.out.1.setr (r := x.r + 1) HR.out; unfold thirdK; rw [HY.out]; exact this, H3.out.2.set _⟩
end Go.Proofs.Ytcahfkfafdoilaa
