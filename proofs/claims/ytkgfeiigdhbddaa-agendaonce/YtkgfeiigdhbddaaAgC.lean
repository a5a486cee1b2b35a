/- Package agenda: container/heap's up and down over a pile. -/
import Derived.Test.YtkgfeiigdhbddaaAgB1
import Derived.Test.YtkgfeiigdhbddaaAgB2
namespace Go.Proofs.Ytkgfeiigdhbddaa
open Go Go.RowKit Go.Lib
/-- A pile as a heap.Interface. -/
abbrev pif (g : Nat) : Value := .iface 68 (.pointer (some ⟨g, 0, none⟩))
theorem Off.below2 {Z : Nat → Prop} {w w' : World} (h : Below w.heap.size w w') (hZ : ∀ k, w.heap.size ≤ k → Z k) : Off Z w w' := Off.of_below h hZ
theorem off_new {Z : Nat → Prop} {w w' : World} (h : Off Z w w') (hZ : ∀ k, w.heap.size ≤ k → Z k) : ∀ k, w'.heap.size ≤ k → Z k := fun k hk => hZ k (Nat.le_trans h.size hk)
theorem meth_less (g : Nat) (w : World) : Sem.run Try.prog (method 200 68 (.pointer (some ⟨g, 0, none⟩)) "Less") w = .ok (53, .pointer (some ⟨g, 0, none⟩)) w := by kernel_rfl
theorem meth_swap (g : Nat) (w : World) : Sem.run Try.prog (method 200 68 (.pointer (some ⟨g, 0, none⟩)) "Swap") w = .ok (56, .pointer (some ⟨g, 0, none⟩)) w := by kernel_rfl
theorem meth_len (g : Nat) (w : World) : Sem.run Try.prog (method 200 68 (.pointer (some ⟨g, 0, none⟩)) "Len") w = .ok (22, .pointer (some ⟨g, 0, none⟩)) w := by kernel_rfl
theorem meth_push (g : Nat) (w : World) : Sem.run Try.prog (method 200 68 (.pointer (some ⟨g, 0, none⟩)) "Push") w = .ok (55, .pointer (some ⟨g, 0, none⟩)) w := by kernel_rfl
theorem meth_pop (g : Nat) (w : World) : Sem.run Try.prog (method 200 68 (.pointer (some ⟨g, 0, none⟩)) "Pop") w = .ok (54, .pointer (some ⟨g, 0, none⟩)) w := by kernel_rfl
set_option maxHeartbeats 2000000 in
theorem hup_in (g l q cap B N n j0 : Nat) (Z : Nat → Prop) (f0 : Nat → En) (p0 : Nat → Option Nat) (w : World) (hZ : ∀ k, w.heap.size ≤ k → Z k) (hP : PileI w Z g l q cap B N f0 p0) (hn : n ≤ N) (hj : j0 < n) (hu : UpI f0 n j0) : Calls Try.prog 34 #[pif g, .int .i64 (j0 : Nat)] w fun e w' => e = .returned (.tuple #[]) ∧ (∃ f p, PileI w' Z g l q cap B N f p ∧ Hp f n ∧ Pm n f0 f) ∧ Off Z w w' := by
  have HZ : Hid (∀ k, w.heap.size ≤ k → Z k) := hZ
  have HN : Hid (n ≤ N ∧ N ≤ 512) := ⟨hn, hP.nb⟩
  have H0 : Hid (PileI w Z g l q cap B N f0 p0 ∧ j0 < n ∧ UpI f0 n j0) := ⟨hP, hj, hu⟩
  clear hZ hP hn hj hu
  go_enter Try.func34, Try.ntmps34
  go_wp2_with fail
  go_loopw [1] (fun jv wr => ∃ (j : Nat) (f : Nat → En) (p : Nat → Option Nat), jv = .int .i64 (j : Nat) ∧ j < n ∧ PileI wr Z g l q cap B N f p ∧ UpI f n j ∧ Pm n f0 f ∧ Off Z w wr) (fun jv _ => (Go.RowKit.intOf jv).toNat)
  case atStart => exact ⟨j0, f0, p0, rfl, H0.out.2.1, H0.out.1, H0.out.2.2, Pm.refl _ _, Off.refl _ _⟩
  case round =>
    obtain ⟨j, f, p, rfl, hj, hP, hU, hM, hO⟩ := hrel
    rename World => wr
    have HR : Hid (j < n ∧ PileI wr Z g l q cap B N f p ∧ UpI f n j ∧ Pm n f0 f ∧ Off Z w wr) := ⟨hj, hP, hU, hM, hO⟩
    have j5 : (j : Int) ≤ 512 := by have := HN.out; omega
    clear hj hP hU hM hO
    by_cases hj0 : j = 0
    · subst hj0
      go_wp2_with fail
      go_end0
      exact ⟨rfl, ⟨f, p, HR.out.2.1, up_zero HR.out.2.2.1, HR.out.2.2.2.1⟩, HR.out.2.2.2.2⟩
    · obtain ⟨i, hi⟩ : ∃ i, i = (j - 1) / 2 := ⟨_, rfl⟩
      have q1 : ((j : Int) - 1).tdiv 2 = (i : Int) := by rw [show ((j : Int) - 1) = ((j - 1 : Nat) : Int) from by omega, hi]; exact (Int.natCast_ediv (j - 1) 2 ▸ Int.tdiv_eq_ediv_of_nonneg (by omega))
      have q2 : ¬ ((i : Int) = (j : Int)) := by omega
      have q3 : ((i : Int) == (j : Int)) = false := by simpa using q2
      have i5 : (i : Int) ≤ 512 := by omega
      have hml := meth_less g
      have hms := meth_swap g
      have HI : Hid (i = (j - 1) / 2 ∧ 0 < j ∧ i < j ∧ i < N ∧ j < N) := ⟨hi, by omega, by omega, by have := HN.out; have := HR.out.1; omega, by have := HN.out; have := HR.out.1; omega⟩
      clear hi hj0
      go_wp2_with fail
      refine (pless_in g l q cap B N j i Z f p wr HR.out.2.1 HI.out.2.2.2.2 HI.out.2.2.2.1).mono ?_
      rintro e w1 ⟨rfl, hb1⟩
      have H1 : Hid (PileI w1 Z g l q cap B N f p ∧ Off Z w w1) := ⟨HR.out.2.1.call hb1, HR.out.2.2.2.2.trans (Off.of_below hb1 (off_new HR.out.2.2.2.2 HZ.out))⟩
      clear hb1
      by_cases hl : eLt (f j) (f i)
      · rw [decide_eq_true hl]
        have HL : Hid (eLt (f j) (f i)) := hl
        clear hl
        go_wp2_with fail
        refine (pswap_in g l q cap B N i j Z f p w1 H1.out.1 HI.out.2.2.2.1 HI.out.2.2.2.2).mono ?_
        rintro e w2 ⟨rfl, ⟨p2, hP2⟩, hO2⟩
        have H2 : Hid (i < n ∧ PileI w2 Z g l q cap B N (swF f i j) p2 ∧ UpI (swF f i j) n i ∧ Pm n f0 (swF f i j) ∧ Off Z w w2) := by
          have a := HI.out
          have b := HR.out
          have h3 := HL.out
          rw [a.1] at h3
          have u := up_step b.2.2.1 a.2.1 b.1 h3
          rw [← a.1] at u
          exact ⟨by omega, hP2, u, b.2.2.2.1.trans (Pm.sw n f (by omega) b.1), H1.out.2.trans hO2⟩
        clear hP2 hO2
        go_wp2_with fail
        go_roundw
        case rel => first | exact ⟨i, swF f i j, p2, rfl, H2.out⟩ | ((repeat apply Exists.intro); exact ⟨⟨i, swF f i j, p2, rfl, H2.out⟩, rfl⟩)
        case measure => have h1 := HI.out.2.2.1; simp [Go.RowKit.intOf]; omega
      · rw [decide_eq_false hl]
        have HL : Hid (¬ eLt (f j) (f i)) := hl
        clear hl
        go_wp2_with fail
        go_end0
        exact ⟨rfl, ⟨f, p, H1.out.1, up_done HR.out.2.2.1 (by rw [← HI.out.1]; exact HL.out), HR.out.2.2.2.1⟩, H1.out.2⟩
/-- What down answers. -/
def DnP (g l q cap B N n i0 : Nat) (Z : Nat → Prop) (f0 : Nat → En) (w : World) (e : Ending) (w' : World) : Prop := ∃ b f p, e = .returned (.bool b) ∧ PileI w' Z g l q cap B N f p ∧ Pm n f0 f ∧ ((b = true → Hp f n) ∧ (b = false → UpI f n i0)) ∧ Off Z w w'
theorem DnP.mk {g l q cap B N n i0 : Nat} {Z : Nat → Prop} {f0 : Nat → En} {w : World} {e : Ending} {w' : World} (h : ∃ b f p, e = .returned (.bool b) ∧ PileI w' Z g l q cap B N f p ∧ Pm n f0 f ∧ ((b = true → Hp f n) ∧ (b = false → UpI f n i0)) ∧ Off Z w w') : DnP g l q cap B N n i0 Z f0 w e w' := h
set_option maxHeartbeats 4000000 in
theorem hdown_in (g l q cap B N n i0 : Nat) (Z : Nat → Prop) (f0 : Nat → En) (p0 : Nat → Option Nat) (w : World) (hZ : ∀ k, w.heap.size ≤ k → Z k) (hP : PileI w Z g l q cap B N f0 p0) (hn : n ≤ N) (hi0 : i0 < N) (hu : DU f0 n i0) : Calls Try.prog 35 #[pif g, .int .i64 (i0 : Nat), .int .i64 (n : Nat)] w fun e w' => DnP g l q cap B N n i0 Z f0 w e w' := by
  have HZ : Hid (∀ k, w.heap.size ≤ k → Z k) := hZ
  have HN : Hid (n ≤ N ∧ N ≤ 512 ∧ i0 < N) := ⟨hn, hP.nb, hi0⟩
  have H0 : Hid (PileI w Z g l q cap B N f0 p0 ∧ DU f0 n i0) := ⟨hP, hu⟩
  have n5 : (n : Int) ≤ 512 := by have := hP.nb; omega
  clear hZ hP hn hu hi0
  go_enter Try.func35, Try.ntmps35
  go_wp2_with fail
  rename_i Kr hKr
  have HKr : Hid _ := hKr
  clear hKr
  go_loopw [7] (fun iv wr => ∃ (i : Nat) (f : Nat → En) (p : Nat → Option Nat), iv = .int .i64 (i : Nat) ∧ i ≤ 512 ∧ PileI wr Z g l q cap B N f p ∧ Pm n f0 f ∧ Off Z w wr ∧ (i = i0 ∧ DU f n i ∨ i0 < i ∧ i < n ∧ DnI f n i)) (fun iv _ => 600 - (Go.RowKit.intOf iv).toNat)
  case atStart => exact ⟨i0, f0, p0, rfl, by have := HN.out; omega, H0.out.1, Pm.refl _ _, Off.refl _ _, .inl ⟨rfl, H0.out.2⟩⟩
  case round =>
    obtain ⟨i, f, p, rfl, hi5, hP, hM, hO, hd⟩ := hrel
    rename World => wr
    have HR : Hid (PileI wr Z g l q cap B N f p ∧ Pm n f0 f ∧ (i = i0 ∧ DU f n i ∨ i0 < i ∧ i < n ∧ DnI f n i)) := ⟨hP, hM, hd⟩
    have H1 : Hid (PileI wr Z g l q cap B N f p ∧ Off Z w wr) := ⟨hP, hO⟩
    have i5 : (i : Int) ≤ 512 := by omega
    have HU : Hid (DU f n i) := hd.elim (fun h => h.2) (fun h => h.2.2.du)
    clear hi5 hP hM hO hd
    obtain ⟨j1, hj1⟩ : ∃ j1, j1 = 2 * i + 1 := ⟨_, rfl⟩
    have q1 : 2 * (i : Int) + 1 = (j1 : Int) := by omega
    have q1b : ((j1 : Nat) : Int) ≤ 1100 := by omega
    by_cases hc : n ≤ j1
    · have q2 : (n : Int) ≤ (j1 : Int) := by omega
      have q3 : decide ((n : Int) ≤ (j1 : Int)) = true := decide_eq_true q2
      have HK : Hid (Kids f n i) := kids_none (by omega)
      clear hc hj1
      go_wp2_with fail
      refine HKr.out _ _ ?_
      clear HKr
      rcases HR.out.2.2 with ⟨hi, hd⟩ | ⟨hi, hd⟩
      · obtain rfl : i = i0 := hi
        have z1 : ¬ ((i : Int) < (i : Int)) := Int.lt_irrefl _
        have HDD : Hid _ := hd
        clear hd
        go_wp2_with fail
        go_ret
        exact DnP.mk ⟨false, f, p, rfl, H1.out.1, HR.out.2.1, ⟨fun c => (by cases c), fun _ => du_done HDD.out HK.out⟩, H1.out.2⟩
      · have z1 : (i0 : Int) < (i : Int) := by omega
        have HDD : Hid _ := hd
        clear hd hi
        go_wp2_with fail
        go_ret
        exact DnP.mk ⟨true, f, p, rfl, H1.out.1, HR.out.2.1, ⟨fun _ => dn_done HDD.out.2 HK.out, fun c => (by cases c)⟩, H1.out.2⟩
    · have q2 : ¬ ((n : Int) ≤ (j1 : Int)) := by omega
      have q3 : decide ((n : Int) ≤ (j1 : Int)) = false := decide_eq_false q2
      have q4 : decide ((j1 : Int) < 0) = false := decide_eq_false (by omega)
      have hml := meth_less g
      have hms := meth_swap g
      obtain ⟨j2, hj2⟩ : ∃ j2, j2 = j1 + 1 := ⟨_, rfl⟩
      have q5 : (j1 : Int) + 1 = (j2 : Int) := by omega
      have q5b : (j2 : Int) ≤ 1100 := by omega
      have HJ : Hid (j1 = 2 * i + 1 ∧ j2 = 2 * i + 2 ∧ j1 < n) := ⟨hj1, by omega, by omega⟩
      have HI : Hid (i < n ∧ j1 < n ∧ DU f n i) := ⟨by omega, by omega, HU.out⟩
      have HI0 : Hid (i0 ≤ i) := HR.out.2.2.elim (fun h => Nat.le_of_eq h.1.symm) (fun h => Nat.le_of_lt h.1)
      have HF1 : Hid (j1 < N) := by have := HN.out; exact (by omega : j1 < N)
      clear hc hj1 hj2
      by_cases hc2 : j2 < n
      · have q6 : (j2 : Int) < (n : Int) := by omega
        have q7 : decide ((j2 : Int) < (n : Int)) = true := decide_eq_true q6
        have HF2 : Hid (j2 < N) := by have := HN.out; exact (by omega : j2 < N)
        have HC2 : Hid (j2 < n) := hc2
        clear hc2
        go_wp2_with fail
        refine (pless_in g l q cap B N j2 j1 Z f p wr H1.out.1 HF2.out HF1.out).mono ?_
        rintro e w4 ⟨rfl, hb4⟩
        have H4 : Hid (PileI w4 Z g l q cap B N f p ∧ Off Z w w4) := ⟨H1.out.1.call hb4, H1.out.2.trans (Off.of_below hb4 (off_new H1.out.2 HZ.out))⟩
        clear hb4 H1
        by_cases hl2 : eLt (f j2) (f j1)
        · rw [decide_eq_true hl2]
          have HCH : Hid (Child f n i j2) := by
            have a := HJ.out
            have b := HC2.out
            rw [a.1, a.2.1] at hl2
            rw [a.2.1] at b ⊢
            exact child_two b hl2
          clear hl2
          go_wp2_with fail
          refine (pless_in g l q cap B N j2 i Z f p w4 H4.out.1 HF2.out (by have := HI.out.1; have := HN.out; omega)).mono ?_
          rintro e w5 ⟨rfl, hb5⟩
          have H5 : Hid (PileI w5 Z g l q cap B N f p ∧ Off Z w w5) := ⟨H4.out.1.call hb5, H4.out.2.trans (Off.of_below hb5 (off_new H4.out.2 HZ.out))⟩
          clear hb5 H4
          by_cases hl : eLt (f j2) (f i)
          · rw [decide_eq_true hl]
            have HL : Hid (eLt (f j2) (f i)) := hl
            clear hl
            go_wp2_with fail
            refine (pswap_in g l q cap B N i j2 Z f p w5 H5.out.1 (by have := HI.out.1; have := HN.out; omega) HF2.out).mono ?_
            rintro e w6 ⟨rfl, ⟨p6, hP6⟩, hO6⟩
            have H6 : Hid (PileI w6 Z g l q cap B N (swF f i j2) p6 ∧ Pm n f0 (swF f i j2) ∧ Off Z w w6 ∧ (j2 = i0 ∧ DU (swF f i j2) n j2 ∨ i0 < j2 ∧ j2 < n ∧ DnI (swF f i j2) n j2)) := by
              have c := HCH.out
              have a := HI.out
              exact ⟨hP6, HR.out.2.1.trans (Pm.sw n f (by omega) c.2.1), H5.out.2.trans hO6, .inr ⟨by have := c.2.2.1; have := c.1; have := HI0.out; omega, c.2.1, dn_step a.2.2 c HL.out⟩⟩
            have HJ : Hid (j2 ≤ 512 ∧ i < j2) := ⟨by have := HF2.out; have := HN.out; omega, by have := HCH.out.2.2.1; have := HCH.out.1; omega⟩
            clear hP6 hO6
            go_wp2_with fail
            go_roundw
            case rel => first | exact ⟨j2, swF f i j2, p6, rfl, HJ.out.1, H6.out⟩ | ((repeat apply Exists.intro); exact ⟨⟨j2, swF f i j2, p6, rfl, HJ.out.1, H6.out⟩, rfl⟩)
            case measure => have h1 := HJ.out; simp [Go.RowKit.intOf]; omega
          · rw [decide_eq_false hl]
            have HK : Hid (Kids f n i) := kids_child HCH.out hl
            clear hl
            go_wp2_with fail
            refine HKr.out _ _ ?_
            clear HKr
            rcases HR.out.2.2 with ⟨hi, hd⟩ | ⟨hi, hd⟩
            · obtain rfl : i = i0 := hi
              have z1 : ¬ ((i : Int) < (i : Int)) := Int.lt_irrefl _
              have HDD : Hid _ := hd
              clear hd
              go_wp2_with fail
              go_ret
              exact DnP.mk ⟨false, f, p, rfl, H5.out.1, HR.out.2.1, ⟨fun c => (by cases c), fun _ => du_done HDD.out HK.out⟩, H5.out.2⟩
            · have z1 : (i0 : Int) < (i : Int) := by omega
              have HDD : Hid _ := hd
              clear hd hi
              go_wp2_with fail
              go_ret
              exact DnP.mk ⟨true, f, p, rfl, H5.out.1, HR.out.2.1, ⟨fun _ => dn_done HDD.out.2 HK.out, fun c => (by cases c)⟩, H5.out.2⟩
        · rw [decide_eq_false hl2]
          have HCH : Hid (Child f n i j1) := by
            have a := HJ.out
            rw [a.1, a.2.1] at hl2
            have b := a.2.2
            rw [a.1] at b ⊢
            exact child_one b (fun c => hl2 c.2)
          clear hl2
          go_wp2_with fail
          refine (pless_in g l q cap B N j1 i Z f p w4 H4.out.1 HF1.out (by have := HI.out.1; have := HN.out; omega)).mono ?_
          rintro e w5 ⟨rfl, hb5⟩
          have H5 : Hid (PileI w5 Z g l q cap B N f p ∧ Off Z w w5) := ⟨H4.out.1.call hb5, H4.out.2.trans (Off.of_below hb5 (off_new H4.out.2 HZ.out))⟩
          clear hb5 H4
          by_cases hl : eLt (f j1) (f i)
          · rw [decide_eq_true hl]
            have HL : Hid (eLt (f j1) (f i)) := hl
            clear hl
            go_wp2_with fail
            refine (pswap_in g l q cap B N i j1 Z f p w5 H5.out.1 (by have := HI.out.1; have := HN.out; omega) HF1.out).mono ?_
            rintro e w6 ⟨rfl, ⟨p6, hP6⟩, hO6⟩
            have H6 : Hid (PileI w6 Z g l q cap B N (swF f i j1) p6 ∧ Pm n f0 (swF f i j1) ∧ Off Z w w6 ∧ (j1 = i0 ∧ DU (swF f i j1) n j1 ∨ i0 < j1 ∧ j1 < n ∧ DnI (swF f i j1) n j1)) := by
              have c := HCH.out
              have a := HI.out
              exact ⟨hP6, HR.out.2.1.trans (Pm.sw n f (by omega) c.2.1), H5.out.2.trans hO6, .inr ⟨by have := c.2.2.1; have := c.1; have := HI0.out; omega, c.2.1, dn_step a.2.2 c HL.out⟩⟩
            have HJ : Hid (j1 ≤ 512 ∧ i < j1) := ⟨by have := HF1.out; have := HN.out; omega, by have := HCH.out.2.2.1; have := HCH.out.1; omega⟩
            clear hP6 hO6
            go_wp2_with fail
            go_roundw
            case rel => first | exact ⟨j1, swF f i j1, p6, rfl, HJ.out.1, H6.out⟩ | ((repeat apply Exists.intro); exact ⟨⟨j1, swF f i j1, p6, rfl, HJ.out.1, H6.out⟩, rfl⟩)
            case measure => have h1 := HJ.out; simp [Go.RowKit.intOf]; omega
          · rw [decide_eq_false hl]
            have HK : Hid (Kids f n i) := kids_child HCH.out hl
            clear hl
            go_wp2_with fail
            refine HKr.out _ _ ?_
            clear HKr
            rcases HR.out.2.2 with ⟨hi, hd⟩ | ⟨hi, hd⟩
            · obtain rfl : i = i0 := hi
              have z1 : ¬ ((i : Int) < (i : Int)) := Int.lt_irrefl _
              have HDD : Hid _ := hd
              clear hd
              go_wp2_with fail
              go_ret
              exact DnP.mk ⟨false, f, p, rfl, H5.out.1, HR.out.2.1, ⟨fun c => (by cases c), fun _ => du_done HDD.out HK.out⟩, H5.out.2⟩
            · have z1 : (i0 : Int) < (i : Int) := by omega
              have HDD : Hid _ := hd
              clear hd hi
              go_wp2_with fail
              go_ret
              exact DnP.mk ⟨true, f, p, rfl, H5.out.1, HR.out.2.1, ⟨fun _ => dn_done HDD.out.2 HK.out, fun c => (by cases c)⟩, H5.out.2⟩
      · have q6 : ¬ ((j2 : Int) < (n : Int)) := by omega
        have q7 : decide ((j2 : Int) < (n : Int)) = false := decide_eq_false q6
        have HCH : Hid (Child f n i j1) := by
          have a := HJ.out
          have b := a.2.2
          rw [a.1] at b ⊢
          exact child_one b (fun c => by have := c.1; omega)
        clear hc2
        go_wp2_with fail
        refine (pless_in g l q cap B N j1 i Z f p wr H1.out.1 HF1.out (by have := HI.out.1; have := HN.out; omega)).mono ?_
        rintro e w5 ⟨rfl, hb5⟩
        have H5 : Hid (PileI w5 Z g l q cap B N f p ∧ Off Z w w5) := ⟨H1.out.1.call hb5, H1.out.2.trans (Off.of_below hb5 (off_new H1.out.2 HZ.out))⟩
        clear hb5 H1
        by_cases hl : eLt (f j1) (f i)
        · rw [decide_eq_true hl]
          have HL : Hid (eLt (f j1) (f i)) := hl
          clear hl
          go_wp2_with fail
          refine (pswap_in g l q cap B N i j1 Z f p w5 H5.out.1 (by have := HI.out.1; have := HN.out; omega) HF1.out).mono ?_
          rintro e w6 ⟨rfl, ⟨p6, hP6⟩, hO6⟩
          have H6 : Hid (PileI w6 Z g l q cap B N (swF f i j1) p6 ∧ Pm n f0 (swF f i j1) ∧ Off Z w w6 ∧ (j1 = i0 ∧ DU (swF f i j1) n j1 ∨ i0 < j1 ∧ j1 < n ∧ DnI (swF f i j1) n j1)) := by
            have c := HCH.out
            have a := HI.out
            exact ⟨hP6, HR.out.2.1.trans (Pm.sw n f (by omega) c.2.1), H5.out.2.trans hO6, .inr ⟨by have := c.2.2.1; have := c.1; have := HI0.out; omega, c.2.1, dn_step a.2.2 c HL.out⟩⟩
          have HJ : Hid (j1 ≤ 512 ∧ i < j1) := ⟨by have := HF1.out; have := HN.out; omega, by have := HCH.out.2.2.1; have := HCH.out.1; omega⟩
          clear hP6 hO6
          go_wp2_with fail
          go_roundw
          case rel => first | exact ⟨j1, swF f i j1, p6, rfl, HJ.out.1, H6.out⟩ | ((repeat apply Exists.intro); exact ⟨⟨j1, swF f i j1, p6, rfl, HJ.out.1, H6.out⟩, rfl⟩)
          case measure => have h1 := HJ.out; simp [Go.RowKit.intOf]; omega
        · rw [decide_eq_false hl]
          have HK : Hid (Kids f n i) := kids_child HCH.out hl
          clear hl
          go_wp2_with fail
          refine HKr.out _ _ ?_
          clear HKr
          rcases HR.out.2.2 with ⟨hi, hd⟩ | ⟨hi, hd⟩
          · obtain rfl : i = i0 := hi
            have z1 : ¬ ((i : Int) < (i : Int)) := Int.lt_irrefl _
            have HDD : Hid _ := hd
            clear hd
            go_wp2_with fail
            go_ret
            exact DnP.mk ⟨false, f, p, rfl, H5.out.1, HR.out.2.1, ⟨fun c => (by cases c), fun _ => du_done HDD.out HK.out⟩, H5.out.2⟩
          · have z1 : (i0 : Int) < (i : Int) := by omega
            have HDD : Hid _ := hd
            clear hd hi
            go_wp2_with fail
            go_ret
            exact DnP.mk ⟨true, f, p, rfl, H5.out.1, HR.out.2.1, ⟨fun _ => dn_done HDD.out.2 HK.out, fun c => (by cases c)⟩, H5.out.2⟩
end Go.Proofs.Ytkgfeiigdhbddaa
