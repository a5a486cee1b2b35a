/- The law CastFew: the walk. -/
import Derived.Test.YtdfadinpeeigkaaCaF
namespace Go.Proofs.Ytdfadinpeeigkaa
open Go Go.RowKit Go.Lib

/-- How many votes there are. -/
def toldN (l : List ByteArray) : Nat := l.countP (fun t => decide (t ≠ ⟨#[]⟩))
theorem told_take {l : List ByteArray} {i : Nat} {t : ByteArray} (h : l[i]? = some t) : toldN (l.take (i + 1)) = toldN (l.take i) + if t ≠ ⟨#[]⟩ then 1 else 0 := by
  rw [takeC h]; unfold toldN; rw [List.countP_append]; simp [List.countP_cons]
theorem toldN_le (l : List ByteArray) (i : Nat) : toldN (l.take i) ≤ i := Nat.le_trans List.countP_le_length (by rw [List.length_take]; omega)
theorem cs_told {l : List ByteArray} {s : ByteArray} (h : s ≠ ⟨#[]⟩) : cs l s ≤ toldN l := List.countP_mono_left fun t _ ht => by
  rw [decide_eq_true_eq] at ht ⊢
  rw [ht]; exact h
/-- None of the first i is another one that more than f told, if none was counted. -/
def OI (f : Nat) (l : List ByteArray) (c : ByteArray) (i k : Nat) : Prop := k ≤ i ∧ (k = 0 → ∀ (j : Nat) (t : ByteArray), j < i → l[j]? = some t → t ≠ ⟨#[]⟩ → t ≠ c → cs l t ≤ f)
theorem OI.skip {f : Nat} {l : List ByteArray} {c : ByteArray} {i k : Nat} {t : ByteArray} (h : OI f l c i k) (ht : l[i]? = some t) (hs : t ≠ ⟨#[]⟩ → t ≠ c → cs l t ≤ f) : OI f l c (i + 1) k :=
  ⟨by have := h.1; omega, fun hk j x hj hx h1 h2 => if e : j = i then by subst e; rw [ht] at hx; cases hx; exact hs h1 h2 else h.2 hk j x (by omega) hx h1 h2⟩
theorem few_ready {n f : Nat} {l : List ByteArray} {c : ByteArray} (hf : 3 * f < n) (h1 : pick (n - f) l = some c) (ho : OI f l c l.length 0) : pick (f + 1) l = some c := by
  obtain ⟨⟨hc, hn⟩, _⟩ := pick_some (by omega) h1
  refine pick_of (by omega) ⟨hc, by omega⟩ fun t ht => Classical.byContradiction fun q => ?_
  have hm : t ∈ l := cs_pos (by have := ht.2; omega)
  obtain ⟨j, hj, e⟩ := List.getElem_of_mem hm
  have := ho.2 rfl j t hj (by rw [← e]; exact List.getElem?_eq_getElem hj) ht.1 q
  have := ht.2
  omega
theorem castFew_no (n f : Int) (a : Option Addr) (m cap : Nat) (h : ¬ (TabOk n f ∧ (m : Int) = n)) (w : World) : Calls Try.prog 6 #[.int .i64 n, .int .i64 f, .slice a m cap] w fun e w' => e = .returned (.bool true) ∧ Below w.heap.size w w' := by
  unfold TabOk at h
  by_cases h1 : 1 ≤ n ∧ n ≤ 10 ∧ 0 ≤ f ∧ 3 * f < n
  · have HD : Hid (decide (1 ≤ n ∧ n ≤ 10 ∧ 0 ≤ f ∧ 3 * f < n) = true) := decide_eq_true h1
    have hm : ¬ ((m : Int) = n) := fun c => h ⟨h1, c⟩
    clear h h1
    go_enter Try.func6, Try.ntmps6
    go_wp2_with fail
    refine (crtable_any _ _ _).mono ?_
    rintro e w1 ⟨rfl, rfl⟩
    rw [HD.out]
    go_wp2_with fail
    refine (four_any _).mono ?_
    rintro e w2 ⟨rfl, hb⟩
    have HB : Hid _ := hb
    clear hb
    go_wp2_with fail
    go_ret
    exact ⟨rfl, HB.out⟩
  · have HD : Hid (decide (1 ≤ n ∧ n ≤ 10 ∧ 0 ≤ f ∧ 3 * f < n) = false) := decide_eq_false h1
    clear h h1
    go_enter Try.func6, Try.ntmps6
    go_wp2_with fail
    refine (crtable_any _ _ _).mono ?_
    rintro e w1 ⟨rfl, rfl⟩
    rw [HD.out]
    go_wp2_with fail
    refine (four_any _).mono ?_
    rintro e w2 ⟨rfl, hb⟩
    have HB : Hid _ := hb
    clear hb
    go_wp2_with fail
    go_ret
    exact ⟨rfl, HB.out⟩
set_option maxRecDepth 100000 in
set_option maxHeartbeats 8000000 in
theorem castFew_ok (n f : Nat) (a : Option Addr) (l : List ByteArray) (cap : Nat) (hV : VotesOk n f l) (w : World) (hS : Strs w a l) :
    Calls Try.prog 6 #[.int .i64 (n : Nat), .int .i64 (f : Nat), .slice a n cap] w fun e w' => e = .returned (.bool true) ∧ Below w.heap.size w w' := by
  have HD : Hid _ := hV.tab
  have HV : Hid (VotesOk n f l) := hV
  have HS : Hid (Strs w a l) := hS
  obtain ⟨P1, hP1⟩ : ∃ P1, P1 = pick (n - f) l := ⟨_, rfl⟩
  obtain ⟨P2, hP2⟩ : ∃ P2, P2 = pick (f + 1) l := ⟨_, rfl⟩
  have HP : Hid (P1 = pick (n - f) l ∧ P2 = pick (f + 1) l) := ⟨hP1, hP2⟩
  have K1 : Hid (∀ w', Strs w' a l → Calls Try.prog 8 #[.int .i64 (n : Nat), .int .i64 (f : Nat), .slice a n cap] w' fun e w'' => e = .returned (.tuple #[.string (pikS P1), .bool (pikB P1), .int .i64 0]) ∧ Below w'.heap.size w' w'') := fun w' h => by rw [hP1]; exact echoed_ok n f a l cap hV w' h
  have K2 : Hid (∀ w', Strs w' a l → Calls Try.prog 9 #[.int .i64 (n : Nat), .int .i64 (f : Nat), .slice a n cap] w' fun e w'' => e = .returned (.tuple #[.string (pikS P2), .bool (pikB P2), .int .i64 0]) ∧ Below w'.heap.size w' w'') := fun w' h => by rw [hP2]; exact ready_ok n f a l cap hV w' h
  have K3 : Hid (∀ w', Strs w' a l → Calls Try.prog 10 #[.int .i64 (n : Nat), .int .i64 (f : Nat), .slice a n cap] w' fun e w'' => e = .returned (.tuple #[.string (pikS P1), .bool (pikB P1), .int .i64 0]) ∧ Below w'.heap.size w' w'') := fun w' h => by rw [hP1]; exact sure_ok n f a l cap hV w' h
  have n10 : (n : Int) ≤ 10 := by have := hV.n10; omega
  have f10 : (f : Int) ≤ 10 := by have := hV.n10; have := hV.hf; omega
  obtain ⟨L, hL⟩ : ∃ L, L = n - f := ⟨_, rfl⟩
  have eL : (n : Int) - (f : Int) = (L : Int) := by have := hV.hf; omega
  have HL : Hid (L = n - f ∧ 1 ≤ L) := ⟨hL, by have := hV.hf; omega⟩
  clear hV hS hP1 hP2 hL
  go_enter Try.func6, Try.ntmps6
  go_wp2_with fail
  refine (crtable_any _ _ _).mono ?_
  rintro e w1 ⟨rfl, hw1⟩
  rw [HD.out]
  obtain rfl : w = w1 := hw1.symm
  clear hw1
  go_wp2_with fail
  rename_i Kr hKr
  have HKr : Hid _ := hKr
  clear hKr
  go_loopw [7, 35] (fun cv iv wr => ∃ i : Nat, i ≤ n ∧ iv = .int .i64 (i : Nat) ∧ cv = .int .i64 (toldN (l.take i) : Nat) ∧ w = wr) (fun _ iv _ => n - (Go.RowKit.intOf iv).toNat)
  case atStart => exact ⟨0, Nat.zero_le _, rfl, rfl, rfl⟩
  case round =>
    obtain ⟨i, hi, rfl, rfl, hwr⟩ := hrel
    subst hwr
    by_cases hlt : i < n
    · clear HKr
      have hil : i < l.length := by rw [← HV.out.len]; exact hlt
      have hlt' : (i : Int) < (n : Int) := by omega
      obtain ⟨p, o, ha, cp, pl⟩ := (show Strs w a l from HS.out).get hil
      subst ha
      obtain ⟨x, hx⟩ : ∃ x, x = (l[i]'hil) := ⟨_, rfl⟩
      rw [← hx] at cp
      have hx' : l[i]? = some x := by rw [hx]; exact List.getElem?_eq_getElem hil
      have b0 : ((toldN (l.take i) : Nat) : Int) ≤ 10 := by have := toldN_le l i; have := HV.out.n10; omega
      have HT : Hid _ := told_take hx'
      generalize toldN (l.take i) = c at *
      have HLT : Hid (i < n) := hlt
      clear hx hx' hil hi hlt pl
      by_cases hte : x = ⟨#[]⟩
      · have HE : Hid (toldN (l.take (i + 1)) = c) := by rw [HT.out, if_neg (fun q => q hte)]; exact rfl
        subst hte
        go_wp2_with fail
        go_roundw
        case rel => first | exact ⟨i + 1, HLT.out, by go_num, by (rw [HE.out]; try go_num), by first | rfl | trivial⟩ | ((repeat apply Exists.intro); exact ⟨⟨i + 1, HLT.out, by go_num, by (rw [HE.out]; try go_num), by first | rfl | trivial⟩, rfl⟩)
        case measure => have h1 := HLT.out; simp [Go.RowKit.intOf]; omega
      · obtain ⟨f1, f2, f3, f4⟩ := full_facts hte
        have HE : Hid (toldN (l.take (i + 1)) = c + 1) := by rw [HT.out, if_pos hte]; exact rfl
        clear hte
        go_wp2_with fail
        go_roundw
        case rel => first | exact ⟨i + 1, HLT.out, by go_num, by (rw [HE.out]; try go_num), by first | rfl | trivial⟩ | ((repeat apply Exists.intro); exact ⟨⟨i + 1, HLT.out, by go_num, by (rw [HE.out]; try go_num), by first | rfl | trivial⟩, rfl⟩)
        case measure => have h1 := HLT.out; simp [Go.RowKit.intOf]; omega
    · obtain rfl : i = n := by omega
      have hnl : ¬ ((i : Int) < (i : Int)) := Int.lt_irrefl _
      have ht : l.take i = l := List.take_of_length_le (by rw [← HV.out.len]; exact Nat.le_refl _)
      rw [ht]
      have t10 : ((toldN l : Nat) : Int) ≤ 10 := by have := toldN_le l i; rw [ht] at this; have := HV.out.n10; omega
      obtain ⟨N, hN⟩ : ∃ N, N = toldN l := ⟨_, rfl⟩
      rw [← hN] at t10 ⊢
      have HN : Hid (N = toldN l) := hN
      clear hlt hi ht hN
      go_wp2_with fail
      refine HKr.out _ _ ?_
      clear HKr
      go_wp2_with fail
      refine (K1.out _ HS.out).mono ?_
      rintro e w1 ⟨rfl, hb1⟩
      have H1 : Hid (Below w.heap.size w w1) := hb1
      clear hb1
      go_wp2_with fail
      refine (K2.out _ (HS.out.call H1.out)).mono ?_
      rintro e w2 ⟨rfl, hb2⟩
      have H2 : Hid (Below w.heap.size w w2) := below_call0 H1.out hb2
      clear hb2
      go_wp2_with fail
      refine (K3.out _ (HS.out.call H2.out)).mono ?_
      rintro e w3 ⟨rfl, hb3⟩
      have H3 : Hid (Below w.heap.size w w3) := below_call0 H2.out hb3
      have HS3 : Hid (Strs w3 a l) := HS.out.call H3.out
      clear hb3
      obtain ⟨c, hc⟩ : ∃ c, c = pikS P1 := ⟨_, rfl⟩
      have HCc : Hid (c = pikS P1) := hc
      obtain ⟨b1, hb1⟩ : ∃ b1, b1 = pikB P1 := ⟨_, rfl⟩
      have HB1 : Hid (b1 = pikB P1) := hb1
      rw [← hc, ← hb1]
      clear hc hb1
      go_wp2_with fail
      rename_i KrB hKrB
      have HKrB : Hid _ := hKrB
      clear hKrB
      go_loopw [19, 70] (fun cv iv wr => ∃ j k : Nat, j ≤ i ∧ iv = .int .i64 (j : Nat) ∧ cv = .int .i64 (k : Nat) ∧ OI f l c j k ∧ w3 = wr) (fun _ iv _ => i - (Go.RowKit.intOf iv).toNat)
      case atStart => exact ⟨0, 0, Nat.zero_le _, rfl, rfl, ⟨Nat.le_refl _, fun _ j t hj => absurd hj (by omega)⟩, rfl⟩
      case round =>
        obtain ⟨j, k, hj, rfl, rfl, hO, hwr⟩ := hrel
        subst hwr
        have HO : Hid (OI f l c j k) := hO
        by_cases hjl : j < i
        · clear HKrB
          have hil : j < l.length := by rw [← HV.out.len]; exact hjl
          have hjl' : (j : Int) < (i : Int) := by omega
          have HJL : Hid (j < i) := hjl
          have k10 : (k : Int) ≤ 10 := by have := hO.1; have := HV.out.n10; omega
          obtain ⟨t, ht⟩ : ∃ t, t = (l[j]'hil) := ⟨_, rfl⟩
          have HT : Hid (l[j]? = some t) := by rw [ht]; exact List.getElem?_eq_getElem hil
          have KC : Hid (∀ w', Strs w' a l → Calls Try.prog 16 #[.slice a i cap, .string t] w' fun e w'' => e = .returned (.int .i64 (cs l t : Nat)) ∧ w'' = w') := fun w' h => ccount_any a l i cap t HV.out.len (by have := HV.out.n10; omega) w' h
          obtain ⟨p, o, ha, cp, pl⟩ := (show Strs w3 a l from HS3.out).get hil
          rw [← ht] at cp
          have hc10 : ((cs l t : Nat) : Int) ≤ 10 := by have := cs_le l t; have := HV.out.n10; have := HV.out.len; omega
          subst ha
          clear hO hj hjl hil ht pl
          by_cases hte : t = ⟨#[]⟩
          · have HX : Hid (OI f l c (j + 1) k) := HO.out.skip HT.out (fun q => absurd hte q)
            subst hte
            go_wp2_with fail
            go_roundw
            case rel => first | exact ⟨j + 1, k, HJL.out, by go_num, rfl, HX.out, by first | rfl | trivial⟩ | ((repeat apply Exists.intro); exact ⟨⟨j + 1, k, HJL.out, by go_num, rfl, HX.out, by first | rfl | trivial⟩, rfl⟩)
            case measure => have h1 := HJL.out; simp [Go.RowKit.intOf]; omega
          · obtain ⟨f1, f2, f3, f4⟩ := full_facts hte
            clear hte
            by_cases htc : t = c
            · have HX : Hid (OI f l c (j + 1) k) := HO.out.skip HT.out (fun _ q => absurd htc q)
              have q1 : (t.toList == c.toList) = true := by rw [htc]; simp only [BEq.rfl]
              have q2 : (t.toList != c.toList) = false := by rw [bne, q1]; rfl
              clear htc
              go_wp2_with fail
              go_roundw
              case rel => first | exact ⟨j + 1, k, HJL.out, by go_num, rfl, HX.out, by first | rfl | trivial⟩ | ((repeat apply Exists.intro); exact ⟨⟨j + 1, k, HJL.out, by go_num, rfl, HX.out, by first | rfl | trivial⟩, rfl⟩)
              case measure => have h1 := HJL.out; simp [Go.RowKit.intOf]; omega
            · have q1 : (t.toList == c.toList) = false := toList_neC htc
              have q2 : (t.toList != c.toList) = true := by rw [bne, q1]; rfl
              clear htc
              by_cases hcf : f < cs l t
              · have g1 : ((f : Nat) : Int) < ((cs l t : Nat) : Int) := by omega
                have HX : Hid (OI f l c (j + 1) (k + 1)) := ⟨by have := HO.out.1; omega, fun q => absurd q (by omega)⟩
                clear hcf
                generalize cs l t = C at *
                go_wp2_with fail
                refine (KC.out _ HS3.out).mono ?_
                rintro e w6 ⟨rfl, hw6⟩
                obtain rfl : w3 = w6 := hw6.symm
                go_wp2_with fail
                go_roundw
                case rel => first | exact ⟨j + 1, k + 1, HJL.out, by go_num, by go_num, HX.out, by first | rfl | trivial⟩ | ((repeat apply Exists.intro); exact ⟨⟨j + 1, k + 1, HJL.out, by go_num, by go_num, HX.out, by first | rfl | trivial⟩, rfl⟩)
                case measure => have h1 := HJL.out; simp [Go.RowKit.intOf]; omega
              · have g1 : ¬ (((f : Nat) : Int) < ((cs l t : Nat) : Int)) := by omega
                have HX : Hid (OI f l c (j + 1) k) := HO.out.skip HT.out (fun _ _ => by omega)
                clear hcf
                generalize cs l t = C at *
                go_wp2_with fail
                refine (KC.out _ HS3.out).mono ?_
                rintro e w6 ⟨rfl, hw6⟩
                obtain rfl : w3 = w6 := hw6.symm
                go_wp2_with fail
                go_roundw
                case rel => first | exact ⟨j + 1, k, HJL.out, by go_num, rfl, HX.out, by first | rfl | trivial⟩ | ((repeat apply Exists.intro); exact ⟨⟨j + 1, k, HJL.out, by go_num, rfl, HX.out, by first | rfl | trivial⟩, rfl⟩)
                case measure => have h1 := HJL.out; simp [Go.RowKit.intOf]; omega
        · obtain rfl : j = i := by omega
          have hnl : ¬ ((j : Int) < (j : Int)) := Int.lt_irrefl _
          have k10 : (k : Int) ≤ 10 := by have := hO.1; have := HV.out.n10; omega
          clear hjl hj hO
          have HF : Hid (∀ s, P1 = some s → L ≤ N) := fun s e => by
            have h := (pick_some (by have := HL.out; omega) (HP.out.1.symm.trans e)).1
            have := cs_told (l := l) h.1
            rw [HN.out, HL.out.1]
            exact Nat.le_trans h.2 this
          have HG : Hid (∀ s, P2 = some s → N ≠ 0) := fun s e => by
            have h := (pick_some (by omega) (HP.out.2.symm.trans e)).1
            have h1 := cs_told (l := l) h.1
            have h2 := h.2
            rw [HN.out]
            omega
          have HR : Hid (∀ s, P1 = some s → k = 0 → P2 = some s) := fun s e hk => by
            rw [HP.out.2]
            refine few_ready HV.out.hf (HP.out.1.symm.trans e) ?_
            have h := HO.out
            rw [hk, HCc.out, e, HV.out.len] at h
            exact h
          cases P1 with
          | none =>
            obtain rfl : b1 = false := HB1.out
            by_cases hNL : N < L
            · have g1 : ((N : Nat) : Int) < ((L : Nat) : Int) := by omega
              clear hNL
              cases P2 with
              | none =>
                by_cases hN0 : N = 0
                · have gN : ((N : Nat) : Int) = 0 := by omega
                  have gN2 : (((N : Nat) : Int) == 0) = true := by simpa using gN
                  clear hN0
                  have HgN : Hid _ := gN
                  clear gN
                  simp only [pikB, pikS]
                  go_wp2_with fail
                  refine HKrB.out _ _ ?_
                  clear HKrB
                  go_wp2_with fail
                  refine (four_any _).mono ?_
                  rintro e w7 ⟨rfl, hb⟩
                  have HB : Hid (Below w.heap.size w w7) := below_call0 H3.out hb
                  clear hb
                  go_wp2_with fail
                  go_ret
                  exact ⟨rfl, HB.out⟩
                · have gN : ¬ ((N : Nat) : Int) = 0 := by omega
                  have gN2 : (((N : Nat) : Int) == 0) = false := by simpa using gN
                  clear hN0
                  simp only [pikB, pikS]
                  go_wp2_with fail
                  refine HKrB.out _ _ ?_
                  clear HKrB
                  go_wp2_with fail
                  refine (four_any _).mono ?_
                  rintro e w7 ⟨rfl, hb⟩
                  have HB : Hid (Below w.heap.size w w7) := below_call0 H3.out hb
                  clear hb
                  go_wp2_with fail
                  go_ret
                  exact ⟨rfl, HB.out⟩
              | some s2 =>
                simp only [pikB, pikS]
                have gN : ¬ (((N : Nat) : Int) = 0) := by have := HG.out s2 rfl; omega
                go_wp2_with fail
                refine HKrB.out _ _ ?_
                clear HKrB
                go_wp2_with fail
                refine (four_any _).mono ?_
                rintro e w7 ⟨rfl, hb⟩
                have HB : Hid (Below w.heap.size w w7) := below_call0 H3.out hb
                clear hb
                go_wp2_with fail
                go_ret
                exact ⟨rfl, HB.out⟩
            · have g1 : ¬ ((N : Nat) : Int) < ((L : Nat) : Int) := by omega
              clear hNL
              cases P2 with
              | none =>
                by_cases hN0 : N = 0
                · have gN : ((N : Nat) : Int) = 0 := by omega
                  have gN2 : (((N : Nat) : Int) == 0) = true := by simpa using gN
                  clear hN0
                  have HgN : Hid _ := gN
                  clear gN
                  simp only [pikB, pikS]
                  go_wp2_with fail
                  refine HKrB.out _ _ ?_
                  clear HKrB
                  go_wp2_with fail
                  refine (four_any _).mono ?_
                  rintro e w7 ⟨rfl, hb⟩
                  have HB : Hid (Below w.heap.size w w7) := below_call0 H3.out hb
                  clear hb
                  go_wp2_with fail
                  go_ret
                  exact ⟨rfl, HB.out⟩
                · have gN : ¬ ((N : Nat) : Int) = 0 := by omega
                  have gN2 : (((N : Nat) : Int) == 0) = false := by simpa using gN
                  clear hN0
                  simp only [pikB, pikS]
                  go_wp2_with fail
                  refine HKrB.out _ _ ?_
                  clear HKrB
                  go_wp2_with fail
                  refine (four_any _).mono ?_
                  rintro e w7 ⟨rfl, hb⟩
                  have HB : Hid (Below w.heap.size w w7) := below_call0 H3.out hb
                  clear hb
                  go_wp2_with fail
                  go_ret
                  exact ⟨rfl, HB.out⟩
              | some s2 =>
                simp only [pikB, pikS]
                have gN : ¬ (((N : Nat) : Int) = 0) := by have := HG.out s2 rfl; omega
                go_wp2_with fail
                refine HKrB.out _ _ ?_
                clear HKrB
                go_wp2_with fail
                refine (four_any _).mono ?_
                rintro e w7 ⟨rfl, hb⟩
                have HB : Hid (Below w.heap.size w w7) := below_call0 H3.out hb
                clear hb
                go_wp2_with fail
                go_ret
                exact ⟨rfl, HB.out⟩
          | some s1 =>
            obtain rfl : b1 = true := HB1.out
            obtain rfl : c = s1 := HCc.out
            have g1 : ¬ (((N : Nat) : Int) < ((L : Nat) : Int)) := by have := HF.out c rfl; omega
            have gN : ¬ (((N : Nat) : Int) = 0) := by have := HF.out c rfl; have := HL.out.2; omega
            by_cases hk0 : k = 0
            · have h2 := HR.out c rfl hk0
              subst h2
              have gk : ¬ ((0 : Int) < (k : Int)) := by omega
              have qa : (c.toList == c.toList) = true := by simp only [BEq.rfl]
              clear hk0
              simp only [pikB, pikS]
              go_wp2_with fail
              refine HKrB.out _ _ ?_
              clear HKrB
              go_wp2_with fail
              refine (four_any _).mono ?_
              rintro e w7 ⟨rfl, hb⟩
              have HB : Hid (Below w.heap.size w w7) := below_call0 H3.out hb
              clear hb
              go_wp2_with fail
              go_ret
              exact ⟨rfl, HB.out⟩
            · have gk : (0 : Int) < (k : Int) := by omega
              clear hk0
              cases P2 with
              | none =>
                simp only [pikB, pikS]
                go_wp2_with fail
                refine HKrB.out _ _ ?_
                clear HKrB
                go_wp2_with fail
                refine (four_any _).mono ?_
                rintro e w7 ⟨rfl, hb⟩
                have HB : Hid (Below w.heap.size w w7) := below_call0 H3.out hb
                clear hb
                go_wp2_with fail
                go_ret
                exact ⟨rfl, HB.out⟩
              | some s2 =>
                simp only [pikB, pikS]
                go_wp2_with fail
                refine HKrB.out _ _ ?_
                clear HKrB
                go_wp2_with fail
                refine (four_any _).mono ?_
                rintro e w7 ⟨rfl, hb⟩
                have HB : Hid (Below w.heap.size w w7) := below_call0 H3.out hb
                clear hb
                go_wp2_with fail
                go_ret
                exact ⟨rfl, HB.out⟩
theorem castFew_any (n f : Int) (a : Option Addr) (l : List ByteArray) (cap : Nat) (hz : ∀ s ∈ l, s.size < 140737488351233) (w : World) (hS : Strs w a l) :
    Calls Try.prog 6 #[.int .i64 n, .int .i64 f, .slice a l.length cap] w fun e w' => e = .returned (.bool true) ∧ Below w.heap.size w w' := by
  by_cases h : TabOk n f ∧ (l.length : Int) = n
  · obtain ⟨ht, hl⟩ := h
    unfold TabOk at ht
    obtain ⟨N, rfl⟩ : ∃ N : Nat, n = N := ⟨n.toNat, by omega⟩
    obtain ⟨F, rfl⟩ : ∃ F : Nat, f = F := ⟨f.toNat, by omega⟩
    obtain rfl : N = l.length := by omega
    exact castFew_ok _ F a l cap ⟨by omega, by omega, by omega, rfl, hz⟩ w hS
  · exact castFew_no n f a _ cap h w
end Go.Proofs.Ytdfadinpeeigkaa
