/- The law KingSteps. -/
import Derived.Test.YtcahfkfafdoilaaKgS
import Derived.Test.YtcahfkfafdoilaaKgT
import Derived.Test.YtcahfkfafdoilaaOpenK
import Derived.Test.YtcahfkfafdoilaaHeldR
namespace Go.Proofs.Ytcahfkfafdoilaa
open Go Go.RowKit Go.Lib

section
variable {P : Program} {ops : Array Oper} {Q : Exit → Act → World → Prop} {md : Region.Mode} {S S' : World → Prop} {n : Nat}
/-- Behind number n nothing is asked: the rest may be walked by another law. -/
theorem wpAnyN_of_H : ∀ (fuel : Nat) (listed : Array Bool) (a : Act) (w : World), listed.getD n true = true → wpAnyH P md ops Q S' fuel listed a w → wpAnyN P md ops Q S n fuel listed a w
  | 0, _, _, _, _, h => h
  | fuel + 1, listed, a, w, hn, h => ⟨h.1, fun i hi => wpOp_mono (fun a' w' h' => by
      have hn' : (listed.setIfInBounds i true).getD n true = true := by
        by_cases e : i = n
        · subst e
          by_cases hs : i < listed.size
          · simp [hs]
          · simp [Nat.not_lt.1 hs]
        · rw [getD_set_ne true e]; exact hn
      exact ⟨fun hx => (by rw [hn'] at hx; cases hx), wpAnyN_of_H fuel _ a' w' hn' h'.2⟩) (h.2 i hi)⟩
end
/-- What Hear answers, and the node behind it. -/
def hearE (x : Kn) (row : List Int) : Int := if x.r < 3 * (x.f + 1) then (if row.length = x.n then 0 else 1) else 7
def hearX (x : Kn) (row : List Int) : Kn := if x.r < 3 * (x.f + 1) ∧ row.length = x.n then stepK x row else x
theorem hear_code (g : Nat) (x : Kn) (a : Option Addr) (row : List Int) (cap : Nat) (w : World) (h : NodeAt w g x) (hI : IntsAt w a row) :
    Calls Try.prog 15 #[.pointer (some ⟨g, 0, none⟩), .slice a row.length cap] w fun e w' => e = .returned (.int .i64 (hearE x row)) ∧ NodeAt w' g (hearX x row) ∧ But g (From w.heap.size) w w' := by
  unfold hearE hearX
  by_cases h1 : x.r < 3 * (x.f + 1)
  · by_cases h2 : row.length = x.n
    · rw [if_pos h1, if_pos h2, if_pos ⟨h1, h2⟩]
      exact khear_ok g x a row _ cap rfl w h h1 h2 hI
    · rw [if_pos h1, if_neg h2, if_neg (fun c => h2 c.2)]
      exact (khear_arg g x a _ cap w h h1 h2).mono fun e w' ⟨q, q'⟩ => by subst q'; exact ⟨q, h, But.refl _ _ _⟩
  · rw [if_neg h1, if_neg (fun c => h1 c.1)]
    exact (khear_state g x _ w h h1).mono fun e w' ⟨q, q'⟩ => by subst q'; exact ⟨q, h, But.refl _ _ _⟩
theorem hear_ref (g : Nat) (x : Kn) (s b : Nat) (a : Option Addr) (row : List Int) (cap : Nat) (w : World) (h : RNode w g x s b) (hI : IntsAt w a row) (hg : ∀ p o, a = some ⟨p, o, none⟩ → 0 < row.length → p ≠ g) :
    Calls Try.prog 16 #[.pointer (some ⟨g, 0, none⟩), .slice a row.length cap] w fun e w' => e = .returned (.int .i64 (hearE x row)) ∧ (∃ b', RNode w' g (hearX x row) s b') ∧ But g (From w.heap.size) w w' := by
  unfold hearE hearX
  by_cases h1 : x.r < 3 * (x.f + 1)
  · by_cases h2 : row.length = x.n
    · rw [if_pos h1, if_pos h2, if_pos ⟨h1, h2⟩]
      exact rhear_ok g x s b a row _ cap rfl w h h1 h2 ⟨hI, fun p o e => hg p o e (by have := h.ok.n1; omega)⟩
    · rw [if_pos h1, if_neg h2, if_neg (fun c => h2 c.2)]
      exact (rhear_arg g x s b a _ cap w h h1 h2).mono fun e w' ⟨q, q'⟩ => ⟨q, ⟨b, h.call q'⟩, But.of_below q'⟩
  · rw [if_neg h1, if_neg (fun c => h1 c.1)]
    exact (rhear_state g x s b _ w h h1).mono fun e w' ⟨q, q'⟩ => ⟨q, ⟨b, h.call q'⟩, But.of_below q'⟩
theorem hearX_f (x : Kn) (row : List Int) : (hearX x row).f = x.f := by unfold hearX; split; exact stepK_f _ _; rfl
/-- Two nodes, of the code and of the reference, at their blocks. -/
def Two15 (w0 w : World) (g h : Nat) (x : Kn) (s : Nat) : Prop := NodeAt w g x ∧ (∃ b, RNode w h x s b) ∧ g ≠ h ∧ w0.heap.size ≤ g ∧ w0.heap.size ≤ h ∧ Below w0.heap.size w0 w
theorem Two15.call {w0 w w' : World} {g h : Nat} {x : Kn} {s : Nat} (H : Two15 w0 w g h x s) (hb : Below w.heap.size w w') : Two15 w0 w' g h x s := by
  obtain ⟨h1, ⟨b, h2⟩, h3, h4, h5, h6⟩ := H
  exact ⟨h1.call hb, ⟨b, h2.call hb⟩, h3, h4, h5, h6.trans (hb.mono h6.size)⟩
theorem Two15.drew {w0 w : World} {g h : Nat} {x : Kn} {s : Nat} (H : Two15 w0 w g h x s) : Two15 w0 w.drew g h x s := H.call (Below.drew (Below.refl _ _))
theorem kingSteps_no (N F S V : Int) (v1 : Value) (h : ¬ NewOk N F S V) (w : World) :
    Calls Try.prog 3 #[.agg #[.int .i64 N, .int .i64 F, .int .i64 S, .int .i64 V], v1] w fun e w' => e = .returned (.bool true) ∧ Below w.heap.size w w' := by
  have H : Hid _ := h
  clear h
  go_enter Try.func3, Try.ntmps3
  go_wp2_with fail
  refine (knew_no _ _ _ _ H.out _).mono ?_
  rintro e w1 ⟨rfl, rfl⟩
  go_wp2_with fail
  refine (rnew_no _ _ _ _ H.out _).mono ?_
  rintro e w2 ⟨rfl, rfl⟩
  go_wp2_with fail
  refine (kone_any _).mono ?_
  rintro e w3 ⟨rfl, hb⟩
  have HB : Hid (Below w.heap.size w w3) := below_call0 (below_alloc0 (Below.refl _ _) _) hb
  clear hb
  go_wp2_with fail
  go_ret
  exact ⟨rfl, HB.out⟩
theorem seat1_world {w w2 : World} {N F S V : Int} (h : w2 = w.alloc (.cells #[.int .i64 N, .int .i64 F, .int .i64 S, .int .i64 V] 23)) :
    w2.cell? ⟨w.heap.size, 0, none⟩ = some (.int .i64 N) ∧ w2.cell? ⟨w.heap.size, 1, none⟩ = some (.int .i64 F) ∧ w2.cell? ⟨w.heap.size, 2, none⟩ = some (.int .i64 S) ∧ w2.cell? ⟨w.heap.size, 3, none⟩ = some (.int .i64 V) ∧ w2.heap.size = w.heap.size + 1 ∧ Below w.heap.size w w2 := by
  have hb : Below w.heap.size w w2 := by rw [h]; exact below_alloc0 (Below.refl _ _) _
  refine ⟨?_, ?_, ?_, ?_, ?_, hb⟩ <;> (rw [h]; simp [go_sem])
set_option maxRecDepth 100000 in
set_option maxHeartbeats 16000000 in
theorem kingSteps_ok (n f s v : Nat) (a : Option Addr) (L : List (List Int)) (m cap : Nat) (hm : m = L.length) (h : NewOk n f s v) (w : World) (hL : IRows w a L) :
    Calls Try.prog 3 #[.agg #[.int .i64 (n : Nat), .int .i64 (f : Nat), .int .i64 (s : Nat), .int .i64 (v : Nat)], .slice a m cap] w fun e w' => e = .returned (.bool true) ∧ Below w.heap.size w w' := by
  have H : Hid (NewOk n f s v ∧ m = L.length) := ⟨h, hm⟩
  have HL : Hid (IRows w a L) := hL
  obtain ⟨w1, hw1⟩ : ∃ w1, w1 = w.alloc (.cells #[.int .i64 (n : Nat), .int .i64 (f : Nat), .int .i64 (s : Nat), .int .i64 (v : Nat)] 23) := ⟨_, rfl⟩
  obtain ⟨p0, p1, p2, p3, hz1, hB1⟩ := seat1_world hw1
  have HB1 : Hid (w1.heap.size = w.heap.size + 1 ∧ Below w.heap.size w w1) := ⟨hz1, hB1⟩
  have HP : Hid (_ ∧ _ ∧ _ ∧ _) := ⟨p0, p1, p2, p3⟩
  have HW1 : Hid (w1 = w.alloc (.cells #[.int .i64 (n : Nat), .int .i64 (f : Nat), .int .i64 (s : Nat), .int .i64 (v : Nat)] 23)) := hw1
  clear h hm hL hz1 hB1 p0 p1 p2 p3
  go_enter Try.func3, Try.ntmps3
  go_wp2_with fail
  rw [← hw1]
  refine (knew_ok n f s v H.out.1 _).mono ?_
  rintro e w2 ⟨rfl, hN2, hB2, hz2⟩
  have c0 := (hB2.cell (p := ⟨w.heap.size, 0, none⟩) (by have := HB1.out.1; show w.heap.size < _; omega)).trans HP.out.1
  have c1 := (hB2.cell (p := ⟨w.heap.size, 1, none⟩) (by have := HB1.out.1; show w.heap.size < _; omega)).trans HP.out.2.1
  have c2 := (hB2.cell (p := ⟨w.heap.size, 2, none⟩) (by have := HB1.out.1; show w.heap.size < _; omega)).trans HP.out.2.2.1
  have c3 := (hB2.cell (p := ⟨w.heap.size, 3, none⟩) (by have := HB1.out.1; show w.heap.size < _; omega)).trans HP.out.2.2.2
  obtain ⟨g, hg⟩ : ∃ g, g = w1.heap.size := ⟨_, rfl⟩
  have H2 : Hid (NodeAt w2 g (newK n f v) ∧ Below w.heap.size w w2 ∧ w.heap.size ≤ g ∧ w2.heap.size = g + 1) := ⟨by rw [hg]; exact hN2, below_call0 HB1.out.2 hB2, by have := HB1.out.1; omega, by omega⟩
  rw [← hg]
  clear hw1 HW1 hN2 hB2 hz2 hg
  go_wp2_with fail
  refine (rnew_ok n f s v H.out.1 _).mono ?_
  rintro e w3 ⟨rfl, hN3, hB3, hz3⟩
  obtain ⟨g', hg'⟩ : ∃ g', g' = w2.heap.size := ⟨_, rfl⟩
  have H3 : Hid (Two15 w w3 g g' (newK n f v) s) := ⟨H2.out.1.call hB3, ⟨0, by rw [hg']; exact hN3⟩, by have := H2.out; omega, H2.out.2.2.1, by have := H2.out; omega, below_call0 H2.out.2.1 hB3⟩
  rw [← hg']
  clear c0 c1 c2 c3 hN3 hB3 hz3 hg'
  by_cases hm : 100 < m
  · have hm' : (100 : Int) < (m : Int) := by omega
    clear hm
    go_wp2_with fail
    refine (kone_any _).mono ?_
    rintro e w4 ⟨rfl, hb⟩
    have HB : Hid (Below w.heap.size w w4) := below_call0 H3.out.2.2.2.2.2 hb
    clear hb
    go_wp2_with fail
    go_ret
    exact ⟨rfl, HB.out⟩
  · have hm' : ¬ ((100 : Int) < (m : Int)) := by omega
    have m100 : (m : Int) ≤ 100 := by omega
    clear hm
    go_wp2_with fail
    rename_i Kr hKr
    have HKr : Hid _ := hKr
    clear hKr
    go_loopw [57] (fun iv wr => ∃ (i : Nat) (x : Kn), i ≤ m ∧ iv = .int .i64 (i : Nat) ∧ Two15 w wr g g' x s) (fun iv _ => m - (Go.RowKit.intOf iv).toNat)
    case atStart => exact ⟨0, _, Nat.zero_le _, rfl, H3.out⟩
    case round =>
      obtain ⟨i, x, hi, rfl, hT⟩ := hrel
      rename World => wr
      have HT : Hid (Two15 w wr g g' x s) := hT
      by_cases hlt : i < m
      · have hlt' : (i : Int) < (m : Int) := by omega
        have HLT : Hid (i < m) := hlt
        obtain ⟨row, hrow⟩ : ∃ row, L[i]? = some row := ⟨_, List.getElem?_eq_getElem (by have := H.out.2; omega)⟩
        obtain ⟨pb, po, ra, rc, ha, cp0, hri, hpb⟩ := HL.out i row hrow
        subst ha
        have cp := (hT.2.2.2.2.2.cell (p := ⟨pb, po + i, none⟩) hpb).trans cp0
        have HRI : Hid (IntsAt w ra row) := hri
        obtain ⟨E, hE⟩ : ∃ E, E = hearE x row := ⟨_, rfl⟩
        obtain ⟨y, hy⟩ : ∃ y, y = hearX x row := ⟨_, rfl⟩
        have HEY : Hid (E = hearE x row ∧ y = hearX x row) := ⟨hE, hy⟩
        obtain ⟨k, hk⟩ : ∃ k, k = row.length := ⟨_, rfl⟩
        rw [← hk] at cp
        obtain ⟨V, hV⟩ : ∃ V, V = sendV x := ⟨_, rfl⟩
        obtain ⟨R, hR⟩ : ∃ R, R = 3 * (x.f + 1) := ⟨_, rfl⟩
        have KS1 : Hid (∀ w', NodeAt w' g x → Calls Try.prog 11 #[.pointer (some ⟨g, 0, none⟩)] w' fun e w'' => e = .returned (.int .i64 (V : Nat)) ∧ w'' = w') := by rw [hV]; exact fun w' h => ksend_in g x w' h
        have KS2 : Hid (∀ w' b, RNode w' g' x s b → Calls Try.prog 12 #[.pointer (some ⟨g', 0, none⟩)] w' fun e w'' => e = .returned (.int .i64 (V : Nat)) ∧ Below w'.heap.size w' w'') := by rw [hV]; exact fun w' b h => rsend_in g' x s b w' h
        have KR1 : Hid (∀ w', NodeAt w' g x → Calls Try.prog 13 #[.pointer (some ⟨g, 0, none⟩)] w' fun e w'' => e = .returned (.int .i64 (R : Nat)) ∧ w'' = w') := by rw [hR]; exact fun w' h => krounds_in g x w' h
        have KR2 : Hid (∀ w' b, RNode w' g' x s b → Calls Try.prog 14 #[.pointer (some ⟨g', 0, none⟩)] w' fun e w'' => e = .returned (.int .i64 (R : Nat)) ∧ w'' = w') := by rw [hR]; exact fun w' b h => rrounds_in g' x s b w' h
        have KR3 : Hid (∀ w' b, RNode w' g' y s b → Calls Try.prog 14 #[.pointer (some ⟨g', 0, none⟩)] w' fun e w'' => e = .returned (.int .i64 (R : Nat)) ∧ w'' = w') := by rw [hR, show x.f = y.f from by rw [hy, hearX_f]]; exact fun w' b h => rrounds_in g' y s b w' h
        have KH1 : Hid (∀ w', NodeAt w' g x → IntsAt w' ra row → Calls Try.prog 15 #[.pointer (some ⟨g, 0, none⟩), .slice ra k rc] w' fun e w'' => e = .returned (.int .i64 E) ∧ NodeAt w'' g y ∧ But g (From w'.heap.size) w' w'') := by rw [hk, hE, hy]; exact fun w' h1 h2 => hear_code g x ra row rc w' h1 h2
        have KH2 : Hid (∀ w' b, RNode w' g' x s b → IntsAt w' ra row → Calls Try.prog 16 #[.pointer (some ⟨g', 0, none⟩), .slice ra k rc] w' fun e w'' => e = .returned (.int .i64 E) ∧ (∃ b', RNode w'' g' y s b') ∧ But g' (From w'.heap.size) w' w'') := by
          rw [hk, hE, hy]
          refine fun w' b h1 h2 => hear_ref g' x s b ra row rc w' h1 h2 (fun p q e hpos hpg => ?_)
          obtain ⟨p', o', e', _, hlt⟩ := hri 0 _ (List.getElem?_eq_getElem hpos)
          rw [e] at e'
          cases e'
          have := HT.out.2.2.2.2.1
          omega
        have HRf : Hid (R = 3 * (y.f + 1)) := by rw [hR, hy, hearX_f]; exact rfl
        clear HKr hi hlt hT hrow cp0 hri hpb hE hy hk hV hR
        go_wp2_with fail
        refine (KS1.out _ HT.out.1).mono ?_
        rintro e w4 ⟨rfl, hw4⟩
        obtain rfl : wr = w4 := hw4.symm
        go_wp2_with fail
        obtain ⟨b0, hb0⟩ := HT.out.2.1
        refine (KS2.out _ b0 hb0).mono ?_
        rintro e w5 ⟨rfl, hb5⟩
        have HT5 : Hid (Two15 w w5 g g' x s) := HT.out.call hb5
        clear hb5 hb0 cp
        go_wp2_with fail
        refine (KR1.out _ HT5.out.1).mono ?_
        rintro e w6 ⟨rfl, hw6⟩
        obtain rfl : w5 = w6 := hw6.symm
        go_wp2_with fail
        obtain ⟨b1, hb1⟩ := HT5.out.2.1
        refine (KR2.out _ b1 hb1).mono ?_
        rintro e w6 ⟨rfl, hw6⟩
        obtain rfl : w5 = w6 := hw6.symm
        clear hb1
        go_wp2_with fail
        refine wp_region_N (fun _ => True) 5 16 rfl (by kernel_rfl) ?_
        refine wpAnyN_takeF (i := 0) (oi := ?o0) (v := ?v0) ?hi0 (by kernel_rfl) (by kernel_rfl) (by kernel_rfl) (by decide) ?hQ0 ?hy0 trivial ?more0
        case hi0 => rw [List.getElem?_toArray]; exact rfl
        case hQ0 => exact fun _ _ _ h => h
        case hy0 =>
          refine Or.inl ⟨by rfl, ?_⟩
          intro w' hSw
          clear hSw
          go_simp
          try with_reducible rfl
        simp only [Act.put, List.setIfInBounds_toArray, List.set_cons_zero, List.set_cons_succ]
        refine wpAnyN_takeF (i := 1) (oi := ?o1) (v := ?v1) ?hi1 (by kernel_rfl) (by kernel_rfl) (by kernel_rfl) (by decide) ?hQ1 ?hy1 trivial ?more1
        case hi1 => rw [List.getElem?_toArray]; exact rfl
        case hQ1 => exact fun _ _ _ h => h
        case hy1 =>
          refine Or.inl ⟨by rfl, ?_⟩
          intro w' hSw
          clear hSw
          go_simp
          try with_reducible rfl
        simp only [Act.put, List.setIfInBounds_toArray, List.set_cons_zero, List.set_cons_succ]
        refine wpAnyN_takeF (i := 3) (oi := ?o3) (v := ?v3) ?hi3 (by kernel_rfl) (by kernel_rfl) (by kernel_rfl) (by decide) ?hQ3 ?hy3 trivial ?more3
        case hi3 => rw [List.getElem?_toArray]; exact rfl
        case hQ3 => exact fun _ _ _ h => h
        case hy3 =>
          refine Or.inl ⟨by rfl, ?_⟩
          intro w' hSw
          clear hSw
          go_simp
          try with_reducible rfl
        simp only [Act.put, List.setIfInBounds_toArray, List.set_cons_zero, List.set_cons_succ]
        refine wpAnyN_takeF (i := 4) (oi := ?o4) (v := ?v4) ?hi4 (by kernel_rfl) (by kernel_rfl) (by kernel_rfl) (by decide) ?hQ4 ?hy4 trivial ?more4
        case hi4 => rw [List.getElem?_toArray]; exact rfl
        case hQ4 => exact fun _ _ _ h => h
        case hy4 =>
          refine Or.inl ⟨by rfl, ?_⟩
          intro w' hSw
          clear hSw
          go_simp
          try with_reducible rfl
        simp only [Act.put, List.setIfInBounds_toArray, List.set_cons_zero, List.set_cons_succ]
        refine wpAnyN_one (i := 2) (o := ?o2) (by kernel_rfl) ?hi2 ?hw2 ?st2
        case hi2 => rw [List.getElem?_toArray]; exact rfl
        case hw2 => exact rfl
        intro K hK
        have HK2 : Hid _ := hK
        clear hK
        go_simp
        refine (KH1.out _ HT5.out.drew.1 (HRI.out.call HT5.out.drew.2.2.2.2.2)).mono ?_
        rintro e w7 ⟨rfl, hN7, hU7⟩
        have H7 : Hid (NodeAt w7 g y ∧ (∃ b, RNode w7 g' x s b) ∧ Below w.heap.size w w7) := by
          obtain ⟨q1, ⟨b, q2⟩, q3, q4, q5, q6⟩ := HT5.out.drew
          exact ⟨hN7, ⟨b, q2.block hU7.size (hU7.block g' (not_from q2.lt) (fun c => q3 c.symm))⟩, q6.trans ⟨hU7.os, hU7.tape, hU7.output, hU7.size, fun k hk => hU7.block k (not_from (by have := q6.size; omega)) (by omega)⟩⟩
        clear hN7 hU7
        go_wp2_with fail
        refine HK2.out _ _ ⟨fun _ => trivial, ?_⟩
        clear HK2 K
        try simp only [Act.put, List.setIfInBounds_toArray, List.set_cons_zero, List.set_cons_succ]
        refine wpAnyN_one (i := 5) (o := ?o5) (by kernel_rfl) ?hi5 ?hw5 ?st5
        case hi5 => rw [List.getElem?_toArray]; exact rfl
        case hw5 => exact rfl
        intro K hK
        have HK5 : Hid _ := hK
        clear hK
        go_simp
        obtain ⟨b7, hb7⟩ := H7.out.2.1
        refine (KH2.out _ b7 hb7 (HRI.out.call H7.out.2.2)).mono ?_
        rintro e w8 ⟨rfl, hN8, hU8⟩
        have H8 : Hid (Two15 w w8 g g' y s) := by
          obtain ⟨q1, ⟨b, q2⟩, q3, q4, q5, q6⟩ := HT5.out.drew
          have h7 := H7.out
          exact ⟨h7.1.block hU8.size (hU8.block g (not_from h7.1.lt) q3), hN8, q3, q4, q5, h7.2.2.trans ⟨hU8.os, hU8.tape, hU8.output, hU8.size, fun k hk => hU8.block k (not_from (by have := h7.2.2.size; omega)) (by omega)⟩⟩
        clear hN8 hU8 hb7
        go_wp2_with fail
        refine HK5.out _ _ ⟨fun _ => trivial, ?_⟩
        clear HK5 K
        try simp only [Act.put, List.setIfInBounds_toArray, List.set_cons_zero, List.set_cons_succ]
        obtain ⟨b8, hb8⟩ := H8.out.2.1
        have d4 := hb8.c4
        have HD4 : Hid (w8.cell? ⟨g', 4, none⟩ = some (.int .i64 (y.r : Nat))) := d4
        clear d4 hb8
        refine wpAnyN_of_H (S' := fun w' => w' = w8) _ _ _ _ (by kernel_rfl) ?_
        refine wpAnyH_take (i := 6) (oi := ?o6k) (v := ?v6k) ?hi6k (by kernel_rfl) (by kernel_rfl) (by kernel_rfl) ?hQ6k ?hy6k rfl ?more6k
        case hi6k => rw [List.getElem?_toArray]; exact rfl
        case hQ6k => exact fun _ _ _ h => h
        case hy6k =>
          refine Or.inl ⟨by rfl, ?_⟩
          intro w' hSw
          subst hSw
          have d4 := HD4.out
          go_simp
          try with_reducible rfl
        simp only [Act.put, List.setIfInBounds_toArray, List.set_cons_zero, List.set_cons_succ]
        refine wpAnyH_take (i := 7) (oi := ?o7k) (v := ?v7k) ?hi7k (by kernel_rfl) (by kernel_rfl) (by kernel_rfl) ?hQ7k ?hy7k rfl ?more7k
        case hi7k => rw [List.getElem?_toArray]; exact rfl
        case hQ7k => exact fun _ _ _ h => h
        case hy7k =>
          refine Or.inl ⟨by rfl, ?_⟩
          intro w' hSw
          subst hSw
          have d4 := HD4.out
          go_simp
          try with_reducible rfl
        simp only [Act.put, List.setIfInBounds_toArray, List.set_cons_zero, List.set_cons_succ]
        refine wpAnyH_take (i := 8) (oi := ?o8k) (v := ?v8k) ?hi8k (by kernel_rfl) (by kernel_rfl) (by kernel_rfl) ?hQ8k ?hy8k rfl ?more8k
        case hi8k => rw [List.getElem?_toArray]; exact rfl
        case hQ8k => exact fun _ _ _ h => h
        case hy8k =>
          refine Or.inl ⟨by rfl, ?_⟩
          intro w' hSw
          subst hSw
          have d4 := HD4.out
          go_simp
          try with_reducible rfl
        simp only [Act.put, List.setIfInBounds_toArray, List.set_cons_zero, List.set_cons_succ]
        refine wpAnyH_take (i := 10) (oi := ?o10k) (v := ?v10k) ?hi10k (by kernel_rfl) (by kernel_rfl) (by kernel_rfl) ?hQ10k ?hy10k rfl ?more10k
        case hi10k => rw [List.getElem?_toArray]; exact rfl
        case hQ10k => exact fun _ _ _ h => h
        case hy10k =>
          refine Or.inl ⟨by rfl, ?_⟩
          intro w' hSw
          subst hSw
          have d4 := HD4.out
          go_simp
          try with_reducible rfl
        simp only [Act.put, List.setIfInBounds_toArray, List.set_cons_zero, List.set_cons_succ]
        refine wpAnyH_take (i := 11) (oi := ?o11k) (v := ?v11k) ?hi11k (by kernel_rfl) (by kernel_rfl) (by kernel_rfl) ?hQ11k ?hy11k rfl ?more11k
        case hi11k => rw [List.getElem?_toArray]; exact rfl
        case hQ11k => exact fun _ _ _ h => h
        case hy11k =>
          refine Or.inl ⟨by rfl, ?_⟩
          intro w' hSw
          subst hSw
          have d4 := HD4.out
          go_simp
          try with_reducible rfl
        simp only [Act.put, List.setIfInBounds_toArray, List.set_cons_zero, List.set_cons_succ]
        refine wpAnyH_take (i := 12) (oi := ?o12k) (v := ?v12k) ?hi12k (by kernel_rfl) (by kernel_rfl) (by kernel_rfl) ?hQ12k ?hy12k rfl ?more12k
        case hi12k => rw [List.getElem?_toArray]; exact rfl
        case hQ12k => exact fun _ _ _ h => h
        case hy12k =>
          refine Or.inl ⟨by rfl, ?_⟩
          intro w' hSw
          subst hSw
          have d4 := HD4.out
          go_simp
          try with_reducible rfl
        simp only [Act.put, List.setIfInBounds_toArray, List.set_cons_zero, List.set_cons_succ]
        refine wpAnyH_take (i := 13) (oi := ?o13k) (v := ?v13k) ?hi13k (by kernel_rfl) (by kernel_rfl) (by kernel_rfl) ?hQ13k ?hy13k rfl ?more13k
        case hi13k => rw [List.getElem?_toArray]; exact rfl
        case hQ13k => exact fun _ _ _ h => h
        case hy13k =>
          refine Or.inl ⟨by rfl, ?_⟩
          intro w' hSw
          subst hSw
          have d4 := HD4.out
          go_simp
          try with_reducible rfl
        simp only [Act.put, List.setIfInBounds_toArray, List.set_cons_zero, List.set_cons_succ]
        refine wpAnyH_one (i := 9) (o := ?o9k) (by kernel_rfl) ?hi9k ?hw9k ?st9k
        case hi9k => rw [List.getElem?_toArray]; exact rfl
        case hw9k => exact rfl
        intro K hK
        have HK9k : Hid _ := hK
        clear hK
        go_simp
        refine (kround_in g y _ H8.out.1).mono ?_
        rintro e w9 ⟨rfl, hw9⟩
        obtain rfl : w8 = w9 := hw9.symm
        go_wp2_with fail
        refine HK9k.out _ _ ⟨rfl, ?_⟩
        clear HK9k K
        try simp only [Act.put, List.setIfInBounds_toArray, List.set_cons_zero, List.set_cons_succ]
        refine wpAnyH_take (i := 14) (oi := ?o14k) (v := ?v14k) ?hi14k (by kernel_rfl) (by kernel_rfl) (by kernel_rfl) ?hQ14k ?hy14k rfl ?more14k
        case hi14k => rw [List.getElem?_toArray]; exact rfl
        case hQ14k => exact fun _ _ _ h => h
        case hy14k =>
          refine Or.inl ⟨by rfl, ?_⟩
          intro w' hSw
          subst hSw
          have d4 := HD4.out
          go_simp
          try with_reducible rfl
        simp only [Act.put, List.setIfInBounds_toArray, List.set_cons_zero, List.set_cons_succ]
        refine wpAnyH_take (i := 15) (oi := ?o15k) (v := ?v15k) ?hi15k (by kernel_rfl) (by kernel_rfl) (by kernel_rfl) ?hQ15k ?hy15k rfl ?more15k
        case hi15k => rw [List.getElem?_toArray]; exact rfl
        case hQ15k => exact fun _ _ _ h => h
        case hy15k =>
          refine Or.inl ⟨by rfl, ?_⟩
          intro w' hSw
          subst hSw
          have d4 := HD4.out
          go_simp
          try with_reducible rfl
        simp only [Act.put, List.setIfInBounds_toArray, List.set_cons_zero, List.set_cons_succ]
        refine wpAnyH_done (by kernel_rfl) ?_ _
        by_cases hd : y.r < R
        · have KD : Hid (Calls Try.prog 18 #[.pointer (some ⟨g, 0, none⟩)] w8 fun e w' => e = .returned (.tuple #[.int .i64 0, .bool false]) ∧ w' = w8) := kdone_no g y _ H8.out.1 (by rw [← HRf.out]; exact hd)
          have hne : ¬ ((y.r : Int) = (R : Int)) := by omega
          have z0 : decide ((y.r : Int) = (R : Int)) = false := decide_eq_false hne
          have z1 : ((y.r : Int) == (R : Int)) = false := by simpa using hne
          clear hd
          go_wp2_with fail
          refine Calls.mono KD.out ?_
          rintro e w9 ⟨rfl, hw9⟩
          obtain rfl : w8 = w9 := hw9.symm
          obtain ⟨b9, hb9⟩ := H8.out.2.1
          have d3 := hb9.c3
          have d4 := hb9.c4
          have HB9 : Hid _ := hb9
          clear hb9
          go_wp2_with fail
          go_quiet ((go_at_call 14; exact Calls.quiet_of_same (KR3.out _ b9 (RNode.drewN HB9.out))))
          go_wp2_with fail
          go_roundw
          case rel =>
            have t : Two15 w (w8.drewN nq) g g' y s := H8.out.call (below_drewN (Below.refl _ _) _)
            first | exact ⟨i + 1, y, HLT.out, by go_num, t⟩ | ((repeat apply Exists.intro); exact ⟨⟨i + 1, y, HLT.out, by go_num, t⟩, rfl⟩)
          case measure => have h1 := HLT.out; simp [Go.RowKit.intOf]; omega
        · have KD : Hid (Calls Try.prog 18 #[.pointer (some ⟨g, 0, none⟩)] w8 fun e w' => e = .returned (.tuple #[.int .i64 (y.v : Nat), .bool true]) ∧ w' = w8) := kdone_yes g y _ H8.out.1 (by rw [← HRf.out]; exact hd)
          have hne : (y.r : Int) = (R : Int) := by have h1 := H8.out.1.ok.hr; have h2 := HRf.out; omega
          have z0 : decide ((y.r : Int) = (R : Int)) = true := decide_eq_true hne
          have z1 : ((y.r : Int) == (R : Int)) = true := by simpa using hne
          have z2 : ((y.v : Int) != (y.v : Int)) = false := by simp
          clear hd hne
          go_wp2_with fail
          refine Calls.mono KD.out ?_
          rintro e w9 ⟨rfl, hw9⟩
          obtain rfl : w8 = w9 := hw9.symm
          obtain ⟨b9, hb9⟩ := H8.out.2.1
          have d3 := hb9.c3
          have d4 := hb9.c4
          have HB9 : Hid _ := hb9
          clear hb9
          go_wp2_with fail
          go_quiet ((go_at_call 14; exact Calls.quiet_of_same (KR3.out _ b9 (RNode.drewN HB9.out))))
          go_wp2_with fail
          go_roundw
          case rel =>
            have t : Two15 w (w8.drewN nq) g g' y s := H8.out.call (below_drewN (Below.refl _ _) _)
            first | exact ⟨i + 1, y, HLT.out, by go_num, t⟩ | ((repeat apply Exists.intro); exact ⟨⟨i + 1, y, HLT.out, by go_num, t⟩, rfl⟩)
          case measure => have h1 := HLT.out; simp [Go.RowKit.intOf]; omega
      · obtain rfl : i = m := by omega
        have hnl : ¬ ((i : Int) < (i : Int)) := Int.lt_irrefl _
        clear hlt hi hT
        go_wp2_with fail
        refine HKr.out _ _ ?_
        clear HKr
        go_wp2_with fail
        refine (kone_any _).mono ?_
        rintro e w4 ⟨rfl, hb⟩
        have HB : Hid (Below w.heap.size w w4) := below_call0 HT.out.2.2.2.2.2 hb
        clear hb
        go_wp2_with fail
        go_ret
        exact ⟨rfl, HB.out⟩
theorem kingSteps_any (N F S V : Int) (a : Option Addr) (L : List (List Int)) (cap : Nat) (w : World) (hL : IRows w a L) :
    Calls Try.prog 3 #[.agg #[.int .i64 N, .int .i64 F, .int .i64 S, .int .i64 V], .slice a L.length cap] w fun e w' => e = .returned (.bool true) ∧ Below w.heap.size w w' := by
  by_cases h : NewOk N F S V
  · have h' := h
    unfold NewOk at h'
    obtain ⟨n, rfl⟩ : ∃ n : Nat, N = n := ⟨N.toNat, by omega⟩
    obtain ⟨f, rfl⟩ : ∃ f : Nat, F = f := ⟨F.toNat, by omega⟩
    obtain ⟨s, rfl⟩ : ∃ s : Nat, S = s := ⟨S.toNat, by omega⟩
    obtain ⟨v, rfl⟩ : ∃ v : Nat, V = v := ⟨V.toNat, by omega⟩
    exact kingSteps_ok n f s v a L _ cap rfl h w hL
  · exact kingSteps_no N F S V _ h w
end Go.Proofs.Ytcahfkfafdoilaa
