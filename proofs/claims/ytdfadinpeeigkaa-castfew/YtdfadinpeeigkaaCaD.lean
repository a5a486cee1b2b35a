/- What four nodes echo; the law CastVotes. -/
import Derived.Test.YtdfadinpeeigkaaCaC
namespace Go.Proofs.Ytdfadinpeeigkaa
open Go Go.RowKit Go.Lib

theorem strs_four (w : World) (x0 x1 x2 x3 : ByteArray) (t : TypeId) : Strs (w.alloc (Obj.cells #[.string x0, .string x1, .string x2, .string x3] t)) (some ⟨w.heap.size, 0, none⟩) [x0, x1, x2, x3] := by
  intro j s hj
  match j, hj with
  | 0, hj => cases hj; exact ⟨w.heap.size, 0, rfl, by rw [World.cell?_alloc_new]; rfl, by simp⟩
  | 1, hj => cases hj; exact ⟨w.heap.size, 0, rfl, by rw [World.cell?_alloc_new]; rfl, by simp⟩
  | 2, hj => cases hj; exact ⟨w.heap.size, 0, rfl, by rw [World.cell?_alloc_new]; rfl, by simp⟩
  | 3, hj => cases hj; exact ⟨w.heap.size, 0, rfl, by rw [World.cell?_alloc_new]; rfl, by simp⟩
  | j + 4, hj => simp at hj
theorem four_ok (x0 x1 x2 x3 : ByteArray) (h0 : x0.size ≤ 10) (h1 : x1.size ≤ 10) (h2 : x2.size ≤ 10) (h3 : x3.size ≤ 10) : VotesOk 4 1 [x0, x1, x2, x3] :=
  ⟨by decide, by decide, by decide, rfl, fun s hs => by
    simp at hs
    rcases hs with rfl | rfl | rfl | rfl <;> omega⟩
theorem pick_f1 : pick (4 - 1) [⟨#[97]⟩, ⟨#[97]⟩, ⟨#[97]⟩, ⟨#[98]⟩] = some ⟨#[97]⟩ := by decide +kernel
theorem pick_f2 : pick (4 - 1) [⟨#[97]⟩, ⟨#[97]⟩, ⟨#[98]⟩, ⟨#[98]⟩] = none := by decide +kernel
theorem pick_f3 : pick (1 + 1) [⟨#[120]⟩, ⟨#[120]⟩, ⟨#[]⟩, ⟨#[121]⟩] = some ⟨#[120]⟩ := by decide +kernel
theorem four_any (w : World) : Calls Try.prog 7 #[] w fun e w' => e = .returned (.bool true) ∧ Below w.heap.size w w' := by
  have K1 : Hid (∀ (w : World) a, Strs w a [⟨#[97]⟩, ⟨#[97]⟩, ⟨#[97]⟩, ⟨#[98]⟩] → Calls Try.prog 8 #[.int .i64 4, .int .i64 1, .slice a 4 4] w fun e w' => e = .returned (.tuple #[.string ⟨#[97]⟩, .bool true, .int .i64 0]) ∧ Below w.heap.size w w') := fun w a h => by
    have := echoed_ok 4 1 a _ 4 (four_ok _ _ _ _ (by decide) (by decide) (by decide) (by decide)) w h
    rw [pick_f1] at this
    exact this
  have K2 : Hid (∀ (w : World) a, Strs w a [⟨#[97]⟩, ⟨#[97]⟩, ⟨#[98]⟩, ⟨#[98]⟩] → Calls Try.prog 8 #[.int .i64 4, .int .i64 1, .slice a 4 4] w fun e w' => e = .returned (.tuple #[.string ⟨#[]⟩, .bool false, .int .i64 0]) ∧ Below w.heap.size w w') := fun w a h => by
    have := echoed_ok 4 1 a _ 4 (four_ok _ _ _ _ (by decide) (by decide) (by decide) (by decide)) w h
    rw [pick_f2] at this
    exact this
  have K3 : Hid (∀ (w : World) a, Strs w a [⟨#[120]⟩, ⟨#[120]⟩, ⟨#[]⟩, ⟨#[121]⟩] → Calls Try.prog 9 #[.int .i64 4, .int .i64 1, .slice a 4 4] w fun e w' => e = .returned (.tuple #[.string ⟨#[120]⟩, .bool true, .int .i64 0]) ∧ Below w.heap.size w w') := fun w a h => by
    have := ready_ok 4 1 a _ 4 (four_ok _ _ _ _ (by decide) (by decide) (by decide) (by decide)) w h
    rw [pick_f3] at this
    exact this
  go_enter Try.func7, Try.ntmps7
  go_wp2_with fail
  refine (K1.out _ _ (strs_four _ _ _ _ _ _)).mono ?_
  rintro e w1 ⟨rfl, hb1⟩
  have H1 : Hid (Below w.heap.size w w1) := below_call0 (below_alloc0 (Below.refl _ _) _) hb1
  clear hb1
  go_wp2_with fail
  refine (K2.out _ _ (strs_four _ _ _ _ _ _)).mono ?_
  rintro e w2 ⟨rfl, hb2⟩
  have H2 : Hid (Below w.heap.size w w2) := below_call0 (below_alloc0 H1.out _) hb2
  clear hb2
  go_wp2_with fail
  refine (K3.out _ _ (strs_four _ _ _ _ _ _)).mono ?_
  rintro e w3 ⟨rfl, hb3⟩
  have H3 : Hid (Below w.heap.size w w3) := below_call0 (below_alloc0 H2.out _) hb3
  clear hb3
  go_wp2_with fail
  go_ret
  exact ⟨rfl, H3.out⟩
theorem castVotes_long (n f : Int) (a : Option Addr) (m cap : Nat) (h : 200 < m) (w : World) : Calls Try.prog 3 #[.int .i64 n, .int .i64 f, .slice a m cap] w fun e w' => e = .returned (.bool true) ∧ Below w.heap.size w w' := by
  have h' : (200 : Int) < (m : Int) := by omega
  clear h
  go_enter Try.func3, Try.ntmps3
  go_wp2_with fail
  refine (four_any _).mono ?_
  rintro e w1 ⟨rfl, hb1⟩
  have H1 : Hid _ := hb1
  clear hb1
  go_wp2_with fail
  go_ret
  exact ⟨rfl, H1.out⟩
set_option maxHeartbeats 2000000 in
theorem castVotes_in (n f : Int) (A B : ByteArray) (x y : Bool) (E E2 : Int) (D : Bool) (a : Option Addr) (m cap : Nat) (h : ¬ 200 < m) (w : World)
    (K1 : ∀ w', Below w.heap.size w w' → Calls Try.prog 8 #[.int .i64 n, .int .i64 f, .slice a m cap] w' fun e w'' => e = .returned (.tuple #[.string A, .bool x, .int .i64 E]) ∧ Below w'.heap.size w' w'')
    (K2 : ∀ w', Below w.heap.size w w' → Calls Try.prog 9 #[.int .i64 n, .int .i64 f, .slice a m cap] w' fun e w'' => e = .returned (.tuple #[.string B, .bool y, .int .i64 E2]) ∧ Below w'.heap.size w' w'')
    (K3 : ∀ w', Below w.heap.size w w' → Calls Try.prog 10 #[.int .i64 n, .int .i64 f, .slice a m cap] w' fun e w'' => e = .returned (.tuple #[.string A, .bool x, .int .i64 E]) ∧ Below w'.heap.size w' w'')
    (K4 : ∀ w', Calls Try.prog 11 #[.int .i64 n, .int .i64 f] w' fun e w'' => e = .returned (.bool D) ∧ w'' = w')
    (K5 : ∀ w', Calls Try.prog 12 #[.int .i64 n, .int .i64 f] w' fun e w'' => e = .returned (.bool D) ∧ w'' = w')
    (K6 : ∀ w', Below w.heap.size w w' → Calls Try.prog 13 #[.int .i64 n, .int .i64 f, .int .i64 (IntKind.i64.wrap (n - f)), .slice a m cap] w' fun e w'' => e = .returned (.tuple #[.string A, .bool x, .int .i64 E]) ∧ w'' = w')
    (K7 : ∀ w', Below w.heap.size w w' → Calls Try.prog 13 #[.int .i64 n, .int .i64 f, .int .i64 (IntKind.i64.wrap (f + 1)), .slice a m cap] w' fun e w'' => e = .returned (.tuple #[.string B, .bool y, .int .i64 E2]) ∧ w'' = w') :
    Calls Try.prog 3 #[.int .i64 n, .int .i64 f, .slice a m cap] w fun e w' => e = .returned (.bool true) ∧ Below w.heap.size w w' := by
  have h' : ¬ ((200 : Int) < (m : Int)) := by omega
  obtain ⟨L1, hL1⟩ : ∃ L, L = IntKind.i64.wrap (n - f) := ⟨_, rfl⟩
  obtain ⟨L2, hL2⟩ : ∃ L, L = IntKind.i64.wrap (f + 1) := ⟨_, rfl⟩
  have e1 : wrap64 (n - f) = L1 := by rw [hL1, IntKind.wrap_i64]; unfold wrap64; omega
  have e2 : wrap64 (f + 1) = L2 := by rw [hL2, IntKind.wrap_i64]; unfold wrap64; omega
  rw [← hL1] at K6
  rw [← hL2] at K7
  have H : Hid (_ ∧ _ ∧ _ ∧ _ ∧ _ ∧ _ ∧ _) := ⟨K1, K2, K3, K4, K5, K6, K7⟩
  have qa : (A.toList == A.toList) = true := by simp only [BEq.rfl]
  have qb : (B.toList == B.toList) = true := by simp only [BEq.rfl]
  clear h K1 K2 K3 K4 K5 K6 K7 hL1 hL2
  go_enter Try.func3, Try.ntmps3
  go_wp2_with fail
  refine (H.out.1 _ (Below.refl _ _)).mono ?_
  rintro e w1 ⟨rfl, hb1⟩
  have H1 : Hid (Below w.heap.size w w1) := hb1
  clear hb1
  go_wp2_with fail
  refine (H.out.2.1 _ H1.out).mono ?_
  rintro e w2 ⟨rfl, hb2⟩
  have H2 : Hid (Below w.heap.size w w2) := below_call0 H1.out hb2
  clear hb2
  go_wp2_with fail
  refine (H.out.2.2.1 _ H2.out).mono ?_
  rintro e w3 ⟨rfl, hb3⟩
  have H3 : Hid (Below w.heap.size w w3) := below_call0 H2.out hb3
  clear hb3
  go_wp2_with fail
  refine (H.out.2.2.2.1 _).mono ?_
  rintro e w4 ⟨rfl, hw4⟩
  obtain rfl : w3 = w4 := hw4.symm
  go_wp2_with fail
  refine (H.out.2.2.2.2.1 _).mono ?_
  rintro e w4 ⟨rfl, hw4⟩
  obtain rfl : w3 = w4 := hw4.symm
  go_wp2_with fail
  refine (H.out.2.2.2.2.2.1 _ H3.out).mono ?_
  rintro e w4 ⟨rfl, hw4⟩
  obtain rfl : w3 = w4 := hw4.symm
  go_wp2_with fail
  refine (H.out.2.2.2.2.2.2 _ H3.out).mono ?_
  rintro e w4 ⟨rfl, hw4⟩
  obtain rfl : w3 = w4 := hw4.symm
  go_wp2_with fail
  refine (four_any _).mono ?_
  rintro e w5 ⟨rfl, hb5⟩
  have H5 : Hid (Below w.heap.size w w5) := below_call0 H3.out hb5
  clear hb5
  go_wp2_with fail
  go_ret
  exact ⟨rfl, H5.out⟩
theorem castVotes_any (n f : Int) (a : Option Addr) (l : List ByteArray) (cap : Nat) (hz : ∀ s ∈ l, s.size < 140737488351233) (w : World) (hS : Strs w a l) :
    Calls Try.prog 3 #[.int .i64 n, .int .i64 f, .slice a l.length cap] w fun e w' => e = .returned (.bool true) ∧ Below w.heap.size w w' := by
  by_cases h2 : 200 < l.length
  · exact castVotes_long n f a _ cap h2 w
  · by_cases h : TabOk n f ∧ (l.length : Int) = n
    · obtain ⟨ht, hl⟩ := h
      unfold TabOk at ht
      obtain ⟨N, rfl⟩ : ∃ N : Nat, n = N := ⟨n.toNat, by omega⟩
      obtain ⟨F, rfl⟩ : ∃ F : Nat, f = F := ⟨f.toNat, by omega⟩
      obtain rfl : N = l.length := by omega
      have hV : VotesOk l.length F l := ⟨by omega, by omega, by omega, rfl, hz⟩
      have e1 : IntKind.i64.wrap (((l.length : Nat) : Int) - ((F : Nat) : Int)) = ((l.length - F : Nat) : Int) := by rw [IntKind.wrap_i64]; omega
      have e2 : IntKind.i64.wrap (((F : Nat) : Int) + 1) = ((F + 1 : Nat) : Int) := by rw [IntKind.wrap_i64]; omega
      refine castVotes_in _ _ (pikS (pick (l.length - F) l)) (pikS (pick (F + 1) l)) (pikB (pick (l.length - F) l)) (pikB (pick (F + 1) l)) 0 0 _ a _ cap h2 w (fun w' hb => echoed_ok _ F a l cap hV w' (hS.call hb)) (fun w' hb => ready_ok _ F a l cap hV w' (hS.call hb)) (fun w' hb => sure_ok _ F a l cap hV w' (hS.call hb)) (fun w' => ctable_any _ _ w') (fun w' => crtable_any _ _ w') (fun w' hb => ?_) (fun w' hb => ?_)
      · rw [e1]; exact most_ok _ F (l.length - F) (by omega) a l cap hV w' (hS.call hb)
      · rw [e2]; exact most_ok _ F (F + 1) (by omega) a l cap hV w' (hS.call hb)
    · have low : ∀ (w' : World) (fn : FuncId) (args : Array Value), (Calls Try.prog fn args w' fun e w'' => e = .returned noV ∧ w'' = w') → Calls Try.prog fn args w' fun e w'' => e = .returned (.tuple #[.string ⟨#[]⟩, .bool false, .int .i64 1]) ∧ Below w'.heap.size w' w'' := fun w' fn args hc => hc.mono fun e w'' ⟨q, q'⟩ => by subst q'; exact ⟨q, Below.refl _ _⟩
      exact castVotes_in n f ⟨#[]⟩ ⟨#[]⟩ false false 1 1 _ a _ cap h2 w (fun w' _ => low _ _ _ (echoed_no n f a _ cap h w')) (fun w' _ => low _ _ _ (ready_no n f a _ cap h w')) (fun w' _ => low _ _ _ (sure_no n f a _ cap h w')) (fun w' => ctable_any _ _ w') (fun w' => crtable_any _ _ w') (fun w' _ => most_no n f _ a _ cap h w') (fun w' _ => most_no n f _ a _ cap h w')
end Go.Proofs.Ytdfadinpeeigkaa
