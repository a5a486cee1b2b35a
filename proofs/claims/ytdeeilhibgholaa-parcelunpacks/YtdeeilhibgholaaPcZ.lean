/- The law ParcelUnpacks: the walk. -/
import Derived.Test.YtdeeilhibgholaaPcY
namespace Go.Proofs.Ytdeeilhibgholaa
open Go Go.RowKit Go.Lib

theorem runpack_any (s : ByteArray) (hs : s.size < 140737488351233) (w : World) : Calls Try.prog 12 #[.string s] w fun e w' => rupPost w s e w' := by
  by_cases h1 : 20000 < s.size
  · exact runpack_pre s hs (.inl h1) w
  · by_cases h2 : s.size < 2
    · exact runpack_pre s hs (.inr h2) w
    · obtain ⟨x, y, r, hxy⟩ := two_of h2
      rcases Bool.eq_false_or_eq_true (kindB (x.toNat : Nat)) with hk | hk
      · by_cases h40 : 40 < y.toNat
        · exact runpack_form s x y r hxy (by omega) (.inr h40) w
        · exact runpack_main s x y r hxy (by omega) hk h40 w
      · exact runpack_form s x y r hxy (by omega) (.inl hk) w
theorem upL_len (t : List UInt8) : (upL t).length ≤ 8796093022208 := by
  unfold upL
  split
  · match t with
    | [] => simp
    | [x] => simp
    | x :: y :: r =>
      show (splitL y.toNat r).1.length ≤ _
      have h1 := splitL_len y.toNat r
      have h2 := y.toNat_lt
      omega
  · simp
set_option maxRecDepth 100000 in
set_option maxHeartbeats 2000000 in
theorem parcelUnpacks_any (s : ByteArray) (hs : s.size < 140737488351233) (w : World) :
    Calls Try.prog 4 #[.string s] w fun e w' => e = .returned (.bool true) ∧ Below w.heap.size w w' := by
  have K1 : Hid (∀ w' : World, Calls Try.prog 11 #[.string s] w' fun e w'' => ∃ b c, e = .returned (.tuple #[.int .i64 (upK s.data.toList), .slice b (upL s.data.toList).length c, .int .i64 (upE s.data.toList)]) ∧ Strs w'' b (upL s.data.toList) ∧ Below w'.heap.size w' w'') := fun w' => unpack_any s hs w'
  have K2 : Hid (∀ w' : World, Calls Try.prog 12 #[.string s] w' fun e w'' => ∃ b c, e = .returned (.tuple #[.agg #[.int .i64 (upK s.data.toList), .slice b (upL s.data.toList).length c], .int .i64 (upE s.data.toList)]) ∧ Strs w'' b (upL s.data.toList) ∧ Below w'.heap.size w' w'') := fun w' => runpack_any s hs w'
  have hl := upL_len s.data.toList
  obtain ⟨L, hL⟩ : ∃ L, L = upL s.data.toList := ⟨_, rfl⟩
  obtain ⟨U, hU⟩ : ∃ U, U = upK s.data.toList := ⟨_, rfl⟩
  obtain ⟨E, hE⟩ : ∃ E, E = upE s.data.toList := ⟨_, rfl⟩
  rw [← hL] at K1 K2 hl
  rw [← hU, ← hE] at K1 K2
  have K3 : Hid _ := fun (w' : World) (a b : Option Addr) (ca cb : Nat) (h1 : Strs w' a L) (h2 : Strs w' b L) => texts_any a b L L ca cb hl w' h1 h2
  rw [decide_eq_true rfl] at K3
  obtain ⟨n, hn⟩ : ∃ n, n = L.length := ⟨_, rfl⟩
  rw [← hn] at K1 K2 K3
  clear hL hU hE hl hs hn
  go_enter Try.func4, Try.ntmps4
  go_wp2_with fail
  refine (K1.out _).mono ?_
  rintro e w1 ⟨b1, c1, rfl, hS1, hb1⟩
  have H1 : Hid (Strs w1 b1 L ∧ Below w.heap.size w w1) := ⟨hS1, hb1⟩
  clear hS1 hb1 K1
  go_wp2_with fail
  refine (K2.out _).mono ?_
  rintro e w2 ⟨b2, c2, rfl, hS2, hb2⟩
  have H2 : Hid (Strs w2 b1 L ∧ Strs w2 b2 L ∧ Below w.heap.size w w2) := ⟨H1.out.1.call hb2, hS2, below_call0 H1.out.2 hb2⟩
  clear hS2 hb2 K2 H1
  go_wp2_with fail
  have hb3 : Below w2.heap.size w2 (w2.alloc (.cells #[.int .i64 U, .slice b2 n c2] 33)) := below_alloc0 (Below.refl _ _) _
  refine (K3.out _ _ _ _ _ (H2.out.1.call hb3) (H2.out.2.1.call hb3)).mono ?_
  rintro e w4 ⟨rfl, hb4⟩
  have H4 : Hid (Below w.heap.size w w4) := below_call0 (below_call0 H2.out.2.2 hb3) hb4
  clear hb3 hb4 H2 K3
  go_wp2_with fail
  refine (two_any _).mono ?_
  rintro e w9 ⟨rfl, hb9⟩
  have H9 : Hid (Below w.heap.size w w9) := below_call0 H4.out hb9
  clear hb9
  go_wp2_with fail
  go_ret
  exact ⟨rfl, H9.out⟩
end Go.Proofs.Ytdeeilhibgholaa
