/- What four nodes echo; the law CastVotes. -/
import Derived.Test.YtdfadinpeeigkaaDoorCaC
namespace Go.Proofs.YtdfadinpeeigkaaDoor
open Go Go.RowKit Go.Lib

theorem strs_four (w : World) (x0 x1 x2 x3 : ByteArray) (t : TypeId) : Strs (w.alloc (Obj.cells #[.string x0, .string x1, .string x2, .string x3] t)) (some ⟨w.heap.size, 0, none⟩) [x0, x1, x2, x3] := by
  intro j s hj
  match j, hj with
  | 0, hj => cases hj; exact ⟨w.heap.size, 0, rfl, by rw [World.cell?_alloc_new]; rfl, by simp⟩
  | 1, hj => cases hj; exact ⟨w.heap.size, 0, rfl, by rw [World.cell?_alloc_new]; rfl, by simp⟩
  | 2, hj => cases hj; exact ⟨w.heap.size, 0, rfl, by rw [World.cell?_alloc_new]; rfl, by simp⟩
  | 3, hj => cases hj; exact ⟨w.heap.size, 0, rfl, by rw [World.cell?_alloc_new]; rfl, by simp⟩
  | j + 4, hj => simp at hj
theorem four_ok (x0 x1 x2 x3 : ByteArray) (h0 : x0.size ≤ 10) (h1 : x1.size ≤ 10) (h2 : x2.size ≤ 10) (h3 : x3.size ≤ 10) : VotesOk 4 1 [x0, x1, x2, x3] :=
  ⟨by decide, by decide, by decide, rfl, fun s hs => by
    simp at hs
    rcases hs with rfl | rfl | rfl | rfl <;> omega⟩
theorem pick_f1 : pick (4 - 1) [⟨#[97]⟩, ⟨#[97]⟩, ⟨#[97]⟩, ⟨#[98]⟩] = some ⟨#[97]⟩ := by decide +kernel
theorem pick_f2 : pick (4 - 1) [⟨#[97]⟩, ⟨#[97]⟩, ⟨#[98]⟩, ⟨#[98]⟩] = none := by decide +kernel
theorem pick_f3 : pick (1 + 1) [⟨#[120]⟩, ⟨#[120]⟩, ⟨#[]⟩, ⟨#[121]⟩] = some ⟨#[120]⟩ := by decide +kernel
theorem four_any (w : World) : Calls Tryd.prog 4 #[] w fun e w' => e = .returned (.bool true) ∧ Below w.heap.size w w' := by
  have K1 : Hid (∀ (w : World) a, Strs w a [⟨#[97]⟩, ⟨#[97]⟩, ⟨#[97]⟩, ⟨#[98]⟩] → Calls Tryd.prog 9 #[.int .i64 4, .int .i64 1, .slice a 4 4] w fun e w' => e = .returned (.tuple #[.string ⟨#[97]⟩, .bool true, .int .i64 0]) ∧ Below w.heap.size w w') := fun w a h => by
    have := echoed_ok 4 1 a _ 4 (four_ok _ _ _ _ (by decide) (by decide) (by decide) (by decide)) w h
    rw [pick_f1] at this
    exact this
  have K2 : Hid (∀ (w : World) a, Strs w a [⟨#[97]⟩, ⟨#[97]⟩, ⟨#[98]⟩, ⟨#[98]⟩] → Calls Tryd.prog 9 #[.int .i64 4, .int .i64 1, .slice a 4 4] w fun e w' => e = .returned (.tuple #[.string ⟨#[]⟩, .bool false, .int .i64 0]) ∧ Below w.heap.size w w') := fun w a h => by
    have := echoed_ok 4 1 a _ 4 (four_ok _ _ _ _ (by decide) (by decide) (by decide) (by decide)) w h
    rw [pick_f2] at this
    exact this
  have K3 : Hid (∀ (w : World) a, Strs w a [⟨#[120]⟩, ⟨#[120]⟩, ⟨#[]⟩, ⟨#[121]⟩] → Calls Tryd.prog 10 #[.int .i64 4, .int .i64 1, .slice a 4 4] w fun e w' => e = .returned (.tuple #[.string ⟨#[120]⟩, .bool true, .int .i64 0]) ∧ Below w.heap.size w w') := fun w a h => by
    have := ready_ok 4 1 a _ 4 (four_ok _ _ _ _ (by decide) (by decide) (by decide) (by decide)) w h
    rw [pick_f3] at this
    exact this
  go_enter Tryd.func4, Tryd.ntmps4
  go_wp2_with fail
  refine (K1.out _ _ (strs_four _ _ _ _ _ _)).mono ?_
  rintro e w1 ⟨rfl, hb1⟩
  have H1 : Hid (Below w.heap.size w w1) := below_call0 (below_alloc0 (Below.refl _ _) _) hb1
  clear hb1
  go_wp2_with fail
  refine (K2.out _ _ (strs_four _ _ _ _ _ _)).mono ?_
  rintro e w2 ⟨rfl, hb2⟩
  have H2 : Hid (Below w.heap.size w w2) := below_call0 (below_alloc0 H1.out _) hb2
  clear hb2
  go_wp2_with fail
  refine (K3.out _ _ (strs_four _ _ _ _ _ _)).mono ?_
  rintro e w3 ⟨rfl, hb3⟩
  have H3 : Hid (Below w.heap.size w w3) := below_call0 (below_alloc0 H2.out _) hb3
  clear hb3
  go_wp2_with fail
  go_ret
  exact ⟨rfl, H3.out⟩
end Go.Proofs.YtdfadinpeeigkaaDoor
