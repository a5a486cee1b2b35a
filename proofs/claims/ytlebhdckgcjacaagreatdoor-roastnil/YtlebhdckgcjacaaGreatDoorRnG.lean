/- Package roast: the nodes that are ready: node 1 alone. -/
import Derived.Test.YtlebhdckgcjacaaGreatDoorRnF
import Derived.Test.YtlebhdckgcjacaaGreatDoorRowI
namespace Go.Proofs.YtlebhdckgcjacaaGreatDoor
open Go Go.RowKit Go.Lib
set_option maxRecDepth 100000 in
set_option maxHeartbeats 4000000 in
theorem those_1 (r : Nat) (w : World) (hr : r < w.heap.size) (hs : ∀ i : Nat, i < 11 → w.cell? ⟨r, 3 + 21 * i, none⟩ = some (.int .i64 (if i = 1 then 1 else 0))) :
    Calls Tryz.prog 18 #[.pointer (some ⟨r, 0, none⟩), .int .i64 1] w fun e w' => (∃ a cap, e = .returned (.slice a 1 cap)) ∧ Below w.heap.size w w' := by
  have H0 : Hid (∀ i : Nat, i < 11 → w.cell? ⟨r, 3 + 21 * i, none⟩ = some (.int .i64 (if i = 1 then 1 else 0))) := hs
  clear hs
  go_enter Tryz.func18, Tryz.ntmps18
  go_wp2_with fail
  rename_i Kr hKr
  have HKr : Hid _ := hKr
  clear hKr
  go_loopw [9, 5] (fun iv ov wr => ∃ (i m : Nat) (l : List Int) (a : Option Addr) (cap : Nat), i ≤ 11 ∧ iv = .int .i64 (i : Nat) ∧ m = l.length ∧ l = (if i ≤ 1 then [] else [1]) ∧ ov = .slice a m cap ∧ RowI wr w.heap.size a l cap ∧ Below w.heap.size w wr) (fun iv _ _ => 11 - (Go.RowKit.intOf iv).toNat)
  case atStart => exact ⟨0, 0, [], none, 0, by decide, rfl, rfl, rfl, rfl, RowI.nil _ _, Below.refl _ _⟩
  case round =>
    obtain ⟨i, m, l, a, cap, hi, rfl, hm, hl, rfl, hR, hB⟩ := hrel
    rename World => wr
    have HF : Hid (∀ j : Nat, j < 11 → wr.cell? ⟨r, 3 + 21 * j, none⟩ = some (.int .i64 (if j = 1 then 1 else 0))) := fun j hj => (hB.cell (p := ⟨r, 3 + 21 * j, none⟩) hr).trans (H0.out j hj)
    have HB : Hid (m = l.length ∧ RowI wr w.heap.size a l cap ∧ Below w.heap.size w wr) := ⟨hm, hR, hB⟩
    clear hm hR hB
    rcases (show i = 0 ∨ i = 1 ∨ i = 2 ∨ i = 3 ∨ i = 4 ∨ i = 5 ∨ i = 6 ∨ i = 7 ∨ i = 8 ∨ i = 9 ∨ i = 10 ∨ i = 11 by omega) with rfl | rfl | rfl | rfl | rfl | rfl | rfl | rfl | rfl | rfl | rfl | rfl
    · clear hi HKr
      obtain rfl : l = [] := hl
      have f : wr.cell? ⟨r, 3, none⟩ = some (.int .i64 0) := HF.out 0 (by decide)
      go_wp2_with fail
      go_roundw
      case rel => exact ⟨1, m, [], a, cap, by decide, rfl, HB.out.1, rfl, rfl, HB.out.2.1, HB.out.2.2⟩
      case measure => simp [Go.RowKit.intOf]
    · clear hi HKr
      obtain rfl : l = [] := hl
      have f : wr.cell? ⟨r, 24, none⟩ = some (.int .i64 1) := HF.out 1 (by decide)
      have HA : Hid (RowI (wr.alloc (.cells #[.int .i64 1] 3)) w.heap.size a [] cap ∧ Below w.heap.size w (wr.alloc (.cells #[.int .i64 1] 3)) ∧ (wr.alloc (.cells #[.int .i64 1] 3)).cell? ⟨wr.heap.size, 0, none⟩ = some (.int .i64 1)) :=
        ⟨HB.out.2.1.call ((Below.refl _ _).alloc (Nat.le_refl _) _), below_alloc0 HB.out.2.2 _, World.cell?_alloc_new ..⟩
      go_wp2_with (at_builtin; refine wpList_append_RowI _ rfl (.tmp 21) (.tmp 23) rfl w.heap.size a m cap [] 1 rfl HB.out.1 HA.out.1 HA.out.2.1.size (by simp) ⟨wr.heap.size, 0, none⟩ 1 rfl HA.out.2.2 ?_; intro a5 m5 cap5 w5 hm5 hR5 hb5; have H5 : Hid (m5 = m + 1 ∧ RowI w5 w.heap.size a5 ([] ++ [1]) cap5 ∧ Below w.heap.size w w5) := ⟨hm5, hR5, HA.out.2.1.trans (hb5.mono (Nat.le_refl _))⟩; clear hm5 hR5 hb5)
      go_roundw
      case rel => exact ⟨2, m5, [1], a5, cap5, by decide, rfl, by rw [H5.out.1, HB.out.1]; rfl, rfl, rfl, H5.out.2.1, H5.out.2.2⟩
      case measure => simp [Go.RowKit.intOf]
    · clear hi HKr
      obtain rfl : l = [1] := hl
      have f : wr.cell? ⟨r, 45, none⟩ = some (.int .i64 0) := HF.out 2 (by decide)
      go_wp2_with fail
      go_roundw
      case rel => exact ⟨3, m, [1], a, cap, by decide, rfl, HB.out.1, rfl, rfl, HB.out.2.1, HB.out.2.2⟩
      case measure => simp [Go.RowKit.intOf]
    · clear hi HKr
      obtain rfl : l = [1] := hl
      have f : wr.cell? ⟨r, 66, none⟩ = some (.int .i64 0) := HF.out 3 (by decide)
      go_wp2_with fail
      go_roundw
      case rel => exact ⟨4, m, [1], a, cap, by decide, rfl, HB.out.1, rfl, rfl, HB.out.2.1, HB.out.2.2⟩
      case measure => simp [Go.RowKit.intOf]
    · clear hi HKr
      obtain rfl : l = [1] := hl
      have f : wr.cell? ⟨r, 87, none⟩ = some (.int .i64 0) := HF.out 4 (by decide)
      go_wp2_with fail
      go_roundw
      case rel => exact ⟨5, m, [1], a, cap, by decide, rfl, HB.out.1, rfl, rfl, HB.out.2.1, HB.out.2.2⟩
      case measure => simp [Go.RowKit.intOf]
    · clear hi HKr
      obtain rfl : l = [1] := hl
      have f : wr.cell? ⟨r, 108, none⟩ = some (.int .i64 0) := HF.out 5 (by decide)
      go_wp2_with fail
      go_roundw
      case rel => exact ⟨6, m, [1], a, cap, by decide, rfl, HB.out.1, rfl, rfl, HB.out.2.1, HB.out.2.2⟩
      case measure => simp [Go.RowKit.intOf]
    · clear hi HKr
      obtain rfl : l = [1] := hl
      have f : wr.cell? ⟨r, 129, none⟩ = some (.int .i64 0) := HF.out 6 (by decide)
      go_wp2_with fail
      go_roundw
      case rel => exact ⟨7, m, [1], a, cap, by decide, rfl, HB.out.1, rfl, rfl, HB.out.2.1, HB.out.2.2⟩
      case measure => simp [Go.RowKit.intOf]
    · clear hi HKr
      obtain rfl : l = [1] := hl
      have f : wr.cell? ⟨r, 150, none⟩ = some (.int .i64 0) := HF.out 7 (by decide)
      go_wp2_with fail
      go_roundw
      case rel => exact ⟨8, m, [1], a, cap, by decide, rfl, HB.out.1, rfl, rfl, HB.out.2.1, HB.out.2.2⟩
      case measure => simp [Go.RowKit.intOf]
    · clear hi HKr
      obtain rfl : l = [1] := hl
      have f : wr.cell? ⟨r, 171, none⟩ = some (.int .i64 0) := HF.out 8 (by decide)
      go_wp2_with fail
      go_roundw
      case rel => exact ⟨9, m, [1], a, cap, by decide, rfl, HB.out.1, rfl, rfl, HB.out.2.1, HB.out.2.2⟩
      case measure => simp [Go.RowKit.intOf]
    · clear hi HKr
      obtain rfl : l = [1] := hl
      have f : wr.cell? ⟨r, 192, none⟩ = some (.int .i64 0) := HF.out 9 (by decide)
      go_wp2_with fail
      go_roundw
      case rel => exact ⟨10, m, [1], a, cap, by decide, rfl, HB.out.1, rfl, rfl, HB.out.2.1, HB.out.2.2⟩
      case measure => simp [Go.RowKit.intOf]
    · clear hi HKr
      obtain rfl : l = [1] := hl
      have f : wr.cell? ⟨r, 213, none⟩ = some (.int .i64 0) := HF.out 10 (by decide)
      go_wp2_with fail
      go_roundw
      case rel => exact ⟨11, m, [1], a, cap, by decide, rfl, HB.out.1, rfl, rfl, HB.out.2.1, HB.out.2.2⟩
      case measure => simp [Go.RowKit.intOf]
    · clear hi
      obtain rfl : l = [1] := hl
      have hm : m = 1 := HB.out.1
      subst hm
      go_wp2_with fail
      refine HKr.out _ _ ?_
      clear HKr
      go_wp2_with fail
      go_ret
      exact ⟨⟨a, cap, rfl⟩, HB.out.2.2⟩
end Go.Proofs.YtlebhdckgcjacaaGreatDoor
