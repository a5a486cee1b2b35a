/- A node alone; the law KingNil. -/
import Derived.Test.YtcahfkfafdoilaaKgE
namespace Go.Proofs.Ytcahfkfafdoilaa
open Go Go.RowKit Go.Lib

def aloneK : Nat → Kn
  | 0 => newK 1 0 1
  | i + 1 => stepK (aloneK i) [1]
theorem But.belowB {g B : Nat} {w w' : World} (h : But g (From B) w w') (hg : B ≤ g) : Below B w w' := ⟨h.os, h.tape, h.output, h.size, fun k hk => h.block k (not_from hk) (by omega)⟩
theorem ints_one (w : World) (x : Int) (t : TypeId) : IntsAt (w.alloc (Obj.cells #[.int .i64 x] t)) (some ⟨w.heap.size, 0, none⟩) [x] := by
  intro j n hj
  match j, hj with
  | 0, hj => cases hj; exact ⟨w.heap.size, 0, rfl, by rw [World.cell?_alloc_new]; rfl, by simp⟩
  | j + 1, hj => simp at hj
set_option maxHeartbeats 4000000 in
theorem kone_any (w : World) : Calls Try.prog 10 #[] w fun e w' => e = .returned (.bool true) ∧ Below w.heap.size w w' := by
  have hW : NewOk (1 : Nat) (0 : Nat) (1 : Nat) (1 : Nat) := by unfold NewOk; omega
  have HW : Hid _ := hW
  clear hW
  go_enter Try.func10, Try.ntmps10
  go_wp2_with fail
  refine (knew_ok 1 0 1 1 HW.out _).mono ?_
  rintro e w1 ⟨rfl, hN1, hb1, -⟩
  obtain ⟨g, hg⟩ : ∃ g, g = w.heap.size := ⟨_, rfl⟩
  rw [← hg] at hN1 hb1 ⊢
  have H1 : Hid (NodeAt w1 g (aloneK 0) ∧ Below g w w1) := ⟨hN1, hb1⟩
  have HG : Hid _ := hg
  clear hN1 hb1 hg
  go_wp2_with fail
  refine (krounds_in g (aloneK 0) _ H1.out.1).mono ?_
  rintro e w2 ⟨rfl, rfl⟩
  rw [show ((3 * ((aloneK 0).f + 1) : Nat) : Int) = 3 from rfl]
  go_wp2_with fail
  rename_i Kr hKr
  have HKr : Hid _ := hKr
  clear hKr
  go_loopw [3] (fun iv wr => ∃ i : Nat, i ≤ 3 ∧ iv = .int .i64 (i : Nat) ∧ NodeAt wr g (aloneK i) ∧ Below g w wr) (fun iv _ => 3 - (Go.RowKit.intOf iv).toNat)
  case atStart => exact ⟨0, Nat.zero_le _, rfl, H1.out⟩
  case round =>
    obtain ⟨i, hi, rfl, hN, hB⟩ := hrel
    rename World => wr
    have HR : Hid (NodeAt wr g (aloneK i) ∧ Below g w wr) := ⟨hN, hB⟩
    clear hN hB
    by_cases hlt : i < 3
    · have hS : sendV (aloneK i) = 1 ∧ (aloneK i).r < 3 * ((aloneK i).f + 1) ∧ [(1 : Int)].length = (aloneK i).n := by
        have : i = 0 ∨ i = 1 ∨ i = 2 := by omega
        rcases this with rfl | rfl | rfl <;> exact ⟨by decide, by decide, by decide⟩
      have HS : Hid _ := hS
      have hlt' : (i : Int) < 3 := by omega
      have HLT : Hid (i < 3) := hlt
      clear HKr hS hlt hi
      go_wp2_with fail
      refine (ksend_in g (aloneK i) _ HR.out.1).mono ?_
      rintro e w3 ⟨rfl, rfl⟩
      rw [HS.out.1]
      go_wp2_with fail
      have hA : Below w3.heap.size w3 (w3.alloc (Obj.cells #[.int .i64 1] 3)) := below_alloc0 (Below.refl _ _) _
      refine (khear_ok g (aloneK i) _ [1] 1 1 rfl _ (HR.out.1.call hA) HS.out.2.1 HS.out.2.2 (ints_one _ _ _)).mono ?_
      rintro e w4 ⟨rfl, hN, hU⟩
      have H4 : Hid (NodeAt w4 g (aloneK (i + 1)) ∧ Below g w w4) := by
        have hlt := HR.out.1.lt
        have hz := hA.size
        exact ⟨hN, (HR.out.2.trans (hA.mono (Nat.le_of_lt hlt))).trans (hU.below (fun k hk => not_from (by omega)))⟩
      clear hN hU hA
      go_wp2_with fail
      go_roundw
      case rel => first | exact ⟨i + 1, HLT.out, by go_num, H4.out⟩ | ((repeat apply Exists.intro); exact ⟨⟨i + 1, HLT.out, by go_num, H4.out⟩, rfl⟩)
      case measure => have h1 := HLT.out; simp [Go.RowKit.intOf]; omega
    · obtain rfl : i = 3 := by omega
      clear hlt hi
      go_wp2_with fail
      refine HKr.out _ _ ?_
      clear HKr
      go_wp2_with fail
      refine (kdone_yes g (aloneK 3) _ HR.out.1 (by decide)).mono ?_
      rintro e w3 ⟨rfl, rfl⟩
      rw [show (((aloneK 3).v : Nat) : Int) = 1 from by decide]
      go_wp2_with fail
      refine (kround_in g (aloneK 3) _ HR.out.1).mono ?_
      rintro e w4 ⟨rfl, rfl⟩
      rw [show (((aloneK 3).r : Nat) : Int) = 3 from by decide]
      go_wp2_with fail
      go_ret
      rw [← HG.out]
      exact ⟨rfl, HR.out.2⟩
theorem kingNil_any (v : Value) (w : World) : Calls Try.prog 6 #[v] w fun e w' => e = .returned (.bool true) ∧ Below w.heap.size w w' := by
  go_enter Try.func6, Try.ntmps6
  go_wp2_with fail
  refine (kdone_nil _).mono ?_
  rintro e w1 ⟨rfl, rfl⟩
  go_wp2_with fail
  refine (ksend_nil _).mono ?_
  rintro e w1 ⟨rfl, rfl⟩
  go_wp2_with fail
  refine (khear_nil _ _).mono ?_
  rintro e w1 ⟨rfl, rfl⟩
  go_wp2_with fail
  refine (kround_nil _).mono ?_
  rintro e w1 ⟨rfl, rfl⟩
  go_wp2_with fail
  refine (krounds_nil _).mono ?_
  rintro e w1 ⟨rfl, rfl⟩
  go_wp2_with fail
  refine (kone_any _).mono ?_
  rintro e w2 ⟨rfl, hb⟩
  have HB : Hid _ := hb
  clear hb
  go_wp2_with fail
  go_ret
  exact ⟨rfl, HB.out⟩
end Go.Proofs.Ytcahfkfafdoilaa
