/- The reference's Number and Pack. -/
import Derived.Test.YtdnahobafhelhaaDoorPcB
import Derived.Test.YtdnahobafhelhaaDoorMgA
namespace Go.Proofs.YtdnahobafhelhaaDoor
open Go Go.RowKit Go.Lib

def one (x : UInt8) : ByteArray := ⟨#[x]⟩
theorem conv_one (y : UInt8) (w : World) : (convert 61 9 (.slice (some ⟨w.heap.size, 0, none⟩) 1 1)).run Tryd.prog (w.alloc (.cells #[.int .u8 (y.toNat : Int)] 5)) = .ok (.string (one y)) (w.alloc (.cells #[.int .u8 (y.toNat : Int)] 5)) := by
  have hR : RowB (w.alloc (.cells #[.int .u8 (y.toNat : Int)] 5)) (fun _ => True) (some ⟨w.heap.size, 0, none⟩) (one y) 1 := by
    refine .inr ⟨w.heap.size, rfl, trivial, by simp, Nat.le_refl _, by decide, fun j u hj => ?_, fun j hj => ?_, fun j => by simp [go_sem]⟩
    · match j, hj with
      | 0, hj => simp [strCells, one] at hj; subst hj; simp [go_sem]
      | j + 1, hj => simp [strCells, one] at hj
    · obtain rfl : j = 0 := by omega
      simp [go_sem]
  exact run_string_RowB (P := Tryd.prog) _ (fun _ => True) 61 5 9 Tryd.underlying61 Tryd.underlying5 Tryd.underlying9 _ _ (one y) hR
set_option maxHeartbeats 1000000 in
theorem number_any (n z : Nat) (hn : n < 9223372036854775808) (hz : z ≤ 8) (w : World) :
    Calls Tryd.prog 30 #[.int .i64 (n : Nat), .int .i64 (z : Nat)] w fun e w' => e = .returned (.string (ofL (numL n z))) ∧ Below w.heap.size w w' := by
  have hsz : ∀ w, (Go.sizeOf 5).run Tryd.prog w = .ok 1 w := fun _ => by kernel_rfl
  go_enter Tryd.func30, Tryd.ntmps30
  go_wp2
  go_loopw [0, 5, 6] (fun nv sv iv wr => ∃ k : Nat, k ≤ z ∧ nv = .int .i64 ((n / 256 ^ k : Nat) : Int) ∧ sv = .string (ofL (numL n k)) ∧ iv = .int .i64 (k : Nat) ∧ Below w.heap.size w wr) (fun _ _ iv _ => z - (intOf iv).toNat)
  case atStart => exact ⟨0, Nat.zero_le _, by simp, rfl, rfl, Below.refl _ _⟩
  case round =>
    obtain ⟨k, hk, rfl, rfl, rfl, hB⟩ := hrel
    rename World => wr
    by_cases hlt : k < z
    · have hlt' : (k : Int) < (z : Int) := Int.ofNat_lt.2 hlt
      obtain ⟨m, hm⟩ : ∃ m, m = n / 256 ^ k := ⟨_, rfl⟩
      rw [← hm]
      obtain ⟨x, hx⟩ : ∃ x, x = UInt8.ofNat m := ⟨_, rfl⟩
      have wx : IntKind.u8.wrap (m : Int) = (x.toNat : Int) := by rw [hx]; exact u8wrap m
      have wx' : (m : Int) % 256 = (x.toNat : Int) := by rw [← wx, IntKind.wrap_u8]
      have hmb : (m : Int) < 9223372036854775808 := by have : m ≤ n := by rw [hm]; exact Nat.div_le_self _ _
                                                       omega
      have hl : (ofL (numL n k)).size ≤ 8 := by rw [ofL_size, numL_length]; omega
      have h1 : (one x).size = 1 := rfl
      have z8 : (z : Int) ≤ 8 := by omega
      have hcv : (convert 61 9 (.slice (some ⟨wr.heap.size, 0, none⟩) 1 1)).run Tryd.prog (wr.alloc (.cells #[.int .u8 (x.toNat : Int)] 5)) = .ok (.string (one x)) (wr.alloc (.cells #[.int .u8 (x.toNat : Int)] 5)) := conv_one x wr
      have HN : Hid (one x ++ ofL (numL n k) = ofL (numL n (k + 1)) ∧ ((m : Int) / 256 = ((n / 256 ^ (k + 1) : Nat) : Int))) := by
        refine ⟨ba_ext ?_, ?_⟩
        · rw [ba_append, ofL_data, ofL_data, numL_cons, ← hm, ← hx]; rfl
        · rw [hm, Nat.pow_succ, ← Nat.div_div_eq_div_mul]; rfl
      have HB : Hid (Below w.heap.size w (wr.alloc (.cells #[.int .u8 (x.toNat : Int)] 5))) := below_alloc0 hB _
      clear hm hx hB wx
      go_wp2
      go_roundw
      case rel => first | exact ⟨k + 1, hlt, by rw [← HN.out.2], by rw [← HN.out.1], by go_num, HB.out⟩ | ((repeat apply Exists.intro); exact ⟨⟨k + 1, hlt, by rw [← HN.out.2], by rw [← HN.out.1], by go_num, HB.out⟩, rfl⟩)
      case measure => simp [intOf]; omega
    · obtain rfl : k = z := by omega
      have hnl : ¬ ((k : Int) < (k : Int)) := Int.lt_irrefl _
      have HB : Hid (Below w.heap.size w wr) := hB
      clear hB hlt
      go_wp2
      go_ret
      exact ⟨rfl, HB.out⟩
end Go.Proofs.YtdnahobafhelhaaDoor
