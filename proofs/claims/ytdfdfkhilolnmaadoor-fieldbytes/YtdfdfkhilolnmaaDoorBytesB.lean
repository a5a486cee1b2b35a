/- limb.Bytes: a number's 32 bytes. -/
import Derived.Test.YtdfdfkhilolnmaaDoorFromB
import Derived.Laws.IdiomStrings
namespace Go.Proofs.YtdfdfkhilolnmaaDoor
open Go.RowKit

def bytesL (a n : Nat) : List UInt8 := (List.range n).map fun j => UInt8.ofNat (byteN a j)
theorem bytesL_length (a n : Nat) : (bytesL a n).length = n := by simp [bytesL]
theorem bytesL_get (a n j : Nat) (h : j < (bytesL a n).length) : ((bytesL a n)[j].toNat : Int) = (byteN a j : Nat) := by
  have l := byteN_lt a j
  simp [bytesL]
  omega
theorem bytesL_succ (a n : Nat) : bytesL a (n + 1) = bytesL a n ++ [UInt8.ofNat (byteN a n)] := by simp [bytesL, List.range_succ]
/-- A block of 32 bytes of which the first k are in. -/
def Row32 (wr : World) (b a k : Nat) : Prop := (∀ j, j < 32 → wr.cell? ⟨b, j, none⟩ = some (.int .u8 (if j < k then byteN a j else 0 : Nat))) ∧ (∀ j, j < 32 → wr.frozen? ⟨b, j, none⟩ = false) ∧ b < wr.heap.size
theorem Row32.set {wr : World} {b a k x : Nat} (h : Row32 wr b a k) (hk : k < 32) (hx : x = byteN a k) : Row32 (wr.setCell ⟨b, k, none⟩ (.int .u8 (x : Nat))) b a (k + 1) := by
  refine ⟨fun j hj => ?_, fun j hj => by rw [World.frozen?_setCell]; exact h.2.1 j hj, by rw [World.size_setCell]; exact h.2.2⟩
  by_cases e : j = k
  · subst e
    rw [World.cell?_setCell_same _ _ _ (h.1 j hj), hx, if_pos (by omega)]
  · rw [World.cell?_setCell_other _ _ _ _ (by intro c; injection c with _ c2 _; exact e c2.symm), h.1 j hj]
    by_cases g : j < k
    · rw [if_pos g, if_pos (by omega)]
    · rw [if_neg g, if_neg (by omega)]
theorem Row32.text {wr : World} {b a : Nat} (h : Row32 wr b a 32) (cap : Nat) : (convert 83 9 (.slice (some ⟨b, 0, none⟩) 32 cap)).run Tryd.prog wr = .ok (.string ⟨(bytesL a 32).toArray⟩) wr := by
  have g := run_convert_bytes_back (P := Tryd.prog) wr 83 9 5 ⟨b, 0, none⟩ cap (bytesL a 32) Tryd.underlying83 Tryd.underlying5 Tryd.underlying9 (fun j hj => by
    have hj' := hj
    rw [bytesL_length] at hj'
    rw [bytesL_get]
    have e := h.1 j hj'
    rw [if_pos hj'] at e
    have e2 : (Addr.add ⟨b, 0, none⟩ j) = ⟨b, j, none⟩ := by
      simp only [Addr.add]
      split
      · rename_i h0; have : j = 0 := by simpa using h0
        subst this; rfl
      · simp
    rw [e2]
    exact e)
  rw [bytesL_length] at g
  exact g

set_option maxHeartbeats 2000000 in
theorem bytes_any (a : Nat) (w : World) :
    Calls Tryd.prog 62 #[.agg #[.int .u64 (limb (a) 0 : Nat), .int .u64 (limb (a) 1 : Nat), .int .u64 (limb (a) 2 : Nat), .int .u64 (limb (a) 3 : Nat)]] w fun e w' => e = .returned (.string ⟨(bytesL a 32).toArray⟩) ∧ Below w.heap.size w w' := by
  go_enter Tryd.func62, Tryd.ntmps62
  go_wp2_with fail
  go_loopw [6] (fun i wr => ∃ k : Nat, k ≤ 32 ∧ i = .int .i64 k ∧ Row32 wr (w.heap.size + 1) a k ∧ Num4 wr w.heap.size a ∧ Below w.heap.size w wr)
    (fun i _ => 32 - (intOf i).toNat)
  case atStart =>
    refine ⟨0, by omega, rfl, ⟨?_, ?_, by simp⟩, by ((repeat' (first | assumption | (refine Num4.new' ?_; first | omega | (simp; done)) | refine Num4.set ?_ ?_ | refine Num4.alloc ?_ ?_ | refine Num4.drewN ?_ | refine Num4.call ?_ (by assumption) ?_)) <;> (first | omega | (simp; done) | (simp; omega))), by ((repeat' (first | with_reducible exact Below.refl _ _ | with_reducible refine Below.setCell ?_ ?_ _ | with_reducible refine below_alloc0 ?_ _ | with_reducible refine below_drewN ?_ _ | with_reducible refine Below.drew ?_ | refine below_call0 ?_ (by assumption))) <;> (first | omega | (simp; done) | (simp; omega)))⟩
    · intro j hj
      have e : (w.heap.size + 1) = (w.alloc (.cells #[.int .u64 (limb a 0 : Nat), .int .u64 (limb a 1 : Nat), .int .u64 (limb a 2 : Nat), .int .u64 (limb a 3 : Nat)] 24)).heap.size := by simp
      rw [e, World.cell?_alloc_new, if_neg (by omega)]
      match j, hj with
      | 0, _ | 1, _ | 2, _ | 3, _ | 4, _ | 5, _ | 6, _ | 7, _ | 8, _ | 9, _ | 10, _ | 11, _ | 12, _ | 13, _ | 14, _ | 15, _ | 16, _ | 17, _ | 18, _ | 19, _ | 20, _ | 21, _ | 22, _ | 23, _ | 24, _ | 25, _ | 26, _ | 27, _ | 28, _ | 29, _ | 30, _ | 31, _ => rfl
      | n + 32, h => exact absurd h (by omega)
    · intro j _
      simp
  case round =>
    obtain ⟨k, hk, rfl, hL, hN, hbel⟩ := hrel
    by_cases hlt : k < 32
    · obtain ⟨pl, hpl⟩ : ∃ pl, pl = 31 - k := ⟨_, rfl⟩
      obtain ⟨i0, hi0⟩ : ∃ i0, i0 = pl / 8 := ⟨_, rfl⟩
      obtain ⟨r, hr⟩ : ∃ r, r = pl % 8 := ⟨_, rfl⟩
      obtain ⟨sh, hsh⟩ : ∃ sh, sh = r * 8 := ⟨_, rfl⟩
      obtain ⟨x, hx⟩ : ∃ x, x = byteN a k := ⟨_, rfl⟩
      obtain ⟨c, hc⟩ : ∃ c, c = limb a i0 := ⟨_, rfl⟩
      have i1 : i0 < 4 := by omega
      have ik : i0 = 3 - k / 8 := by omega
      have rk : r = 7 - k % 8 := by omega
      have e0 : (31 : Int) - (k : Int) = (pl : Nat) := by omega
      have e1 : (pl : Int).tdiv 8 = (i0 : Nat) := by rw [Int.tdiv_eq_ediv_of_nonneg (by omega)]; omega
      have e1' : (pl : Int) / 8 = (i0 : Nat) := by omega
      have e2 : (pl : Int).tmod 8 = (r : Nat) := by rw [Int.tmod_eq_emod_of_nonneg (by omega)]; omega
      have e2' : (pl : Int) % 8 = (r : Nat) := by omega
      have e3 : (r : Int) * 8 = (sh : Nat) := by omega
      have e5 : IntKind.u8.wrap ((c : Int) / 2 ^ sh) = (x : Nat) := by
        have e : (c : Int) / 2 ^ sh = ((c / 256 ^ (7 - k % 8) : Nat) : Int) := by
          rw [hsh, rk, Nat.mul_comm (7 - k % 8) 8, Int.natCast_ediv, Int.natCast_pow, Int.pow_mul]
          rfl
        rw [e, hx]
        unfold byteN
        rw [← ik, ← hc]
        generalize c / 256 ^ (7 - k % 8) = y
        rw [IntKind.wrap_u8]
        omega
      have s2 : (sh : Int) < 64 := by omega
      have gc : wr.cell? ⟨w.heap.size, i0, none⟩ = some (.int .u64 (c : Nat)) := by rw [hN i0 i1, hc]
      have g2 := hL.1 k hlt
      have gf := hL.2.1 k hlt
      rw [if_neg (by omega)] at g2
      have HL : Hid _ := And.intro (hL.set hlt hx) (And.intro (hN.set (p := ⟨w.heap.size + 1, k, none⟩) (v := .int .u8 (x : Nat)) (by simp)) (hbel.setCell (p := ⟨w.heap.size + 1, k, none⟩) (by simp) (.int .u8 (x : Nat))))
      clear hL hN hbel hpl hi0 hr hsh hx hc ik rk
      go_wp2_with fail
      go_roundw
      case rel => exact ⟨k + 1, by omega, by go_num, HL.out.1, HL.out.2.1, HL.out.2.2⟩
      case measure => simp [intOf]; omega
    · have hk32 : k = 32 := by omega
      subst hk32
      have hcv := hL.text 32
      clear hL hN
      go_wp2_with fail
      go_ret
      exact ⟨rfl, hbel⟩
end Go.Proofs.YtdfdfkhilolnmaaDoor
