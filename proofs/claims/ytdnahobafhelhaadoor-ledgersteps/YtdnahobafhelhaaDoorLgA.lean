/- Package ledger: the seal of a record. -/
import Derived.Test.YtdnahobafhelhaaDoorLgN
import Derived.Test.YtdnahobafhelhaaDoorShaF
import Derived.Test.YtdnahobafhelhaaDoorMgA
import Derived.Laws.IdiomStrings
namespace Go.Proofs.YtdnahobafhelhaaDoor
open Go Go.RowKit Go.Lib

def byte8 (n j : Nat) : Nat := n / 256 ^ (7 - j) % 256
theorem num8_get (n j : Nat) (h : j < (numL n 8).length) : (((numL n 8)[j]'h).toNat : Int) = (byte8 n j : Nat) := by
  have hj : j < 8 := by rw [numL_length] at h; exact h
  have hu : ∀ y : Nat, (UInt8.ofNat y).toNat = y % 256 := fun y => by simp
  simp only [num8]
  match j, hj with
  | 0, _ | 1, _ | 2, _ | 3, _ | 4, _ | 5, _ | 6, _ | 7, _ => simp [byte8]
  | j + 8, h => exact absurd h (by omega)
/-- A block of 8 bytes of which the first k are in. -/
def Row8 (wr : World) (b n k : Nat) : Prop := (∀ j, j < 8 → wr.cell? ⟨b, j, none⟩ = some (.int .u8 (if j < k then byte8 n j else 0 : Nat))) ∧ (∀ j, j < 8 → wr.frozen? ⟨b, j, none⟩ = false) ∧ b < wr.heap.size
theorem Row8.set {wr : World} {b n k x : Nat} (h : Row8 wr b n k) (hk : k < 8) (hx : x = byte8 n k) : Row8 (wr.setCell ⟨b, k, none⟩ (.int .u8 (x : Nat))) b n (k + 1) := by
  refine ⟨fun j hj => ?_, fun j hj => by rw [World.frozen?_setCell]; exact h.2.1 j hj, by rw [World.size_setCell]; exact h.2.2⟩
  by_cases e : j = k
  · subst e
    rw [World.cell?_setCell_same _ _ _ (h.1 j hj), hx, if_pos (by omega)]
  · rw [World.cell?_setCell_other _ _ _ _ (by intro c; injection c with _ c2 _; exact e c2.symm), h.1 j hj]
    by_cases g : j < k
    · rw [if_pos g, if_pos (by omega)]
    · rw [if_neg g, if_neg (by omega)]
theorem Row8.text {wr : World} {b n : Nat} (h : Row8 wr b n 8) (cap : Nat) : (convert 61 9 (.slice (some ⟨b, 0, none⟩) 8 cap)).run Tryd.prog wr = .ok (.string (ofL (numL n 8))) wr := by
  have g := run_convert_bytes_back (P := Tryd.prog) wr 61 9 5 ⟨b, 0, none⟩ cap (numL n 8) Tryd.underlying61 Tryd.underlying5 Tryd.underlying9 (fun j hj => by
    have hj' := hj
    rw [numL_length] at hj'
    rw [num8_get]
    have e := h.1 j hj'
    rw [if_pos hj'] at e
    have e2 : (Addr.add ⟨b, 0, none⟩ j) = ⟨b, j, none⟩ := by
      simp only [Addr.add]
      split
      · rename_i h0; have : j = 0 := by simpa using h0
        subst this; rfl
      · simp
    rw [e2]
    exact e)
  rw [numL_length] at g
  exact g
theorem shaS_size' (s : ByteArray) : (shaS s).size = 32 := by unfold shaS sumS; rw [strOf_size, hfL_length]
/-- The seal of a record: the first four bytes of the digest of its number and itself. -/
def sealS (n : Nat) (s : ByteArray) : ByteArray := (shaS (ofL (numL n 8) ++ s)).extract 0 4
set_option maxRecDepth 20000 in
set_option maxHeartbeats 2000000 in
theorem seal_any (n : Nat) (s : ByteArray) (hs : s.size < 1152921504606846968) (w : World) (hG : GlobD w) (hz : 1 < w.heap.size) :
    Calls Tryd.prog 37 #[.int .i64 (n : Nat), .string s] w fun e w' => e = .returned (.string (sealS n s)) ∧ Below w.heap.size w w' := by
  have K1 : Hid _ := fun (w : World) (h : GlobD w) (hz : 1 < w.heap.size) => sum_any (ofL (numL n 8) ++ s) (by rw [ByteArray.size_append, ofL_size, numL_length]; omega) w h hz
  have HG : Hid (GlobD w ∧ 1 < w.heap.size) := ⟨hG, hz⟩
  clear hG hz
  go_enter Tryd.func37, Tryd.ntmps37
  go_wp2_with fail
  go_loopw [7] (fun i wr => ∃ k : Nat, k ≤ 8 ∧ i = .int .i64 k ∧ Row8 wr w.heap.size n k ∧ Below w.heap.size w wr)
    (fun i _ => 8 - (intOf i).toNat)
  case atStart =>
    refine ⟨0, by omega, rfl, ⟨?_, ?_, by simp⟩, below_alloc0 (Below.refl _ _) _⟩
    · intro j hj
      rw [World.cell?_alloc_new, if_neg (by omega)]
      match j, hj with
      | 0, _ | 1, _ | 2, _ | 3, _ | 4, _ | 5, _ | 6, _ | 7, _ => rfl
      | n + 8, h => exact absurd h (by omega)
    · intro j _
      simp
  case round =>
    obtain ⟨k, hk, rfl, hL, hbel⟩ := hrel
    rename World => wr
    by_cases hlt : k < 8
    · obtain ⟨pl, hpl⟩ : ∃ pl, pl = 7 - k := ⟨_, rfl⟩
      obtain ⟨sh, hsh⟩ : ∃ sh, sh = 8 * pl := ⟨_, rfl⟩
      obtain ⟨x, hx⟩ : ∃ x, x = byte8 n k := ⟨_, rfl⟩
      have e0 : (7 : Int) - (k : Int) = (pl : Nat) := by omega
      have e3 : (8 : Int) * (pl : Int) = (sh : Nat) := by omega
      have e5 : IntKind.u8.wrap ((n : Int) / 2 ^ sh) = (x : Nat) := by
        have e : (n : Int) / 2 ^ sh = ((n / 256 ^ (7 - k) : Nat) : Int) := by
          rw [hsh, hpl, Int.natCast_ediv, Int.natCast_pow, Int.pow_mul]
          rfl
        rw [e, hx]
        unfold byte8
        generalize n / 256 ^ (7 - k) = y
        rw [IntKind.wrap_u8]
        omega
      have s2 : (sh : Int) < 64 := by omega
      have g2 := hL.1 k hlt
      have gf := hL.2.1 k hlt
      rw [if_neg (by omega)] at g2
      have HL : Hid _ := And.intro (hL.set hlt hx) (hbel.setCell (p := ⟨w.heap.size, k, none⟩) (by simp) (.int .u8 (x : Nat)))
      clear hL hbel hpl hsh hx
      go_wp2_with fail
      go_roundw
      case rel => exact ⟨k + 1, by omega, by go_num, HL.out.1, HL.out.2⟩
      case measure => simp [intOf]; omega
    · have hk8 : k = 8 := by omega
      subst hk8
      have hcv := hL.text 8
      clear hL
      have HT : Hid (sealS n s = (shaS (ofL (numL n 8) ++ s)).extract 0 4) := rfl
      have hT8 : (ofL (numL n 8)).size = 8 := by rw [ofL_size, numL_length]
      generalize ofL (numL n 8) = T at hcv HT K1 hT8
      have HB : Hid (Below w.heap.size w wr) := hbel
      clear hbel
      go_wp2_with fail
      refine (K1.out _ (HG.out.1.call HB.out) (Nat.lt_of_lt_of_le HG.out.2 HB.out.size)).mono ?_
      rintro e w1 ⟨rfl, hb1⟩
      have HB1 : Hid (Below w.heap.size w w1) := below_call0 HB.out hb1
      have hS : (shaS (T ++ s)).size = 32 := shaS_size' _
      generalize shaS (T ++ s) = Z at HT hS ⊢
      clear K1 hb1 hcv HB HG hT8 hs
      go_wp2_with fail
      go_ret
      exact ⟨by rw [HT.out]; rfl, HB1.out⟩
end Go.Proofs.YtdnahobafhelhaaDoor
