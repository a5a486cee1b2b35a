/- Package domain: a number's bytes, which tags are tags; the reference's Number and Tag. -/
import Derived.Test.YtienklnigigepaaGreatDoorDmN
import Derived.Test.YtienklnigigepaaGreatDoorRef4V
namespace Go.Proofs.YtienklnigigepaaGreatDoor
open Go Go.RowKit Go.Lib

theorem numL_get (n : Nat) : ∀ (z j : Nat), j < z → (numL n z)[j]? = some (UInt8.ofNat (n / 256 ^ (z - 1 - j)))
  | 0, j, h => absurd h (by omega)
  | z + 1, 0, _ => by rw [numL_cons]; rfl
  | z + 1, j + 1, h => by
    rw [numL_cons, List.getElem?_cons_succ, numL_get n z j (by omega)]
    rw [show z - 1 - j = z + 1 - 1 - (j + 1) by omega]
def byteH (n z j : Nat) : Nat := n / 256 ^ (z - 1 - j) % 256
theorem num_text (w : World) (g n z cap : Nat) (h : RowK .u8 w g z (byteH n z)) : (convert 95 9 (.slice (some ⟨g, 0, none⟩) z cap)).run Tryz.prog w = .ok (.string (ofL (numL n z))) w := by
  have e1 : (numL n z).length = z := numL_length z n
  have g2 := run_convert_bytes_back (P := Tryz.prog) w 95 9 5 ⟨g, 0, none⟩ cap (numL n z) Tryz.underlying95 Tryz.underlying5 Tryz.underlying9 (fun j hj => by
    have hj' := hj
    rw [e1] at hj'
    have e2 : (Addr.add ⟨g, 0, none⟩ j) = ⟨g, j, none⟩ := by
      simp only [Addr.add]
      split
      · rename_i h0; have : j = 0 := by simpa using h0
        subst this; rfl
      · simp
    have e3 := numL_get n z j hj'
    rw [List.getElem?_eq_getElem hj] at e3
    rw [e2, h.1 j hj', Option.some.inj e3]
    unfold byteH
    simp)
  rw [e1] at g2
  exact g2
set_option maxRecDepth 100000 in
set_option maxHeartbeats 1000000 in
theorem highFirst_any (n z : Nat) (hn : n < 9223372036854775808) (hz1 : 1 ≤ z) (hz : z ≤ 8) (w : World) :
    Calls Tryz.prog 142 #[.int .i64 (n : Nat), .int .i64 (z : Nat)] w fun e w' => e = .returned (.string (ofL (numL n z))) ∧ Below w.heap.size w w' := by
  have m1 := fun w => make_u8 z (by omega) w
  have z8 : (z : Int) ≤ 8 := by omega
  have HZ : Hid (n < 9223372036854775808 ∧ 1 ≤ z ∧ z ≤ 8) := ⟨hn, hz1, hz⟩
  clear hz1 hz hn
  go_enter Tryz.func142, Tryz.ntmps142
  go_wp2_with fail
  go_loopw [11] (fun i wr => ∃ k : Nat, k ≤ z ∧ i = .int .i64 k ∧ RowK .u8 wr w.heap.size z (fun j => if j < k then byteH n z j else 0) ∧ Below w.heap.size w wr)
    (fun i _ => z - (intOf i).toNat)
  case atStart =>
    exact ⟨0, by omega, rfl, RowK.made .u8 w z _, below_alloc0' (Below.refl _ _) _⟩
  case round =>
    obtain ⟨k, hk, rfl, hR, hB⟩ := hrel
    rename World => wr
    by_cases hlt : k < z
    · have hlt' : (k : Int) < (z : Int) := Int.ofNat_lt.2 hlt
      obtain ⟨sh, hsh⟩ : ∃ sh, sh = 8 * (z - 1 - k) := ⟨_, rfl⟩
      obtain ⟨x, hx⟩ : ∃ x, x = byteH n z k := ⟨_, rfl⟩
      have e0 : (8 : Int) * ((z : Int) - 1 - (k : Int)) = (sh : Nat) := by omega
      have e1 : ((z : Int) - 1 - (k : Int)) = ((z - 1 - k : Nat) : Int) := by omega
      have e5 : IntKind.u8.wrap ((n : Int) / 2 ^ sh) = (x : Nat) := by
        have e : (n : Int) / 2 ^ sh = ((n / 256 ^ (z - 1 - k) : Nat) : Int) := by
          rw [hsh, Int.natCast_ediv, Int.natCast_pow, Int.pow_mul]
          rfl
        rw [e, hx]
        unfold byteH
        generalize n / 256 ^ (z - 1 - k) = y
        rw [IntKind.wrap_u8]
        omega
      have s2 : (sh : Int) < 64 := by omega
      have g2 := hR.1 k hlt
      have gf := hR.2.1 k
      simp only [Nat.lt_irrefl, if_false] at g2
      have HL : Hid (RowK .u8 (wr.setCell ⟨w.heap.size, k, none⟩ (.int .u8 (x : Nat))) w.heap.size z (fun j => if j < k + 1 then byteH n z j else 0) ∧ Below w.heap.size w (wr.setCell ⟨w.heap.size, k, none⟩ (.int .u8 (x : Nat)))) := by
        refine ⟨hR.set hlt (by simp [hx]) fun j _ hj => ?_, hB.setCell (p := ⟨w.heap.size, k, none⟩) (Nat.le_refl _) _⟩
        by_cases c : j < k
        · rw [if_pos c, if_pos (by omega)]
        · rw [if_neg c, if_neg (by omega)]
      clear hR hB hsh hx e1
      go_wp2_with fail
      go_roundw
      case rel => exact ⟨k + 1, by omega, by go_num, HL.out.1, HL.out.2⟩
      case measure => simp [intOf]; omega
    · obtain rfl : k = z := by omega
      have hR' : RowK .u8 wr w.heap.size k (byteH n k) := ⟨fun j hj => by have e := hR.1 j hj; simp only [hj, if_true] at e; exact e, hR.2⟩
      have hcv := num_text wr w.heap.size n k k hR'
      have hnl : ¬ ((k : Int) < (k : Int)) := Int.lt_irrefl _
      have HB : Hid (Below w.heap.size w wr) := hB
      clear hR hR' hB
      go_wp2_with fail
      go_ret
      exact ⟨rfl, HB.out⟩
def tagB (s : ByteArray) : Bool := decide (1 ≤ s.size ∧ s.size ≤ 40)
theorem isTag_any (s : ByteArray) (w : World) : Calls Tryz.prog 104 #[.string s] w fun e w' => e = .returned (.bool (tagB s)) ∧ w' = w := by
  unfold tagB
  obtain ⟨n, hn⟩ : ∃ n, n = s.size := ⟨_, rfl⟩
  by_cases h1 : 1 ≤ s.size
  · have h1' : ¬ ((s.size : Int) < 1) := by omega
    have h1'' : (1 : Int) ≤ (s.size : Int) := by omega
    by_cases h2 : s.size ≤ 40
    · have h2' : (s.size : Int) ≤ 40 := by omega
      have hd : decide (1 ≤ s.size ∧ s.size ≤ 40) = true := decide_eq_true ⟨h1, h2⟩
      rw [hd]
      clear hd h1 h2 hn
      go_enter Tryz.func104, Tryz.ntmps104
      go_wp2
      go_ret
      exact ⟨rfl, rfl⟩
    · have h2' : ¬ ((s.size : Int) ≤ 40) := by omega
      have hd : decide (1 ≤ s.size ∧ s.size ≤ 40) = false := decide_eq_false (by omega)
      rw [hd]
      clear hd h1 h2 hn
      go_enter Tryz.func104, Tryz.ntmps104
      go_wp2
      go_ret
      exact ⟨rfl, rfl⟩
  · have h1' : ¬ ((1 : Int) ≤ (s.size : Int)) := by omega
    have hd : decide (1 ≤ s.size ∧ s.size ≤ 40) = false := decide_eq_false (by omega)
    rw [hd]
    clear hd h1 hn
    go_enter Tryz.func104, Tryz.ntmps104
    go_wp2
    go_ret
    exact ⟨rfl, rfl⟩
end Go.Proofs.YtienklnigigepaaGreatDoor
