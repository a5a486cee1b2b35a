/- Several texts laid together. -/
import Derived.Test.YtchphekaonnfeaaDoorLbA
import Derived.BigRegion
import Derived.Laws.IdiomStrings
import Derived.Laws.AppendOwn
import Derived.Deep.AppendLies
namespace Go.Proofs.YtchphekaonnfeaaDoor

/-- The value of t digits of 8 bits from place s on, the highest first. -/
def hz (d : Nat → Nat) (s : Nat) : Nat → Nat
  | 0 => 0
  | t + 1 => hz d s t * 256 + d (s + t)
theorem hz_succ (d : Nat → Nat) (s t : Nat) : hz d s (t + 1) = hz d s t * 256 + d (s + t) := rfl
theorem hz_lt (d : Nat → Nat) (hd : ∀ j, d j < 256) (s : Nat) : ∀ t, hz d s t < 256 ^ t
  | 0 => by simp [hz]
  | t + 1 => by
    have h1 := hz_lt d hd s t
    have h2 := hd (s + t)
    rw [hz_succ, Nat.pow_succ]
    omega
/-- How many of the eight bytes of limb k are in when i bytes are. -/
def clamp (i k : Nat) : Nat := min (i - 8 * (3 - k)) 8
theorem clamp_zero (k : Nat) : clamp 0 k = 0 := by unfold clamp; omega
theorem clamp_full (k : Nat) (h : k < 4) : clamp 32 k = 8 := by unfold clamp; omega
theorem clamp_same (i k : Nat) (hi : i < 32) (hk : k = 3 - i / 8) : clamp i k = i % 8 ∧ clamp (i + 1) k = i % 8 + 1 ∧ 8 * (3 - k) + i % 8 = i := by unfold clamp; omega
theorem clamp_other (i k : Nat) (hi : i < 32) (hk4 : k < 4) (hk : k ≠ 3 - i / 8) : clamp (i + 1) k = clamp i k := by unfold clamp; omega
def numB (d : Nat → Nat) : Nat := join4 (hz d 24 8) (hz d 16 8) (hz d 8 8) (hz d 0 8)
theorem hz8_lt (d : Nat → Nat) (hd : ∀ j, d j < 256) (s : Nat) : hz d s 8 < M64 := by
  have := hz_lt d hd s 8
  have e : (256 : Nat) ^ 8 = M64 := by decide
  omega
theorem numB_lt (d : Nat → Nat) (hd : ∀ j, d j < 256) : numB d < R256 := join4_lt _ _ _ _ (hz8_lt d hd _) (hz8_lt d hd _) (hz8_lt d hd _) (hz8_lt d hd _)
theorem limb_numB (d : Nat → Nat) (hd : ∀ j, d j < 256) : limb (numB d) 0 = hz d 24 8 ∧ limb (numB d) 1 = hz d 16 8 ∧ limb (numB d) 2 = hz d 8 8 ∧ limb (numB d) 3 = hz d 0 8 :=
  ⟨limb_join0 _ _ _ _ (hz8_lt d hd _), limb_join1 _ _ _ _ (hz8_lt d hd _) (hz8_lt d hd _), limb_join2 _ _ _ _ (hz8_lt d hd _) (hz8_lt d hd _) (hz8_lt d hd _), limb_join3 _ _ _ _ (hz8_lt d hd _) (hz8_lt d hd _) (hz8_lt d hd _) (hz8_lt d hd _)⟩
theorem limb_numB' (d : Nat → Nat) (hd : ∀ j, d j < 256) (k : Nat) (hk : k < 4) : limb (numB d) k = hz d (8 * (3 - k)) 8 := by
  obtain ⟨h0, h1, h2, h3⟩ := limb_numB d hd
  have e : k = 0 ∨ k = 1 ∨ k = 2 ∨ k = 3 := by omega
  rcases e with rfl | rfl | rfl | rfl <;> assumption
/-- Byte j of a number's 32, the highest first. -/
def byteN (a j : Nat) : Nat := limb a (3 - j / 8) / 256 ^ (7 - j % 8) % 256
theorem byteN_lt (a j : Nat) : byteN a j < 256 := Nat.mod_lt _ (by decide)
/-- What limb.FromBytes's limb k holds when i bytes are in. -/
def progB (d : Nat → Nat) (i k : Nat) : Nat := hz d (8 * (3 - k)) (clamp i k) * 256 ^ (8 - clamp i k)
theorem progB_same (d : Nat → Nat) (i k : Nat) (hi : i < 32) (hk : k = 3 - i / 8) : progB d (i + 1) k = progB d i k + d i * 256 ^ (7 - i % 8) := by
  obtain ⟨e1, e2, e3⟩ := clamp_same i k hi hk
  unfold progB
  rw [e1, e2, hz_succ, e3, Nat.add_mul, show 8 - (i % 8 + 1) = 7 - i % 8 from by omega, show 8 - i % 8 = (7 - i % 8) + 1 from by omega, Nat.pow_succ, Nat.mul_assoc, Nat.mul_comm 256]
theorem progB_other (d : Nat → Nat) (i k : Nat) (hi : i < 32) (hk4 : k < 4) (hk : k ≠ 3 - i / 8) : progB d (i + 1) k = progB d i k := by
  unfold progB; rw [clamp_other i k hi hk4 hk]
theorem progB_zero (d : Nat → Nat) (k : Nat) : progB d 0 k = 0 := by unfold progB; rw [clamp_zero]; simp [hz]
theorem progB_full (d : Nat → Nat) (hd : ∀ j, d j < 256) (k : Nat) (hk : k < 4) : progB d 32 k = limb (numB d) k := by
  unfold progB
  rw [clamp_full k hk, limb_numB' d hd k hk]
  simp
theorem progB_or (d : Nat → Nat) (hd : ∀ j, d j < 256) (i k : Nat) (hi : i < 32) (hk : k = 3 - i / 8) : progB d i k ||| d i * 256 ^ (7 - i % 8) = progB d (i + 1) k ∧ progB d i k < M64 ∧ d i * 256 ^ (7 - i % 8) < M64 := by
  obtain ⟨e1, _, _⟩ := clamp_same i k hi hk
  have dl := hd i
  have hl := hz_lt d hd (8 * (3 - k)) (i % 8)
  have p1 : (256 : Nat) ^ (8 - i % 8) = 256 * 256 ^ (7 - i % 8) := by rw [show 8 - i % 8 = (7 - i % 8) + 1 from by omega, Nat.pow_succ, Nat.mul_comm]
  have p2 : (256 : Nat) ^ (i % 8) * 256 ^ (8 - i % 8) = M64 := by rw [← Nat.pow_add, show i % 8 + (8 - i % 8) = 8 from by omega]; decide
  have q1 : d i * 256 ^ (7 - i % 8) < 256 ^ (8 - i % 8) := by rw [p1]; exact Nat.mul_lt_mul_of_pos_right dl (Nat.pow_pos (by decide))
  refine ⟨?_, ?_, ?_⟩
  · rw [progB_same d i k hi hk]
    unfold progB
    rw [e1]
    have e : (256 : Nat) ^ (8 - i % 8) = 2 ^ (8 * (8 - i % 8)) := by rw [Nat.pow_mul]
    rw [e] at q1 ⊢
    rw [Nat.mul_comm (hz _ _ _)]
    exact (Nat.two_pow_add_eq_or_of_lt q1 _).symm
  · unfold progB
    rw [e1, ← p2]
    exact Nat.mul_lt_mul_of_pos_right hl (Nat.pow_pos (by decide))
  · refine Nat.lt_of_lt_of_le q1 ?_
    rw [← p2]
    exact Nat.le_mul_of_pos_left _ (Nat.pow_pos (by decide))
end Go.Proofs.YtchphekaonnfeaaDoor

namespace Go.Proofs.YtchphekaonnfeaaDoor
open Go.RowKit

def sbyte (s : ByteArray) (j : Nat) : Nat := if h : j < s.size then (s[j]'h).toNat else 0
theorem sbyte_eq (s : ByteArray) (j : Nat) (h : j < s.size) : (s[j]'h).toNat = sbyte s j := by unfold sbyte; rw [dif_pos h]
theorem sbyte_lt (s : ByteArray) (j : Nat) : sbyte s j < 256 := by
  unfold sbyte
  split
  · exact UInt8.toNat_lt _
  · omega
/-- A block of four limbs that may be written. -/
def Lim (wr : World) (b : Nat) (f : Nat → Nat) : Prop := (∀ j, j < 4 → wr.cell? ⟨b, j, none⟩ = some (.int .u64 (f j : Nat))) ∧ (∀ j, j < 4 → wr.frozen? ⟨b, j, none⟩ = false) ∧ b < wr.heap.size
theorem Lim.set {wr : World} {b : Nat} {f g : Nat → Nat} {i x : Nat} (h : Lim wr b f) (hi : i < 4) (hx : x = g i) (ho : ∀ j, j < 4 → j ≠ i → g j = f j) : Lim (wr.setCell ⟨b, i, none⟩ (.int .u64 (x : Nat))) b g := by
  refine ⟨fun j hj => ?_, fun j hj => by rw [World.frozen?_setCell]; exact h.2.1 j hj, by rw [World.size_setCell]; exact h.2.2⟩
  by_cases e : j = i
  · subst e
    rw [World.cell?_setCell_same _ _ _ (h.1 j hj), hx]
  · rw [World.cell?_setCell_other _ _ _ _ (by intro c; injection c with _ c2 _; exact e c2.symm), h.1 j hj, ho j hj e]
theorem Lim.drew {wr : World} {b : Nat} {f : Nat → Nat} (h : Lim wr b f) : Lim wr.drew b f := h

set_option maxHeartbeats 2000000 in
theorem from_any (s : ByteArray) (hs : s.size = 32) (w : World) :
    Calls Tryd.prog 70 #[.string s] w fun e w' => e = .returned (.tuple #[.agg #[.int .u64 (limb (numB (sbyte s)) 0 : Nat), .int .u64 (limb (numB (sbyte s)) 1 : Nat), .int .u64 (limb (numB (sbyte s)) 2 : Nat), .int .u64 (limb (numB (sbyte s)) 3 : Nat)], .int .i64 0]) ∧ Below w.heap.size w w' := by
  obtain ⟨n, hn⟩ : ∃ n, n = numB (sbyte s) := ⟨_, rfl⟩
  rw [← hn]
  have HF : Hid (∀ k, k < 4 → progB (sbyte s) 32 k = limb n k) := fun k hk => by rw [hn]; exact progB_full _ (sbyte_lt s) k hk
  clear hn
  have hsz : (s.size : Int) = 32 := by omega
  have HSZ : Hid _ := hs
  clear hs
  go_enter Tryd.func70, Tryd.ntmps70
  go_wp2_with fail
  go_loopw [13] (fun i wr => ∃ k : Nat, k ≤ 32 ∧ i = .int .i64 k ∧ Lim wr (w.heap.size + 1) (progB (sbyte s) k) ∧ Pend wr w.heap.size ∧ Below w.heap.size w wr)
    (fun i _ => 32 - (intOf i).toNat)
  case atStart =>
    refine ⟨0, by omega, rfl, ⟨?_, ?_, by simp⟩, (Pend.new w _).alloc, by ((repeat' (first | with_reducible exact Below.refl _ _ | with_reducible refine Below.setCell ?_ ?_ _ | with_reducible refine below_alloc0 ?_ _ | with_reducible refine below_drewN ?_ _ | with_reducible refine Below.drew ?_ | refine below_call0 ?_ (by assumption))) <;> (first | omega | (simp; done) | (simp; omega)))⟩
    · intro j hj
      rw [progB_zero]
      have h := (Pend.new (w.alloc (.cells #[.int .u64 0, .int .u64 0, .int .u64 0, .int .u64 0] 24)) 24).1 j hj
      simpa using h
    · intro j _
      simp
  case round =>
    obtain ⟨k, hk, rfl, hL, hP, hbel⟩ := hrel
    by_cases hlt : k < 32
    · obtain ⟨pl, hpl⟩ : ∃ pl, pl = 31 - k := ⟨_, rfl⟩
      obtain ⟨i0, hi0⟩ : ∃ i0, i0 = pl / 8 := ⟨_, rfl⟩
      obtain ⟨r, hr⟩ : ∃ r, r = pl % 8 := ⟨_, rfl⟩
      obtain ⟨sh, hsh⟩ : ∃ sh, sh = r * 8 := ⟨_, rfl⟩
      obtain ⟨d, hd⟩ : ∃ d, d = sbyte s k := ⟨_, rfl⟩
      obtain ⟨c, hc⟩ : ∃ c, c = progB (sbyte s) k i0 := ⟨_, rfl⟩
      obtain ⟨v, hv⟩ : ∃ v, v = d * 256 ^ (7 - k % 8) := ⟨_, rfl⟩
      obtain ⟨x, hx⟩ : ∃ x, x = progB (sbyte s) (k + 1) i0 := ⟨_, rfl⟩
      have i1 : i0 < 4 := by omega
      have ik : i0 = 3 - k / 8 := by omega
      have rk : r = 7 - k % 8 := by omega
      obtain ⟨or1, cl, vl⟩ := progB_or (sbyte s) (sbyte_lt s) k i0 hlt ik
      rw [← hd, ← hv] at or1 vl
      rw [← hc] at or1 cl
      rw [← hx] at or1
      have hix : ∀ h, (s[k]'h).toNat = d := fun h => by rw [hd]; exact sbyte_eq s k h
      have dl : d < 256 := by rw [hd]; exact sbyte_lt s k
      have e0 : (31 : Int) - (k : Int) = (pl : Nat) := by omega
      have e1 : (pl : Int).tdiv 8 = (i0 : Nat) := by rw [Int.tdiv_eq_ediv_of_nonneg (by omega)]; omega
      have e1' : (pl : Int) / 8 = (i0 : Nat) := by omega
      have e2 : (pl : Int).tmod 8 = (r : Nat) := by rw [Int.tmod_eq_emod_of_nonneg (by omega)]; omega
      have e2' : (pl : Int) % 8 = (r : Nat) := by omega
      have e3 : (r : Int) * 8 = (sh : Nat) := by omega
      have e4 : IntKind.u64.wrap (d : Int) = (d : Nat) := by rw [IntKind.wrap_u64]; omega
      have e5 : IntKind.u64.wrap ((d : Int) * 2 ^ sh) = (v : Nat) := by
        have e : (d : Int) * 2 ^ sh = (v : Nat) := by
          rw [hv, hsh, rk, Nat.mul_comm (7 - k % 8) 8, Int.natCast_mul, Int.natCast_pow, Int.pow_mul]
          rfl
        rw [e, IntKind.wrap_u64]
        unfold M64 at vl
        omega
      have e6 : bits .or .u64 (c : Int) (v : Int) = (x : Nat) := by rw [bits_or_u64_nat _ _ cl vl, or1]
      have s1 : sh < 64 := by omega
      have s2 : (sh : Int) < 64 := by omega
      have gc : wr.cell? ⟨w.heap.size + 1, i0, none⟩ = some (.int .u64 (c : Nat)) := by rw [hL.1 i0 i1, hc]
      have gf := hL.2.1 i0 i1
      have ks : k < s.size := by have := HSZ.out; omega
      have HL : Hid (Lim (wr.setCell ⟨w.heap.size + 1, i0, none⟩ (.int .u64 (x : Nat))) (w.heap.size + 1) (progB (sbyte s) (k + 1))) := hL.set i1 hx (fun j hj hne => progB_other _ _ _ hlt hj (by omega))
      have HP : Hid _ := And.intro hP hbel
      have parts : i0 = 0 ∨ i0 = 1 ∨ i0 = 2 ∨ i0 = 3 := by omega
      clear hL hP hbel hpl hi0 hr hsh hd hc hv hx ik rk or1 cl vl i1
      rcases parts with rfl | rfl | rfl | rfl
      all_goals
        go_wp2_with fail
        go_region
        all_goals
          go_wp2_with fail
          go_roundw
          case rel =>
            refine ⟨k + 1, by omega, by go_num, ?_, ?_, ?_⟩
            · exact HL.out
            · first | exact Pend.drew (Pend.set HP.out.1 (by simp)) | exact Pend.set HP.out.1 (by simp)
            · have := HP.out.2
              ((repeat' (first | with_reducible exact Below.refl _ _ | with_reducible refine Below.setCell ?_ ?_ _ | with_reducible refine below_alloc0 ?_ _ | with_reducible refine below_drewN ?_ _ | with_reducible refine Below.drew ?_ | refine below_call0 ?_ (by assumption))) <;> (first | omega | (simp; done) | (simp; omega)))
          case measure => simp [intOf]; omega
    · have hk32 : k = 32 := by omega
      subst hk32
      have c0 := hL.1 0 (by omega)
      have c1 := hL.1 1 (by omega)
      have c2 := hL.1 2 (by omega)
      have c3 := hL.1 3 (by omega)
      rw [HF.out 0 (by omega)] at c0
      rw [HF.out 1 (by omega)] at c1
      rw [HF.out 2 (by omega)] at c2
      rw [HF.out 3 (by omega)] at c3
      obtain ⟨⟨p0, p1, p2, p3⟩, ⟨f0, f1, f2, f3⟩, pz⟩ := hP.facts
      clear hL hP
      go_wp2
      refine bodyPost_ret (v := .tuple #[.agg #[.int .u64 (limb (n) 0 : Nat), .int .u64 (limb (n) 1 : Nat), .int .u64 (limb (n) 2 : Nat), .int .u64 (limb (n) 3 : Nat)], .int .i64 0]) ?_ rfl ⟨rfl, ?_⟩
      · simp [results, Tryd.results70, go_sem, p0, p1, p2, p3]
      · ((repeat' (first | with_reducible exact Below.refl _ _ | with_reducible refine Below.setCell ?_ ?_ _ | with_reducible refine below_alloc0 ?_ _ | with_reducible refine below_drewN ?_ _ | with_reducible refine Below.drew ?_ | refine below_call0 ?_ (by assumption))) <;> (first | omega | (simp; done) | (simp; omega)))
end Go.Proofs.YtchphekaonnfeaaDoor

namespace Go.Proofs.YtchphekaonnfeaaDoor
open Go.RowKit

def bytesL (a n : Nat) : List UInt8 := (List.range n).map fun j => UInt8.ofNat (byteN a j)
theorem bytesL_length (a n : Nat) : (bytesL a n).length = n := by simp [bytesL]
theorem bytesL_get (a n j : Nat) (h : j < (bytesL a n).length) : ((bytesL a n)[j].toNat : Int) = (byteN a j : Nat) := by
  have l := byteN_lt a j
  simp [bytesL]
  omega
/-- A block of 32 bytes of which the first k are in. -/
def Row32 (wr : World) (b a k : Nat) : Prop := (∀ j, j < 32 → wr.cell? ⟨b, j, none⟩ = some (.int .u8 (if j < k then byteN a j else 0 : Nat))) ∧ (∀ j, j < 32 → wr.frozen? ⟨b, j, none⟩ = false) ∧ b < wr.heap.size
theorem Row32.set {wr : World} {b a k x : Nat} (h : Row32 wr b a k) (hk : k < 32) (hx : x = byteN a k) : Row32 (wr.setCell ⟨b, k, none⟩ (.int .u8 (x : Nat))) b a (k + 1) := by
  refine ⟨fun j hj => ?_, fun j hj => by rw [World.frozen?_setCell]; exact h.2.1 j hj, by rw [World.size_setCell]; exact h.2.2⟩
  by_cases e : j = k
  · subst e
    rw [World.cell?_setCell_same _ _ _ (h.1 j hj), hx, if_pos (by omega)]
  · rw [World.cell?_setCell_other _ _ _ _ (by intro c; injection c with _ c2 _; exact e c2.symm), h.1 j hj]
    by_cases g : j < k
    · rw [if_pos g, if_pos (by omega)]
    · rw [if_neg g, if_neg (by omega)]
theorem Row32.text {wr : World} {b a : Nat} (h : Row32 wr b a 32) (cap : Nat) : (convert 100 9 (.slice (some ⟨b, 0, none⟩) 32 cap)).run Tryd.prog wr = .ok (.string ⟨(bytesL a 32).toArray⟩) wr := by
  have g := run_convert_bytes_back (P := Tryd.prog) wr 100 9 5 ⟨b, 0, none⟩ cap (bytesL a 32) Tryd.underlying100 Tryd.underlying5 Tryd.underlying9 (fun j hj => by
    have hj' := hj
    rw [bytesL_length] at hj'
    rw [bytesL_get]
    have e := h.1 j hj'
    rw [if_pos hj'] at e
    have e2 : (Addr.add ⟨b, 0, none⟩ j) = ⟨b, j, none⟩ := by
      simp only [Addr.add]
      split
      · rename_i h0; have : j = 0 := by simpa using h0
        subst this; rfl
      · simp
    rw [e2]
    exact e)
  rw [bytesL_length] at g
  exact g

set_option maxHeartbeats 2000000 in
theorem bytes_any (a : Nat) (w : World) :
    Calls Tryd.prog 53 #[.agg #[.int .u64 (limb (a) 0 : Nat), .int .u64 (limb (a) 1 : Nat), .int .u64 (limb (a) 2 : Nat), .int .u64 (limb (a) 3 : Nat)]] w fun e w' => e = .returned (.string ⟨(bytesL a 32).toArray⟩) ∧ Below w.heap.size w w' := by
  go_enter Tryd.func53, Tryd.ntmps53
  go_wp2_with fail
  go_loopw [6] (fun i wr => ∃ k : Nat, k ≤ 32 ∧ i = .int .i64 k ∧ Row32 wr (w.heap.size + 1) a k ∧ Num4 wr w.heap.size a ∧ Below w.heap.size w wr)
    (fun i _ => 32 - (intOf i).toNat)
  case atStart =>
    refine ⟨0, by omega, rfl, ⟨?_, ?_, by simp⟩, by ((repeat' (first | assumption | (refine Num4.new' ?_; first | omega | (simp; done)) | refine Num4.set ?_ ?_ | refine Num4.alloc ?_ ?_ | refine Num4.drewN ?_ | refine Num4.call ?_ (by assumption) ?_)) <;> (first | omega | (simp; done) | (simp; omega))), by ((repeat' (first | with_reducible exact Below.refl _ _ | with_reducible refine Below.setCell ?_ ?_ _ | with_reducible refine below_alloc0 ?_ _ | with_reducible refine below_drewN ?_ _ | with_reducible refine Below.drew ?_ | refine below_call0 ?_ (by assumption))) <;> (first | omega | (simp; done) | (simp; omega)))⟩
    · intro j hj
      have e : (w.heap.size + 1) = (w.alloc (.cells #[.int .u64 (limb a 0 : Nat), .int .u64 (limb a 1 : Nat), .int .u64 (limb a 2 : Nat), .int .u64 (limb a 3 : Nat)] 24)).heap.size := by simp
      rw [e, World.cell?_alloc_new, if_neg (by omega)]
      match j, hj with
      | 0, _ | 1, _ | 2, _ | 3, _ | 4, _ | 5, _ | 6, _ | 7, _ | 8, _ | 9, _ | 10, _ | 11, _ | 12, _ | 13, _ | 14, _ | 15, _ | 16, _ | 17, _ | 18, _ | 19, _ | 20, _ | 21, _ | 22, _ | 23, _ | 24, _ | 25, _ | 26, _ | 27, _ | 28, _ | 29, _ | 30, _ | 31, _ => rfl
      | n + 32, h => exact absurd h (by omega)
    · intro j _
      simp
  case round =>
    obtain ⟨k, hk, rfl, hL, hN, hbel⟩ := hrel
    by_cases hlt : k < 32
    · obtain ⟨pl, hpl⟩ : ∃ pl, pl = 31 - k := ⟨_, rfl⟩
      obtain ⟨i0, hi0⟩ : ∃ i0, i0 = pl / 8 := ⟨_, rfl⟩
      obtain ⟨r, hr⟩ : ∃ r, r = pl % 8 := ⟨_, rfl⟩
      obtain ⟨sh, hsh⟩ : ∃ sh, sh = r * 8 := ⟨_, rfl⟩
      obtain ⟨x, hx⟩ : ∃ x, x = byteN a k := ⟨_, rfl⟩
      obtain ⟨c, hc⟩ : ∃ c, c = limb a i0 := ⟨_, rfl⟩
      have i1 : i0 < 4 := by omega
      have ik : i0 = 3 - k / 8 := by omega
      have rk : r = 7 - k % 8 := by omega
      have e0 : (31 : Int) - (k : Int) = (pl : Nat) := by omega
      have e1 : (pl : Int).tdiv 8 = (i0 : Nat) := by rw [Int.tdiv_eq_ediv_of_nonneg (by omega)]; omega
      have e1' : (pl : Int) / 8 = (i0 : Nat) := by omega
      have e2 : (pl : Int).tmod 8 = (r : Nat) := by rw [Int.tmod_eq_emod_of_nonneg (by omega)]; omega
      have e2' : (pl : Int) % 8 = (r : Nat) := by omega
      have e3 : (r : Int) * 8 = (sh : Nat) := by omega
      have e5 : IntKind.u8.wrap ((c : Int) / 2 ^ sh) = (x : Nat) := by
        have e : (c : Int) / 2 ^ sh = ((c / 256 ^ (7 - k % 8) : Nat) : Int) := by
          rw [hsh, rk, Nat.mul_comm (7 - k % 8) 8, Int.natCast_ediv, Int.natCast_pow, Int.pow_mul]
          rfl
        rw [e, hx]
        unfold byteN
        rw [← ik, ← hc]
        generalize c / 256 ^ (7 - k % 8) = y
        rw [IntKind.wrap_u8]
        omega
      have s2 : (sh : Int) < 64 := by omega
      have gc : wr.cell? ⟨w.heap.size, i0, none⟩ = some (.int .u64 (c : Nat)) := by rw [hN i0 i1, hc]
      have g2 := hL.1 k hlt
      have gf := hL.2.1 k hlt
      rw [if_neg (by omega)] at g2
      have HL : Hid _ := And.intro (hL.set hlt hx) (And.intro (hN.set (p := ⟨w.heap.size + 1, k, none⟩) (v := .int .u8 (x : Nat)) (by simp)) (hbel.setCell (p := ⟨w.heap.size + 1, k, none⟩) (by simp) (.int .u8 (x : Nat))))
      clear hL hN hbel hpl hi0 hr hsh hx hc ik rk
      go_wp2_with fail
      go_roundw
      case rel => exact ⟨k + 1, by omega, by go_num, HL.out.1, HL.out.2.1, HL.out.2.2⟩
      case measure => simp [intOf]; omega
    · have hk32 : k = 32 := by omega
      subst hk32
      have hcv := hL.text 32
      clear hL hN
      go_wp2_with fail
      go_ret
      exact ⟨rfl, hbel⟩
end Go.Proofs.YtchphekaonnfeaaDoor

namespace Go.Proofs.YtchphekaonnfeaaDoor
open Go.RowKit

theorem infoU8 : (Tryd.prog.info? 5).map (fun i => (i.zero, i.size, i.bytes)) = some (some (.int .u8 0), 1, 1) := by kernel_rfl
theorem info_u8 : ∃ i, Tryd.prog.info? 5 = some i ∧ i.zero = some (.int .u8 0) ∧ i.size = 1 ∧ i.bytes = 1 := by
  have h := infoU8
  cases e : Tryd.prog.info? 5 with
  | none => rw [e] at h; cases h
  | some i =>
    rw [e] at h
    simp at h
    exact ⟨i, rfl, h.1, h.2.1, h.2.2⟩
end Go.Proofs.YtchphekaonnfeaaDoor

namespace Go.Proofs.YtchphekaonnfeaaDoor
open Go.RowKit

end Go.Proofs.YtchphekaonnfeaaDoor

namespace Go.Proofs.YtchphekaonnfeaaDoor
open Go.RowKit

end Go.Proofs.YtchphekaonnfeaaDoor
