/- limb.FromBytes and wardmoteref01.FromBytes: the number that 32 bytes are. -/
import Derived.Test.YtienklnigigepaaGreatDoorBytesN
import Derived.Test.YtienklnigigepaaGreatDoorLbA
import Derived.BigRegion
namespace Go.Proofs.YtienklnigigepaaGreatDoor
open Go.RowKit

def sbyte (s : ByteArray) (j : Nat) : Nat := if h : j < s.size then (s[j]'h).toNat else 0
theorem sbyte_eq (s : ByteArray) (j : Nat) (h : j < s.size) : (s[j]'h).toNat = sbyte s j := by unfold sbyte; rw [dif_pos h]
theorem sbyte_lt (s : ByteArray) (j : Nat) : sbyte s j < 256 := by
  unfold sbyte
  split
  · exact UInt8.toNat_lt _
  · omega
/-- A block of four limbs that may be written. -/
def Lim (wr : World) (b : Nat) (f : Nat → Nat) : Prop := (∀ j, j < 4 → wr.cell? ⟨b, j, none⟩ = some (.int .u64 (f j : Nat))) ∧ (∀ j, j < 4 → wr.frozen? ⟨b, j, none⟩ = false) ∧ b < wr.heap.size
theorem Lim.set {wr : World} {b : Nat} {f g : Nat → Nat} {i x : Nat} (h : Lim wr b f) (hi : i < 4) (hx : x = g i) (ho : ∀ j, j < 4 → j ≠ i → g j = f j) : Lim (wr.setCell ⟨b, i, none⟩ (.int .u64 (x : Nat))) b g := by
  refine ⟨fun j hj => ?_, fun j hj => by rw [World.frozen?_setCell]; exact h.2.1 j hj, by rw [World.size_setCell]; exact h.2.2⟩
  by_cases e : j = i
  · subst e
    rw [World.cell?_setCell_same _ _ _ (h.1 j hj), hx]
  · rw [World.cell?_setCell_other _ _ _ _ (by intro c; injection c with _ c2 _; exact e c2.symm), h.1 j hj, ho j hj e]
theorem Lim.drew {wr : World} {b : Nat} {f : Nat → Nat} (h : Lim wr b f) : Lim wr.drew b f := h

theorem from_bad (s : ByteArray) (hs : s.size ≠ 32) (w : World) :
    Calls Tryz.prog 123 #[.string s] w fun e w' => e = .returned (.tuple #[.agg #[.int .u64 0, .int .u64 0, .int .u64 0, .int .u64 0], .int .i64 4]) ∧ Below w.heap.size w w' := by
  have t : ((s.size : Int) == 32) = false := beq_eq_false_iff_ne.2 (by omega)
  have t2 : ((s.size : Int) != 32) = true := by simp; omega
  go_enter Tryz.func123, Tryz.ntmps123
  go_wp2
  refine bodyPost_ret (v := .tuple #[.agg #[.int .u64 0, .int .u64 0, .int .u64 0, .int .u64 0], .int .i64 4]) ?_ rfl ⟨rfl, ?_⟩
  · simp [results, Tryz.results123, go_sem]
  · ((repeat' (first | with_reducible exact Below.refl _ _ | with_reducible refine Below.setCell ?_ ?_ _ | with_reducible refine below_alloc0 ?_ _ | with_reducible refine below_drewN ?_ _ | with_reducible refine Below.drew ?_ | refine below_call0 ?_ (by assumption))) <;> (first | omega | (simp; done) | (simp; omega)))

set_option maxHeartbeats 2000000 in
theorem from_any (s : ByteArray) (hs : s.size = 32) (w : World) :
    Calls Tryz.prog 123 #[.string s] w fun e w' => e = .returned (.tuple #[.agg #[.int .u64 (limb (numB (sbyte s)) 0 : Nat), .int .u64 (limb (numB (sbyte s)) 1 : Nat), .int .u64 (limb (numB (sbyte s)) 2 : Nat), .int .u64 (limb (numB (sbyte s)) 3 : Nat)], .int .i64 0]) ∧ Below w.heap.size w w' := by
  obtain ⟨n, hn⟩ : ∃ n, n = numB (sbyte s) := ⟨_, rfl⟩
  rw [← hn]
  have HF : Hid (∀ k, k < 4 → progB (sbyte s) 32 k = limb n k) := fun k hk => by rw [hn]; exact progB_full _ (sbyte_lt s) k hk
  clear hn
  have hsz : (s.size : Int) = 32 := by omega
  have HSZ : Hid _ := hs
  clear hs
  go_enter Tryz.func123, Tryz.ntmps123
  go_wp2_with fail
  go_loopw [13] (fun i wr => ∃ k : Nat, k ≤ 32 ∧ i = .int .i64 k ∧ Lim wr (w.heap.size + 1) (progB (sbyte s) k) ∧ Pend wr w.heap.size ∧ Below w.heap.size w wr)
    (fun i _ => 32 - (intOf i).toNat)
  case atStart =>
    refine ⟨0, by omega, rfl, ⟨?_, ?_, by simp⟩, (Pend.new w _).alloc, by ((repeat' (first | with_reducible exact Below.refl _ _ | with_reducible refine Below.setCell ?_ ?_ _ | with_reducible refine below_alloc0 ?_ _ | with_reducible refine below_drewN ?_ _ | with_reducible refine Below.drew ?_ | refine below_call0 ?_ (by assumption))) <;> (first | omega | (simp; done) | (simp; omega)))⟩
    · intro j hj
      rw [progB_zero]
      have h := (Pend.new (w.alloc (.cells #[.int .u64 0, .int .u64 0, .int .u64 0, .int .u64 0] 26)) 26).1 j hj
      simpa using h
    · intro j _
      simp
  case round =>
    obtain ⟨k, hk, rfl, hL, hP, hbel⟩ := hrel
    by_cases hlt : k < 32
    · obtain ⟨pl, hpl⟩ : ∃ pl, pl = 31 - k := ⟨_, rfl⟩
      obtain ⟨i0, hi0⟩ : ∃ i0, i0 = pl / 8 := ⟨_, rfl⟩
      obtain ⟨r, hr⟩ : ∃ r, r = pl % 8 := ⟨_, rfl⟩
      obtain ⟨sh, hsh⟩ : ∃ sh, sh = r * 8 := ⟨_, rfl⟩
      obtain ⟨d, hd⟩ : ∃ d, d = sbyte s k := ⟨_, rfl⟩
      obtain ⟨c, hc⟩ : ∃ c, c = progB (sbyte s) k i0 := ⟨_, rfl⟩
      obtain ⟨v, hv⟩ : ∃ v, v = d * 256 ^ (7 - k % 8) := ⟨_, rfl⟩
      obtain ⟨x, hx⟩ : ∃ x, x = progB (sbyte s) (k + 1) i0 := ⟨_, rfl⟩
      have i1 : i0 < 4 := by omega
      have ik : i0 = 3 - k / 8 := by omega
      have rk : r = 7 - k % 8 := by omega
      obtain ⟨or1, cl, vl⟩ := progB_or (sbyte s) (sbyte_lt s) k i0 hlt ik
      rw [← hd, ← hv] at or1 vl
      rw [← hc] at or1 cl
      rw [← hx] at or1
      have hix : ∀ h, (s[k]'h).toNat = d := fun h => by rw [hd]; exact sbyte_eq s k h
      have dl : d < 256 := by rw [hd]; exact sbyte_lt s k
      have e0 : (31 : Int) - (k : Int) = (pl : Nat) := by omega
      have e1 : (pl : Int).tdiv 8 = (i0 : Nat) := by rw [Int.tdiv_eq_ediv_of_nonneg (by omega)]; omega
      have e1' : (pl : Int) / 8 = (i0 : Nat) := by omega
      have e2 : (pl : Int).tmod 8 = (r : Nat) := by rw [Int.tmod_eq_emod_of_nonneg (by omega)]; omega
      have e2' : (pl : Int) % 8 = (r : Nat) := by omega
      have e3 : (r : Int) * 8 = (sh : Nat) := by omega
      have e4 : IntKind.u64.wrap (d : Int) = (d : Nat) := by rw [IntKind.wrap_u64]; omega
      have e5 : IntKind.u64.wrap ((d : Int) * 2 ^ sh) = (v : Nat) := by
        have e : (d : Int) * 2 ^ sh = (v : Nat) := by
          rw [hv, hsh, rk, Nat.mul_comm (7 - k % 8) 8, Int.natCast_mul, Int.natCast_pow, Int.pow_mul]
          rfl
        rw [e, IntKind.wrap_u64]
        unfold M64 at vl
        omega
      have e6 : bits .or .u64 (c : Int) (v : Int) = (x : Nat) := by rw [bits_or_u64_nat _ _ cl vl, or1]
      have s1 : sh < 64 := by omega
      have s2 : (sh : Int) < 64 := by omega
      have gc : wr.cell? ⟨w.heap.size + 1, i0, none⟩ = some (.int .u64 (c : Nat)) := by rw [hL.1 i0 i1, hc]
      have gf := hL.2.1 i0 i1
      have ks : k < s.size := by have := HSZ.out; omega
      have HL : Hid (Lim (wr.setCell ⟨w.heap.size + 1, i0, none⟩ (.int .u64 (x : Nat))) (w.heap.size + 1) (progB (sbyte s) (k + 1))) := hL.set i1 hx (fun j hj hne => progB_other _ _ _ hlt hj (by omega))
      have HP : Hid _ := And.intro hP hbel
      have parts : i0 = 0 ∨ i0 = 1 ∨ i0 = 2 ∨ i0 = 3 := by omega
      clear hL hP hbel hpl hi0 hr hsh hd hc hv hx ik rk or1 cl vl i1
      rcases parts with rfl | rfl | rfl | rfl
      all_goals
        go_wp2_with fail
        go_region
        all_goals
          go_wp2_with fail
          go_roundw
          case rel =>
            refine ⟨k + 1, by omega, by go_num, ?_, ?_, ?_⟩
            · exact HL.out
            · first | exact Pend.drew (Pend.set HP.out.1 (by simp)) | exact Pend.set HP.out.1 (by simp)
            · have := HP.out.2
              ((repeat' (first | with_reducible exact Below.refl _ _ | with_reducible refine Below.setCell ?_ ?_ _ | with_reducible refine below_alloc0 ?_ _ | with_reducible refine below_drewN ?_ _ | with_reducible refine Below.drew ?_ | refine below_call0 ?_ (by assumption))) <;> (first | omega | (simp; done) | (simp; omega)))
          case measure => simp [intOf]; omega
    · have hk32 : k = 32 := by omega
      subst hk32
      have c0 := hL.1 0 (by omega)
      have c1 := hL.1 1 (by omega)
      have c2 := hL.1 2 (by omega)
      have c3 := hL.1 3 (by omega)
      rw [HF.out 0 (by omega)] at c0
      rw [HF.out 1 (by omega)] at c1
      rw [HF.out 2 (by omega)] at c2
      rw [HF.out 3 (by omega)] at c3
      obtain ⟨⟨p0, p1, p2, p3⟩, ⟨f0, f1, f2, f3⟩, pz⟩ := hP.facts
      clear hL hP
      go_wp2
      refine bodyPost_ret (v := .tuple #[.agg #[.int .u64 (limb (n) 0 : Nat), .int .u64 (limb (n) 1 : Nat), .int .u64 (limb (n) 2 : Nat), .int .u64 (limb (n) 3 : Nat)], .int .i64 0]) ?_ rfl ⟨rfl, ?_⟩
      · simp [results, Tryz.results123, go_sem, p0, p1, p2, p3]
      · ((repeat' (first | with_reducible exact Below.refl _ _ | with_reducible refine Below.setCell ?_ ?_ _ | with_reducible refine below_alloc0 ?_ _ | with_reducible refine below_drewN ?_ _ | with_reducible refine Below.drew ?_ | refine below_call0 ?_ (by assumption))) <;> (first | omega | (simp; done) | (simp; omega)))
end Go.Proofs.YtienklnigigepaaGreatDoor
