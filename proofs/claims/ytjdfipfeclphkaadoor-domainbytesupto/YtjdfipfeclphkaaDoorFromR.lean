/- wardmoteref01.FromBytes: the number that 32 bytes are. -/
import Derived.Test.YtjdfipfeclphkaaDoorFromB
namespace Go.Proofs.YtjdfipfeclphkaaDoor
open Go.RowKit

theorem from_bad_ref (s : ByteArray) (hs : s.size ≠ 32) (w : World) :
    Calls Tryd.prog 24 #[.string s] w fun e w' => e = .returned (.tuple #[.agg #[.int .u64 0, .int .u64 0, .int .u64 0, .int .u64 0], .int .i64 4]) ∧ Below w.heap.size w w' := by
  have t : ((s.size : Int) == 32) = false := beq_eq_false_iff_ne.2 (by omega)
  have t2 : ((s.size : Int) != 32) = true := by simp; omega
  go_enter Tryd.func24, Tryd.ntmps24
  go_wp2
  refine bodyPost_ret (v := .tuple #[.agg #[.int .u64 0, .int .u64 0, .int .u64 0, .int .u64 0], .int .i64 4]) ?_ rfl ⟨rfl, ?_⟩
  · simp [results, Tryd.results24, go_sem]
  · ((repeat' (first | with_reducible exact Below.refl _ _ | with_reducible refine Below.setCell ?_ ?_ _ | with_reducible refine below_alloc0 ?_ _ | with_reducible refine below_drewN ?_ _ | with_reducible refine Below.drew ?_ | refine below_call0 ?_ (by assumption))) <;> (first | omega | (simp; done) | (simp; omega)))

set_option maxHeartbeats 2000000 in
theorem from_any_ref (s : ByteArray) (hs : s.size = 32) (w : World) :
    Calls Tryd.prog 24 #[.string s] w fun e w' => e = .returned (.tuple #[.agg #[.int .u64 (limb (numB (sbyte s)) 0 : Nat), .int .u64 (limb (numB (sbyte s)) 1 : Nat), .int .u64 (limb (numB (sbyte s)) 2 : Nat), .int .u64 (limb (numB (sbyte s)) 3 : Nat)], .int .i64 0]) ∧ Below w.heap.size w w' := by
  obtain ⟨n, hn⟩ : ∃ n, n = numB (sbyte s) := ⟨_, rfl⟩
  rw [← hn]
  have HF : Hid (∀ k, k < 4 → refB (sbyte s) 32 k = limb n k) := fun k hk => by rw [hn]; exact refB_full _ (sbyte_lt s) k hk
  clear hn
  have hsz : (s.size : Int) = 32 := by omega
  have HSZ : Hid _ := hs
  clear hs
  go_enter Tryd.func24, Tryd.ntmps24
  go_wp2_with fail
  go_loopw [5] (fun i wr => ∃ k : Nat, k ≤ 32 ∧ i = .int .i64 k ∧ Lim wr (w.heap.size + 1) (refB (sbyte s) k) ∧ Pend wr w.heap.size ∧ Below w.heap.size w wr)
    (fun i _ => 32 - (intOf i).toNat)
  case atStart =>
    refine ⟨0, by omega, rfl, ⟨?_, ?_, by simp⟩, (Pend.new w _).alloc, by ((repeat' (first | with_reducible exact Below.refl _ _ | with_reducible refine Below.setCell ?_ ?_ _ | with_reducible refine below_alloc0 ?_ _ | with_reducible refine below_drewN ?_ _ | with_reducible refine Below.drew ?_ | refine below_call0 ?_ (by assumption))) <;> (first | omega | (simp; done) | (simp; omega)))⟩
    · intro j hj
      rw [refB_zero]
      have h := (Pend.new (w.alloc (.cells #[.int .u64 0, .int .u64 0, .int .u64 0, .int .u64 0] 32)) 32).1 j hj
      simpa using h
    · intro j _
      simp
  case round =>
    obtain ⟨k, hk, rfl, hL, hP, hbel⟩ := hrel
    by_cases hlt : k < 32
    · obtain ⟨q, hq⟩ : ∃ q, q = k / 8 := ⟨_, rfl⟩
      obtain ⟨i0, hi0⟩ : ∃ i0, i0 = 3 - q := ⟨_, rfl⟩
      obtain ⟨d, hd⟩ : ∃ d, d = sbyte s k := ⟨_, rfl⟩
      obtain ⟨c, hc⟩ : ∃ c, c = refB (sbyte s) k i0 := ⟨_, rfl⟩
      obtain ⟨v, hv⟩ : ∃ v, v = c * 256 := ⟨_, rfl⟩
      obtain ⟨x, hx⟩ : ∃ x, x = refB (sbyte s) (k + 1) i0 := ⟨_, rfl⟩
      have i1 : i0 < 4 := by omega
      have ik : i0 = 3 - k / 8 := by omega
      have st := refB_same (sbyte s) k i0 hlt ik
      have xl := refB_lt (sbyte s) (sbyte_lt s) (k + 1) i0
      rw [← hd, ← hc, ← hx, ← hv] at st
      rw [← hx] at xl
      unfold M64 at xl
      have hix : ∀ h, (s[k]'h).toNat = d := fun h => by rw [hd]; exact sbyte_eq s k h
      have dl : d < 256 := by rw [hd]; exact sbyte_lt s k
      have e1 : (k : Int).tdiv 8 = (q : Nat) := by rw [Int.tdiv_eq_ediv_of_nonneg (by omega)]; omega
      have e1' : (k : Int) / 8 = (q : Nat) := by omega
      have e2 : (3 : Int) - (q : Int) = (i0 : Nat) := by omega
      have e3 : (c : Int) * 256 = (v : Nat) := by omega
      have e4 : IntKind.u64.wrap (d : Int) = (d : Nat) := by rw [IntKind.wrap_u64]; omega
      have e5 : IntKind.u64.wrap (v : Int) = (v : Nat) := by rw [IntKind.wrap_u64]; omega
      have e6 : (v : Int) + (d : Int) = (x : Nat) := by omega
      have e7 : IntKind.u64.wrap (x : Int) = (x : Nat) := by rw [IntKind.wrap_u64]; omega
      have gc : wr.cell? ⟨w.heap.size + 1, i0, none⟩ = some (.int .u64 (c : Nat)) := by rw [hL.1 i0 i1, hc]
      have gf := hL.2.1 i0 i1
      have ks : k < s.size := by have := HSZ.out; omega
      have HL : Hid (Lim (wr.setCell ⟨w.heap.size + 1, i0, none⟩ (.int .u64 (x : Nat))) (w.heap.size + 1) (refB (sbyte s) (k + 1))) := hL.set i1 hx (fun j hj hne => refB_other _ _ _ hlt hj (by omega))
      have HP : Hid _ := And.intro hP hbel
      have parts : i0 = 0 ∨ i0 = 1 ∨ i0 = 2 ∨ i0 = 3 := by omega
      clear hL hP hbel hq hi0 hd hc hv hx ik st xl i1
      rcases parts with rfl | rfl | rfl | rfl
      all_goals
        go_wp2_with fail
        go_region
        all_goals
          go_wp2_with fail
          go_roundw
          case rel =>
            refine ⟨k + 1, by omega, by go_num, ?_, ?_, ?_⟩
            · exact HL.out
            · first | exact Pend.drew (Pend.set HP.out.1 (by simp)) | exact Pend.set HP.out.1 (by simp)
            · have := HP.out.2
              ((repeat' (first | with_reducible exact Below.refl _ _ | with_reducible refine Below.setCell ?_ ?_ _ | with_reducible refine below_alloc0 ?_ _ | with_reducible refine below_drewN ?_ _ | with_reducible refine Below.drew ?_ | refine below_call0 ?_ (by assumption))) <;> (first | omega | (simp; done) | (simp; omega)))
          case measure => simp [intOf]; omega
    · have hk32 : k = 32 := by omega
      subst hk32
      have c0 := hL.1 0 (by omega)
      have c1 := hL.1 1 (by omega)
      have c2 := hL.1 2 (by omega)
      have c3 := hL.1 3 (by omega)
      rw [HF.out 0 (by omega)] at c0
      rw [HF.out 1 (by omega)] at c1
      rw [HF.out 2 (by omega)] at c2
      rw [HF.out 3 (by omega)] at c3
      obtain ⟨⟨p0, p1, p2, p3⟩, ⟨f0, f1, f2, f3⟩, pz⟩ := hP.facts
      clear hL hP
      go_wp2
      refine bodyPost_ret (v := .tuple #[.agg #[.int .u64 (limb (n) 0 : Nat), .int .u64 (limb (n) 1 : Nat), .int .u64 (limb (n) 2 : Nat), .int .u64 (limb (n) 3 : Nat)], .int .i64 0]) ?_ rfl ⟨rfl, ?_⟩
      · simp [results, Tryd.results24, go_sem, p0, p1, p2, p3]
      · ((repeat' (first | with_reducible exact Below.refl _ _ | with_reducible refine Below.setCell ?_ ?_ _ | with_reducible refine below_alloc0 ?_ _ | with_reducible refine below_drewN ?_ _ | with_reducible refine Below.drew ?_ | refine below_call0 ?_ (by assumption))) <;> (first | omega | (simp; done) | (simp; omega)))
end Go.Proofs.YtjdfipfeclphkaaDoor
