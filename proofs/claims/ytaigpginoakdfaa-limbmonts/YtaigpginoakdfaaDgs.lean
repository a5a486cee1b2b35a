/- wardmoteref01.Digits: a number's sixteen digits. -/
import Derived.Test.YtaigpginoakdfaaDg
namespace Go.Proofs.Ytaigpginoakdfaa
open Go.RowKit

set_option maxRecDepth 100000 in
set_option maxHeartbeats 1000000 in
theorem digits_any (a : Nat) (w : World) :
    Calls Try.prog 12 #[.agg #[.int .u64 (limb (a) 0 : Nat), .int .u64 (limb (a) 1 : Nat), .int .u64 (limb (a) 2 : Nat), .int .u64 (limb (a) 3 : Nat)]] w fun e w' => ∃ v, e = .returned v ∧ Dg w' v (digL a 16) ∧ Below w.heap.size w w' := by
  obtain ⟨i0, hi, hz0, hz1, hz2⟩ := info_int
  go_enter Try.func12, Try.ntmps12
  go_wp2
  go_loopw [3, 4] (fun v i wr => ∃ k : Nat, k ≤ 4 ∧ i = .int .i64 k ∧ wr.ownsRow (w.heap.size + 1) 3 1 v (4 * k) ((digL a (4 * k)).map dcell) ∧ Num4 wr w.heap.size a ∧ Below w.heap.size w wr ∧ w.heap.size + 1 ≤ wr.heap.size)
    (fun _ i _ => 4 - (intOf i).toNat)
  case atStart => exact ⟨0, by omega, rfl, World.ownsRow_nil _ _ _ _, Num4.new _ _ _, by ((repeat' (first | with_reducible exact Below.refl _ _ | with_reducible refine Below.setCell ?_ ?_ _ | with_reducible refine below_alloc0 ?_ _ | with_reducible refine below_drewN ?_ _ | with_reducible refine Below.drew ?_ | refine below_call0 ?_ (by assumption))) <;> (first | omega | (simp; done) | (simp; omega))), by simp⟩
  case round =>
    obtain ⟨k, hk, rfl, hown, hnum, hbel, hsz⟩ := hrel
    by_cases hlt : k < 4
    · have gc := hnum k hlt
      have hd : decide ((k : Int) < 4) = true := by simp; omega
      go_wp2
      go_loopw [3, 5, 6] (fun v x j wq => ∃ m : Nat, m ≤ 4 ∧ j = .int .i64 m ∧ x = .int .u64 (lsh a k m : Nat) ∧ wq.ownsRow (w.heap.size + 1) 3 1 v (4 * k + m) ((digL a (4 * k + m)).map dcell) ∧ Below (w.heap.size + 1) wr wq)
        (fun _ _ j _ => 4 - (intOf j).toNat)
      case atStart => exact ⟨0, by omega, rfl, by rw [lsh_zero], hown, Below.refl _ _⟩
      case round =>
        obtain ⟨m, hm, rfl, rfl, hown2, hbel2⟩ := hrel
        by_cases hlt2 : m < 4
        · have r1 := lsh_rem a k m hlt2
          have r2 := lsh_quo a k m
          have r3 := dig_lt a (4 * k + m)
          have r4 : IntKind.u64.wrap ((lsh a k (m + 1) : Nat) : Int) = (lsh a k (m + 1) : Nat) := by rw [IntKind.wrap_u64]; have := lsh_lt a k (m + 1); omega
          go_wp2_with (first | (at_builtin; refine wpList_append_own _ rfl _ _ 27 rfl (w.heap.size + 1) 3 i0 (.int .i64 0) 1 8 Try.underlying27 hi hz0 hz1 hz2 rfl (by decide) _ _ _ rfl (hown2.alloc _) ⟨_, 0, none⟩ 1 1 [.int .i64 (dig a (4 * k + m) : Nat)] rfl rfl ?c1 ?c2 ?c3 ?c4 ?c5 ?_))
          case c1 => exact cell_one_new _ _ _
          case c2 => intro u hu; simp at hu; subst hu; rfl
          case c3 => unfold maxLen; omega
          case c4 => omega
          case c5 => have := hbel2.size; simp; omega
          · intro v' w1 hown' hgrow _
            have hs2 := hbel2.size
            have hb1 := append_below hbel2 hown2 (Nat.le_refl _) (by omega) hgrow
            have ho1 := owns_snoc hown'
            rw [← digL_succ] at ho1
            clear hgrow hown'
            go_wp2
            go_roundw
            case rel => first | exact ⟨m + 1, by omega, by go_num, rfl, ho1, hb1⟩ | ((repeat apply Exists.intro); exact ⟨⟨m + 1, by omega, by go_num, rfl, ho1, hb1⟩, rfl⟩)
            case measure => simp [intOf]; omega
        · have hm4 : m = 4 := by omega
          subst hm4
          go_wp2_with fail
          go_roundw
          case rel => exact ⟨k + 1, by omega, by go_num, hown2, fun j hj => (hbel2.cell (p := ⟨w.heap.size, j, none⟩) (by simp)).trans (hnum j hj), hbel.trans (hbel2.mono (by omega)), Nat.le_trans hsz hbel2.size⟩
          case measure => simp [intOf]; omega
    · go_wp2
      go_ret
      have hk4 : k = 4 := by omega
      subst hk4
      exact ⟨_, rfl, dg_of_owns hown, hbel⟩
end Go.Proofs.Ytaigpginoakdfaa
