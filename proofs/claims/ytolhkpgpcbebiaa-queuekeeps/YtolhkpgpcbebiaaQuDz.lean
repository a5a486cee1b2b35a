/- Package queue: Submit. -/
import Derived.Test.YtolhkpgpcbebiaaQuD1
import Derived.Test.YtolhkpgpcbebiaaQuD2
import Derived.Test.YtolhkpgpcbebiaaQuD3
import Derived.Test.YtolhkpgpcbebiaaQuD4
import Derived.Test.YtolhkpgpcbebiaaQuD5
import Derived.Test.YtolhkpgpcbebiaaQuD6
namespace Go.Proofs.Ytolhkpgpcbebiaa
open Go Go.RowKit Go.Lib
theorem submit_any (g : Nat) (id : Int) (m : ByteArray) (Z : Nat → Prop) (L : List Qe) (w : World) (hZ : ∀ k, w.heap.size ≤ k → Z k) (hQ : QI w Z g L) (hid : -9223372036854775808 ≤ id ∧ id ≤ 9223372036854775807) (hm : m.size ≤ 281474976710656) (hN : L.length < 10000) :
    Calls Try.prog 9 #[.pointer (some ⟨g, 0, none⟩), .agg #[.int .i64 id, .string m]] w fun e w' => e = .returned (.tuple #[.int .i64 (subR L id m).1, .agg #[.int .u64 (subR L id m).2.1.x0, .int .u64 (subR L id m).2.1.x1, .int .u64 (subR L id m).2.1.x2, .int .u64 (subR L id m).2.1.x3, .int .u64 (subR L id m).2.1.x4, .int .u64 (subR L id m).2.1.x5, .int .u64 (subR L id m).2.1.x6, .int .u64 (subR L id m).2.1.x7, .bool (subR L id m).2.1.i, .int .u64 (subR L id m).2.1.x8, .int .u64 (subR L id m).2.1.x9, .int .u64 (subR L id m).2.1.x10, .int .u64 (subR L id m).2.1.x11]]) ∧ QI w' Z g (subR L id m).2.2 ∧ Off Z w w' := by
  unfold subR
  by_cases hk : okQ id m
  · rw [if_pos hk]
    cases hl : lookQ L id with
    | none =>
      by_cases h8 : 8 ≤ (waitQ L).length
      · simp only [if_pos h8]
        exact submit_full g id m Z L w hZ hQ hid hm hN hl hk h8
      · simp only [if_neg h8]
        have e : id = (id.toNat : Nat) := by have := hk.1; omega
        exact submit_new g id m Z L w hZ hQ hid hm hN id.toNat e hl hk (by omega)
    | some x =>
      by_cases heq : x.m = m
      · simp only [if_pos heq]
        exact submit_known g id m Z L w hZ hQ hid hm hN x hl hk heq
      · simp only [if_neg heq]
        exact submit_other g id m Z L w hZ hQ hid hm hN x hl hk heq
  · rw [if_neg hk]
    cases hl : lookQ L id with
    | none => exact submit_badN g id m Z L w hZ hQ hid hm hN hl hk
    | some x => exact submit_badS g id m Z L w hZ hQ hid hm hN x hl hk
end Go.Proofs.Ytolhkpgpcbebiaa
