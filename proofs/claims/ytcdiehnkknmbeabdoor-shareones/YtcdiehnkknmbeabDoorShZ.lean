/- Share: a polynomial of scalars of numbers. -/
import Derived.Test.YtcdiehnkknmbeabDoorShX
namespace Go.Proofs.YtcdiehnkknmbeabDoor
open Go Go.RowKit Go.Lib

def rtL (l : List Nat) : List Nat := (l.take 10).map fun n => n % QQ
theorem rtL_length (l : List Nat) : (rtL l).length ≤ 10 := by unfold rtL; rw [List.length_map, List.length_take]; omega
theorem rtL_step {l : List Nat} {k : Nat} (hk : k < l.length) (h : k < 10) : rtL (l.take (k + 1)) = rtL (l.take k) ++ [(l[k]'hk) % QQ] := by
  unfold rtL
  rw [List.take_take, List.take_take, show min 10 (k + 1) = k + 1 by omega, show min 10 k = k by omega, List.take_succ_eq_append_getElem hk, List.map_append]
  rfl
theorem rtL_same {l : List Nat} {k : Nat} (h : ¬ k < 10) : rtL (l.take (k + 1)) = rtL (l.take k) := by
  unfold rtL
  rw [List.take_take, List.take_take, show min 10 (k + 1) = 10 by omega, show min 10 k = 10 by omega]
theorem rtL_all (l : List Nat) : allQ (rtL l) = true := by
  unfold allQ rtL
  rw [List.all_eq_true]
  intro x hx
  obtain ⟨y, _, rfl⟩ := List.mem_map.1 hx
  exact decide_eq_true (Nat.mod_lt _ QQ_pos)
theorem limb_high (m k : Nat) (hm : m < R256) (hk : 4 ≤ k) : limb m k = 0 := by
  unfold limb
  rw [Nat.div_eq_of_lt (Nat.lt_of_lt_of_le hm ?_), Nat.zero_mod]
  exact Nat.le_trans (show R256 ≤ M64 ^ 4 by decide) (Nat.pow_le_pow_right (by decide) hk)
theorem reduce4 (m : Nat) (hm : m < R256) (w : World) : Calls Tryd.prog 5 #[.agg #[.int .u64 (limb (QQ) 0 : Nat), .int .u64 (limb (QQ) 1 : Nat), .int .u64 (limb (QQ) 2 : Nat), .int .u64 (limb (QQ) 3 : Nat), .int .u64 (limb (R256 - (QQ)) 0 : Nat), .int .u64 (limb (R256 - (QQ)) 1 : Nat), .int .u64 (limb (R256 - (QQ)) 2 : Nat), .int .u64 (limb (R256 - (QQ)) 3 : Nat)], .agg #[.int .u64 (limb m 0 : Nat), .int .u64 (limb m 1 : Nat), .int .u64 (limb m 2 : Nat), .int .u64 (limb m 3 : Nat), .int .u64 0, .int .u64 0, .int .u64 0, .int .u64 0]] w fun e w' => e = .returned (.agg #[.int .u64 (limb (m % QQ) 0 : Nat), .int .u64 (limb (m % QQ) 1 : Nat), .int .u64 (limb (m % QQ) 2 : Nat), .int .u64 (limb (m % QQ) 3 : Nat)]) ∧ Below w.heap.size w w' := by
  have h := reduce2_any QQ m FM_Q FS_Q (Nat.lt_of_lt_of_le hm (by decide)) w
  rw [limb_high m 4 hm (by omega), limb_high m 5 hm (by omega), limb_high m 6 hm (by omega), limb_high m 7 hm (by omega)] at h
  exact h
end Go.Proofs.YtcdiehnkknmbeabDoor
