/- The reference's two fields, wardmotelaw02.of and wardmotelaw02.in: a field of the code and the document's beside it; a number brought below the prime. -/
import Derived.Test.YtbpgiijdcagckaaDoorRef2R
import Derived.Test.YtbpgiijdcagckaaDoorFdB
namespace Go.Proofs.YtbpgiijdcagckaaDoor
open Go.RowKit

theorem limb_PP : limb PP 0 = 18446744069414583343 ∧ limb PP 1 = 18446744073709551615 ∧ limb PP 2 = 18446744073709551615 ∧ limb PP 3 = 18446744073709551615 ∧ limb (R256 - PP) 0 = 4294968273 ∧ limb (R256 - PP) 1 = 0 ∧ limb (R256 - PP) 2 = 0 ∧ limb (R256 - PP) 3 = 0 := by decide
theorem limb_QQ : limb QQ 0 = 13822214165235122497 ∧ limb QQ 1 = 13451932020343611451 ∧ limb QQ 2 = 18446744073709551614 ∧ limb QQ 3 = 18446744073709551615 ∧ limb (R256 - QQ) 0 = 4624529908474429119 ∧ limb (R256 - QQ) 1 = 4994812053365940164 ∧ limb (R256 - QQ) 2 = 1 ∧ limb (R256 - QQ) 3 = 0 := by decide
theorem Row8.call {W w1 : World} {p : Nat} {f : Nat → Nat} (h : Row8 W p f) (hb : Below W.heap.size W w1) : Row8 w1 p f :=
  ⟨fun j hj => (hb.cell (p := ⟨p, j, none⟩) h.2.2).trans (h.1 j hj), fun j hj => (hb.frozen (p := ⟨p, j, none⟩) h.2.2).trans (h.2.1 j hj), Nat.lt_of_lt_of_le h.2.2 hb.size⟩
theorem scalars2_any (w : World) : Calls Tryd.prog 18 #[] w fun e w' => e = .returned (.agg #[.int .u64 (limb QQ 0 : Nat), .int .u64 (limb QQ 1 : Nat), .int .u64 (limb QQ 2 : Nat), .int .u64 (limb QQ 3 : Nat), .int .u64 (limb (R256 - QQ) 0 : Nat), .int .u64 (limb (R256 - QQ) 1 : Nat), .int .u64 (limb (R256 - QQ) 2 : Nat), .int .u64 (limb (R256 - QQ) 3 : Nat)]) ∧ Below w.heap.size w w' := by
  obtain ⟨l0, l1, l2, l3, g0, g1, g2, g3⟩ := limb_QQ
  rw [l0, l1, l2, l3, g0, g1, g2, g3]
  clear l0 l1 l2 l3 g0 g1 g2 g3
  go_enter Tryd.func18, Tryd.ntmps18
  go_wp2
  refine bodyPost_ret (v := .agg #[.int .u64 (13822214165235122497 : Nat), .int .u64 (13451932020343611451 : Nat), .int .u64 (18446744073709551614 : Nat), .int .u64 (18446744073709551615 : Nat), .int .u64 (4624529908474429119 : Nat), .int .u64 (4994812053365940164 : Nat), .int .u64 (1 : Nat), .int .u64 (0 : Nat)]) ?_ rfl ⟨rfl, ?_⟩
  · simp [results, Tryd.results18, go_sem]
  · ((repeat' (first | with_reducible exact Below.refl _ _ | with_reducible refine Below.setCell ?_ ?_ _ | with_reducible refine below_alloc0 ?_ _ | with_reducible refine below_drewN ?_ _ | with_reducible refine Below.drew ?_ | refine below_call0 ?_ (by assumption))) <;> (first | omega | (simp; done) | (simp; omega)))

theorem FieldB.new (W : World) (m : Nat) (t : TypeId) : FieldB (W.alloc (.cells #[.int .u64 (limb m 0 : Nat), .int .u64 (limb m 1 : Nat), .int .u64 (limb m 2 : Nat), .int .u64 (limb m 3 : Nat), .int .u64 (limb (R256 - m) 0 : Nat), .int .u64 (limb (R256 - m) 1 : Nat), .int .u64 (limb (R256 - m) 2 : Nat), .int .u64 (limb (R256 - m) 3 : Nat)] t)) W.heap.size m :=
  ⟨by refine limbs4 _ ?_ ?_ ?_ ?_ <;> simp [go_sem], by refine limbs4 _ ?_ ?_ ?_ ?_ <;> simp [go_sem], by simp⟩
def mB (b : Bool) : Nat := cond b PP QQ
theorem FM_B (b : Bool) : FM (mB b) := by cases b; exact FM_Q; exact FM_P
theorem FS_B (b : Bool) : FS (mB b) := by cases b; exact FS_Q; exact FS_P
theorem prime_B (b : Bool) : PrimeN (mB b) := by cases b; exact prime_Q; exact prime_P
end Go.Proofs.YtbpgiijdcagckaaDoor
