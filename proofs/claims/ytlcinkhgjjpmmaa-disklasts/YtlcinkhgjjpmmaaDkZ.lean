/- The law DiskLasts, whatever the step. -/
import Derived.Test.YtlcinkhgjjpmmaaDkLb
import Derived.Test.YtlcinkhgjjpmmaaDkLc
import Derived.Test.YtlcinkhgjjpmmaaDkLd
import Derived.Test.YtlcinkhgjjpmmaaDkLe
namespace Go.Proofs.Ytlcinkhgjjpmmaa
open Go Go.RowKit Go.Lib
theorem diskLasts_long (a b S : ByteArray) (W N M : Int) (ha : a.size < 140737488351233) (hb : b.size < 140737488351233) (hz : 10000 < a.size + b.size) (w : World) :
    Calls Try.prog 4 #[.string a, .string b, .agg #[.int .i64 W, .int .i64 N, .int .i64 M, .string S]] w fun e w' => e = .returned (.bool true) ∧ Below w.heap.size w w' := by
  have HH : Hid (_ ∧ _ ∧ _) := ⟨ha, hb, hz⟩
  clear ha hb hz
  go_enter Try.func4, Try.ntmps4
  go_wp2_with fail
  refine (new_any _).mono ?_
  rintro e w1 ⟨rfl, hF1, hb1, -⟩
  have H1 : Hid (Below w.heap.size w w1) := below_call0 (below_alloc0 (Below.refl _ _) _) hb1
  clear hF1 hb1
  have z1 : (10000 : Int) < (a.size : Int) + (b.size : Int) := by have := HH.out; omega
  have z2 : (a.size : Int) < 140737488351233 := by have := HH.out; omega
  have z3 : (b.size : Int) < 140737488351233 := by have := HH.out; omega
  go_wp2_with fail
  refine (abc_any _).mono ?_
  rintro e w2 ⟨rfl, hb2⟩
  have H2 : Hid (Below w.heap.size w w2) := below_call0 H1.out hb2
  clear hb2
  go_wp2_with fail
  go_ret
  exact ⟨rfl, H2.out⟩
theorem diskLasts_any (a b S : ByteArray) (W N M : Int) (ha : a.size < 140737488351233) (hb : b.size < 140737488351233) (w : World) :
    Calls Try.prog 4 #[.string a, .string b, .agg #[.int .i64 W, .int .i64 N, .int .i64 M, .string S]] w fun e w' => e = .returned (.bool true) ∧ Below w.heap.size w w' := by
  rcases Nat.lt_or_ge 10000 (a.size + b.size) with hz | hz
  · exact diskLasts_long a b S W N M ha hb hz w
  · have cN : N < 0 ∨ (b.size : Int) < N ∨ ∃ k : Nat, N = (k : Nat) ∧ k ≤ b.size := by
      rcases Int.lt_or_le N 0 with h | h
      · exact .inl h
      · rcases Int.lt_or_le (b.size : Int) N with h2 | h2
        · exact .inr (.inl h2)
        · exact .inr (.inr ⟨N.toNat, by omega, by omega⟩)
    have cM : M < 0 ∨ 255 < M ∨ ∃ q : Nat, M = (q : Nat) ∧ q < 256 := by
      rcases Int.lt_or_le M 0 with h | h
      · exact .inl h
      · rcases Int.lt_or_le 255 M with h2 | h2
        · exact .inr (.inl h2)
        · exact .inr (.inr ⟨M.toNat, by omega, by omega⟩)
    rcases cN with hN | hN | ⟨k, rfl, hk⟩ <;> rcases cM with hM | hM | ⟨q, rfl, hq⟩
    · exact diskLasts_11 a b S W N M hN hz hM w
    · exact diskLasts_12 a b S W N M hN hz hM w
    · exact diskLasts_10 a b S W N q hN hz hq w
    · exact diskLasts_21 a b S W N M hN hz hM w
    · exact diskLasts_22 a b S W N M hN hz hM w
    · exact diskLasts_20 a b S W N q hN hz hq w
    · exact diskLasts_01 a b S W M k hk hz hM w
    · exact diskLasts_02 a b S W M k hk hz hM w
    · exact diskLasts_a a b S W k q hk hz hq w
end Go.Proofs.Ytlcinkhgjjpmmaa
