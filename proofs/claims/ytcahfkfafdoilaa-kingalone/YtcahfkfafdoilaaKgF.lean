/- Which nodes fail. -/
import Derived.Test.YtcahfkfafdoilaaKgM
import Derived.Test.YtcahfkfafdoilaaKgT
namespace Go.Proofs.Ytcahfkfafdoilaa
open Go Go.RowKit Go.Lib

def bitS (s : Int) (k : Nat) : Bool := bits BinOp.and IntKind.i64 (s / 2 ^ k) 1 == 1
/-- How many of the first m bits are 1. -/
def ones (s : Int) : Nat → Nat
  | 0 => 0
  | k + 1 => ones s k + if bitS s k then 1 else 0
theorem ones_le (s : Int) : ∀ m, ones s m ≤ m
  | 0 => Nat.le_refl _
  | k + 1 => by have := ones_le s k; unfold ones; split <;> omega
/-- Does a node fail? -/
def flB (s : Int) (f i : Nat) : Bool := bitS s i && decide (ones s (i + 1) ≤ f)
theorem flB_count (s : Int) (f : Nat) : ∀ n, fcn (flB s f) n = min (ones s n) f
  | 0 => by unfold fcn ones; simp
  | n + 1 => by
    have ih := flB_count s f n
    unfold fcn at ih ⊢
    rw [List.range_succ, List.countP_append, ih]
    simp only [List.countP_cons, List.countP_nil]
    unfold flB
    have e : ones s (n + 1) = ones s n + if bitS s n then 1 else 0 := rfl
    cases hb : bitS s n
    · rw [hb] at e; simp at e; rw [e]; simp
    · rw [hb] at e; simp at e; rw [e]; simp
      split <;> omega
theorem flB_le (s : Int) (f n : Nat) : fcn (flB s f) n ≤ f := by rw [flB_count]; omega
theorem flB_zero (f i : Nat) : flB 0 f i = false := by
  unfold flB bitS
  rw [Int.zero_ediv]
  rfl
theorem fails_any (s : Int) (f i : Nat) (hf : f ≤ 10) (hi : i ≤ 10) (w : World) : Calls Try.prog 22 #[.int .i64 s, .int .i64 (f : Nat), .int .i64 (i : Nat)] w fun e w' => e = .returned (.bool (flB s f i)) ∧ w' = w := by
  have hi' : (i : Int) ≤ 10 := by omega
  have hf' : (f : Int) ≤ 10 := by omega
  have HI : Hid (i ≤ 10) := hi
  clear hi hf
  go_enter Try.func22, Try.ntmps22
  go_wp2_with fail
  rename_i Kr hKr
  have HKr : Hid _ := hKr
  clear hKr
  go_loopw [7, 8] (fun nv kv wr => ∃ k : Nat, k ≤ i + 1 ∧ nv = .int .i64 (ones s k : Nat) ∧ kv = .int .i64 (k : Nat) ∧ w = wr) (fun _ kv _ => i + 1 - (Go.RowKit.intOf kv).toNat)
  case atStart => exact ⟨0, Nat.zero_le _, rfl, rfl, rfl⟩
  case round =>
    obtain ⟨k, hk, rfl, rfl, hwr⟩ := hrel
    subst hwr
    by_cases hlt : k ≤ i
    · have h1 : (k : Int) ≤ (i : Int) := by omega
      have h2 : (k : Int) ≤ 10 := by omega
      have h3 : ((ones s k : Nat) : Int) ≤ 10 := by have := ones_le s k; omega
      have HO : Hid (ones s (k + 1) = ones s k + if bitS s k then 1 else 0) := rfl
      generalize ones s k = c at *
      have HK : Hid (k ≤ i) := hlt
      clear HKr hk hlt
      cases hb : bitS s k
      · have hb' : (bits BinOp.and IntKind.i64 (s / 2 ^ k) 1 == 1) = false := hb
        have HB : Hid _ := hb
        clear hb
        go_wp2_with fail
        go_roundw
        case rel =>
          have e := HO.out
          rw [HB.out] at e
          have e : ones s (k + 1) = c := by simpa using e
          first | exact ⟨k + 1, by have := HK.out; omega, by (rw [e]; try go_num), by go_num, by first | rfl | trivial⟩ | ((repeat apply Exists.intro); exact ⟨⟨k + 1, by have := HK.out; omega, by (rw [e]; try go_num), by go_num, by first | rfl | trivial⟩, rfl⟩)
        case measure => have h1 := HK.out; simp [Go.RowKit.intOf]; omega
      · have hb' : (bits BinOp.and IntKind.i64 (s / 2 ^ k) 1 == 1) = true := hb
        have HB : Hid _ := hb
        clear hb
        go_wp2_with fail
        go_roundw
        case rel =>
          have e := HO.out
          rw [HB.out] at e
          have e : ones s (k + 1) = c + 1 := by simpa using e
          first | exact ⟨k + 1, by have := HK.out; omega, by (rw [e]; try go_num), by go_num, by first | rfl | trivial⟩ | ((repeat apply Exists.intro); exact ⟨⟨k + 1, by have := HK.out; omega, by (rw [e]; try go_num), by go_num, by first | rfl | trivial⟩, rfl⟩)
        case measure => have h1 := HK.out; simp [Go.RowKit.intOf]; omega
    · obtain rfl : k = i + 1 := by omega
      have hn : ¬ (((i + 1 : Nat) : Int) ≤ (i : Int)) := by omega
      have HF : Hid (flB s f i = (bitS s i && decide (ones s (i + 1) ≤ f))) := rfl
      have h3 : ((ones s (i + 1) : Nat) : Int) ≤ 11 := by have := ones_le s (i + 1); omega
      generalize ones s (i + 1) = c at *
      clear hk hlt
      cases hb : bitS s i
      · have hb' : (bits BinOp.and IntKind.i64 (s / 2 ^ i) 1 == 1) = false := hb
        have HB : Hid _ := hb
        clear hb
        go_wp2_with fail
        refine HKr.out _ _ ?_
        clear HKr
        go_wp2_with fail
        go_ret
        rw [HF.out, HB.out]
        exact ⟨rfl, rfl⟩
      · have hb' : (bits BinOp.and IntKind.i64 (s / 2 ^ i) 1 == 1) = true := hb
        have HB : Hid _ := hb
        clear hb
        go_wp2_with fail
        refine HKr.out _ _ ?_
        clear HKr
        go_wp2_with fail
        go_ret
        rw [HF.out, HB.out]
        exact ⟨by simp, rfl⟩
end Go.Proofs.Ytcahfkfafdoilaa
