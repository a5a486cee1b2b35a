/- Package cast: Table; the reference's Table and Count; texts by their bytes. -/
import Derived.Test.YtdfadinpeeigkaaDoorCaN
import Derived.Test.YtdfadinpeeigkaaDoorRowS
import Derived.Test.YtdfadinpeeigkaaDoorPcC
import Derived.Maps.OwnOps
import Derived.Maps.Views
namespace Go.Proofs.YtdfadinpeeigkaaDoor
open Go Go.RowKit Go.Lib

theorem ba_extC {a b : ByteArray} (h : a.data.toList = b.data.toList) : a = b := by
  cases a; cases b
  congr 1
  exact Array.toList_inj.1 h
theorem toList_neC {s t : ByteArray} (h : s ≠ t) : (s.toList == t.toList) = false := by
  rw [ByteArray.toList_eq, ByteArray.toList_eq]
  exact beq_eq_false_iff_ne.2 fun c => h (ba_extC c)
theorem full_facts {s : ByteArray} (h : s ≠ ⟨#[]⟩) : s.toList.isEmpty = false ∧ (s.toList == []) = false ∧ ¬ (s.toList = []) ∧ (s.toList != []) = true := by
  have h1 : s.toList ≠ [] := fun c => h (ba_extC (by rw [← ByteArray.toList_eq, c]))
  exact ⟨by cases e : s.toList with | nil => exact absurd e h1 | cons a l => rfl, beq_eq_false_iff_ne.2 h1, h1, by simpa using h1⟩
theorem ctable_any (n f : Int) (w : World) : Calls Tryd.prog 23 #[.int .i64 n, .int .i64 f] w fun e w' => e = .returned (.bool (decide (1 ≤ n ∧ n ≤ 10 ∧ 0 ≤ f ∧ 3 * f < n))) ∧ w' = w := by
  by_cases h1 : 1 ≤ n
  · by_cases h2 : n ≤ 10
    · by_cases h3 : 0 ≤ f
      · obtain ⟨q, hq⟩ : ∃ q : Int, q = (n - 1).tdiv 3 := ⟨_, rfl⟩
        obtain ⟨k, rfl⟩ : ∃ k : Nat, n = (k : Int) + 1 := ⟨(n - 1).toNat, by omega⟩
        have e1 : (k : Int) + 1 - 1 = (k : Nat) := by omega
        rw [e1] at hq
        have hq2 : q = ((k / 3 : Nat) : Int) := hq
        obtain ⟨D, hD⟩ : ∃ D, D = decide (1 ≤ (k : Int) + 1 ∧ (k : Int) + 1 ≤ 10 ∧ 0 ≤ f ∧ 3 * f < (k : Int) + 1) := ⟨_, rfl⟩
        have hD2 : decide (f ≤ q) = D := by rw [hD, hq2]; exact decide_eq_decide.2 ⟨fun c => by omega, fun c => by omega⟩
        rw [← hD]
        have hq3 : ((k : Nat) : Int).tdiv 3 = q := hq.symm
        have b0 : 0 ≤ q := by omega
        have b1 : q ≤ 3 := by omega
        clear hD hq hq2
        go_enter Tryd.func23, Tryd.ntmps23
        go_wp2
        go_ret
        exact ⟨rfl, rfl⟩
      · rw [decide_eq_false (show ¬ (1 ≤ n ∧ n ≤ 10 ∧ 0 ≤ f ∧ 3 * f < n) from fun c => h3 c.2.2.1)]
        go_enter Tryd.func23, Tryd.ntmps23
        go_wp2
        go_ret
        exact ⟨rfl, rfl⟩
    · rw [decide_eq_false (show ¬ (1 ≤ n ∧ n ≤ 10 ∧ 0 ≤ f ∧ 3 * f < n) from fun c => h2 c.2.1)]
      go_enter Tryd.func23, Tryd.ntmps23
      go_wp2
      go_ret
      exact ⟨rfl, rfl⟩
  · rw [decide_eq_false (show ¬ (1 ≤ n ∧ n ≤ 10 ∧ 0 ≤ f ∧ 3 * f < n) from fun c => h1 c.1)]
    go_enter Tryd.func23, Tryd.ntmps23
    go_wp2
    go_ret
    exact ⟨rfl, rfl⟩
end Go.Proofs.YtdfadinpeeigkaaDoor
