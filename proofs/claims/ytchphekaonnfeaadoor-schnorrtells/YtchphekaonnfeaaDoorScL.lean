/- The statement SchnorrHolds' walk, where a signature is told. -/
import Derived.Test.YtchphekaonnfeaaDoorScK
namespace Go.Proofs.YtchphekaonnfeaaDoor
open Go Go.RowKit Go.Lib
theorem fErr_all : ∀ {l : List Int}, fErr l = 0 → ∀ e ∈ l, e = 0
  | [], _, e, h => absurd h (by simp)
  | a :: r, h, e, he => by
    unfold fErr at h
    by_cases c : a = 0
    · rw [if_pos c] at h
      rcases List.mem_cons.1 he with rfl | h'
      · exact c
      · exact fErr_all h e h'
    · rw [if_neg c] at h
      exact absurd h c
theorem scE_lt {x : Nat} (h : scE x = 0) : x < QQ := by
  by_cases d : x < QQ
  · exact d
  · have e : scE x = 20 := if_neg d
    rw [e] at h
    exact absurd h (by decide)
theorem nzE_pos {x : Nat} (h : nzE x = 0) : 0 < x := by
  by_cases d : x = 0
  · have e : nzE x = 21 := if_pos d
    rw [e] at h
    exact absurd h (by decide)
  · omega
theorem shE_le {m : ByteArray} (h : shE m = 0) : m.size ≤ 4096 := by
  by_cases d : m.size ≤ 4096
  · exact d
  · have e : shE m = 2 := if_neg d
    rw [e] at h
    exact absurd h (by decide)
end Go.Proofs.YtchphekaonnfeaaDoor
