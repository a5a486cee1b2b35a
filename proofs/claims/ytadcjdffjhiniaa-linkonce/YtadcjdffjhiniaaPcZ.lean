/- The law ParcelUnpacks: the walk. -/
import Derived.Test.YtadcjdffjhiniaaPcY
namespace Go.Proofs.Ytadcjdffjhiniaa
open Go Go.RowKit Go.Lib

theorem runpack_any (s : ByteArray) (hs : s.size < 140737488351233) (w : World) : Calls Try.prog 34 #[.string s] w fun e w' => rupPost w s e w' := by
  by_cases h1 : 20000 < s.size
  · exact runpack_pre s hs (.inl h1) w
  · by_cases h2 : s.size < 2
    · exact runpack_pre s hs (.inr h2) w
    · obtain ⟨x, y, r, hxy⟩ := two_of h2
      rcases Bool.eq_false_or_eq_true (kindB (x.toNat : Nat)) with hk | hk
      · by_cases h40 : 40 < y.toNat
        · exact runpack_form s x y r hxy (by omega) (.inr h40) w
        · exact runpack_main s x y r hxy (by omega) hk h40 w
      · exact runpack_form s x y r hxy (by omega) (.inl hk) w
theorem upL_len (t : List UInt8) : (upL t).length ≤ 8796093022208 := by
  unfold upL
  split
  · match t with
    | [] => simp
    | [x] => simp
    | x :: y :: r =>
      show (splitL y.toNat r).1.length ≤ _
      have h1 := splitL_len y.toNat r
      have h2 := y.toNat_lt
      omega
  · simp
end Go.Proofs.Ytadcjdffjhiniaa
