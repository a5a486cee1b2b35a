/- The law ParcelInts, whatever is handed in. -/
import Derived.Test.YtdeeilhibgholaaPiH
import Derived.Test.YtdeeilhibgholaaPiI
import Derived.Test.YtdeeilhibgholaaPiJ
namespace Go.Proofs.Ytdeeilhibgholaa
open Go Go.RowKit Go.Lib

theorem parcelInts_any (a : Option Addr) (l : List Int) (cap : Nat) (s : ByteArray) (hs : s.size < 140737488351233) (w : World) (hI : IntsAt w a l) (hr : ∀ n ∈ l, n < 9223372036854775808) :
    Calls Try.prog 5 #[.slice a l.length cap, .string s] w fun e w' => e = .returned (.bool true) ∧ Below w.heap.size w w' := by
  have hB : (∃ v, s.size = 8 ∧ tiE s.data.toList = 0 ∧ tiL s.data.toList = [v]) ∨ (tiE s.data.toList = 0 ∧ (tiL s.data.toList).length ≠ 1 ∧ s.size ≠ 8) ∨ (tiE s.data.toList = 4 ∧ tiL s.data.toList = []) := by
    rcases tiE_or s.data.toList with h | h
    · obtain ⟨h1, h2, h3⟩ := ti_len h
      rw [ba_len] at h1 h2
      by_cases h8 : s.size = 8
      · have hl : (tiL s.data.toList).length = 1 := by rw [h1, h8]
        match e : tiL s.data.toList with
        | [] => rw [e] at hl; simp at hl
        | [v] => exact .inl ⟨v, h8, h, rfl⟩
        | _ :: _ :: _ => rw [e] at hl; simp at hl
      · exact .inr (.inl ⟨h, by rw [h1]; omega, h8⟩)
    · exact .inr (.inr h)
  match l, hI, hr with
  | [], _, _ =>
    rcases hB with ⟨v, h1, h2, h3⟩ | ⟨h1, h2, h3⟩ | ⟨h1, h2⟩
    · exact pin_zie a cap s hs v h1 h2 h3 w
    · exact pin_zne a cap s hs h1 h2 h3 w
    · exact pin_zbe a cap s hs h1 h2 w
  | x :: r, hI, hr =>
    by_cases hE : inE (x :: r) = 0
    · rcases hB with ⟨v, h1, h2, h3⟩ | ⟨h1, h2, h3⟩ | ⟨h1, h2⟩
      · exact pin_zic a x r cap s hs hE v h1 h2 h3 w hI hr
      · exact pin_znc a x r cap s hs hE h1 h2 h3 w hI hr
      · exact pin_zbc a x r cap s hs hE h1 h2 w hI hr
    · rcases hB with ⟨v, h1, h2, h3⟩ | ⟨h1, h2, h3⟩ | ⟨h1, h2⟩
      · exact pin_xic a x r cap s hs hE v h1 h2 h3 w hI hr
      · exact pin_xnc a x r cap s hs hE h1 h2 h3 w hI hr
      · exact pin_xbc a x r cap s hs hE h1 h2 w hI hr
end Go.Proofs.Ytdeeilhibgholaa
