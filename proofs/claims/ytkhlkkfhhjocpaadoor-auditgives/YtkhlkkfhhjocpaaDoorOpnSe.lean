/- A nonce's two numbers, a factor and a share of the key, handed in. -/
import Derived.Test.YtkhlkkfhhjocpaaDoorOpnTd
import Derived.Test.YtkhlkkfhhjocpaaDoorAuH
namespace Go.Proofs.YtkhlkkfhhjocpaaDoor
open Go Go.ChangeShapes Go.WideShapes Go.ChangeAt Go.RowKit
theorem cellsSeK : Tryd.prog.cellsOf 43 = 16 := by kernel_rfl
set_option maxRecDepth 100000 in
theorem trod_seK {H : Type} {enc : TypeId × Value → H} {W : World} {base fuel : Nat} {spare : Nat → Bool} {held : Bool} {c0 c1 c2 c3 c4 c5 c6 c7 c8 c9 c10 c11 c12 c13 c14 c15 : Value} {x : DataW H × List MemPlace}
    (hf : DataW.trod enc Tryd.prog W base spare held fuel 43 [c0, c1, c2, c3, c4, c5, c6, c7, c8, c9, c10, c11, c12, c13, c14, c15] = some x) :
    ∃ (v0 : Nat) (v1 : Nat) (v2 : Nat) (v3 : Nat), v0 < R256 ∧ v1 < R256 ∧ v2 < R256 ∧ v3 < R256 ∧ c0 = .int .u64 (limb v0 0 : Nat) ∧ c1 = .int .u64 (limb v0 1 : Nat) ∧ c2 = .int .u64 (limb v0 2 : Nat) ∧ c3 = .int .u64 (limb v0 3 : Nat) ∧ c4 = .int .u64 (limb v1 0 : Nat) ∧ c5 = .int .u64 (limb v1 1 : Nat) ∧ c6 = .int .u64 (limb v1 2 : Nat) ∧ c7 = .int .u64 (limb v1 3 : Nat) ∧ c8 = .int .u64 (limb v2 0 : Nat) ∧ c9 = .int .u64 (limb v2 1 : Nat) ∧ c10 = .int .u64 (limb v2 2 : Nat) ∧ c11 = .int .u64 (limb v2 3 : Nat) ∧ c12 = .int .u64 (limb v3 0 : Nat) ∧ c13 = .int .u64 (limb v3 1 : Nat) ∧ c14 = .int .u64 (limb v3 2 : Nat) ∧ c15 = .int .u64 (limb v3 3 : Nat) := by
  obtain ⟨xs, m, _, hx, _, hl, hall⟩ := DataW.trod_struct Tryd.underlying43 hf
  have i0 := hall 0 _ rfl
  have i1 := hall 1 _ rfl
  have i2 := hall 2 _ rfl
  have i3 := hall 3 _ rfl
  match xs, hl with
  | [y0, y1, y2, y3], _ =>
    simp [cellsNum] at i0 i1 i2 i3
    obtain ⟨v0, hv0, rfl, rfl, rfl, rfl, rfl⟩ := trod_numP i0
    obtain ⟨v1, hv1, rfl, rfl, rfl, rfl, rfl⟩ := trod_numP i1
    obtain ⟨v2, hv2, rfl, rfl, rfl, rfl, rfl⟩ := trod_numP i2
    obtain ⟨v3, hv3, rfl, rfl, rfl, rfl, rfl⟩ := trod_numP i3
    exact ⟨v0, v1, v2, v3, hv0, hv1, hv2, hv3, rfl, rfl, rfl, rfl, rfl, rfl, rfl, rfl, rfl, rfl, rfl, rfl, rfl, rfl, rfl, rfl⟩
set_option maxRecDepth 100000 in
theorem open_secret {H : Type} {enc : TypeId × Value → H} {W : World} {base b0 : Nat} {spare : Nat → Bool} {held : Bool} {r : Reach} {v : Value} {d : DataW H} {p : List MemPlace}
    (hv : Value.okWide Tryd.prog W r b0 43 v) (h : DataW.Trod enc Tryd.prog W base spare held 43 v d p) :
    ∃ s : Nat × Nat × Nat × Nat, (s.1 < R256 ∧ s.2.1 < R256 ∧ s.2.2.1 < R256 ∧ s.2.2.2 < R256) ∧ v = .agg (seV s.1 s.2.1 s.2.2.1 s.2.2.2).toArray := by
  simp only [Value.okWide, Tryd.underlying43] at hv
  obtain ⟨cs, rfl, hsz, _⟩ := hv
  rw [cellsSeK] at hsz
  obtain ⟨fuel, hf⟩ := h
  obtain ⟨l⟩ := cs
  have hl : l.length = 16 := hsz
  clear hsz
  obtain ⟨c0, l0, rfl, hl0⟩ := len_succ hl
  obtain ⟨c1, l1, rfl, hl1⟩ := len_succ hl0
  obtain ⟨c2, l2, rfl, hl2⟩ := len_succ hl1
  obtain ⟨c3, l3, rfl, hl3⟩ := len_succ hl2
  obtain ⟨c4, l4, rfl, hl4⟩ := len_succ hl3
  obtain ⟨c5, l5, rfl, hl5⟩ := len_succ hl4
  obtain ⟨c6, l6, rfl, hl6⟩ := len_succ hl5
  obtain ⟨c7, l7, rfl, hl7⟩ := len_succ hl6
  obtain ⟨c8, l8, rfl, hl8⟩ := len_succ hl7
  obtain ⟨c9, l9, rfl, hl9⟩ := len_succ hl8
  obtain ⟨c10, l10, rfl, hl10⟩ := len_succ hl9
  obtain ⟨c11, l11, rfl, hl11⟩ := len_succ hl10
  obtain ⟨c12, l12, rfl, hl12⟩ := len_succ hl11
  obtain ⟨c13, l13, rfl, hl13⟩ := len_succ hl12
  obtain ⟨c14, l14, rfl, hl14⟩ := len_succ hl13
  obtain ⟨c15, l15, rfl, hl15⟩ := len_succ hl14
  obtain rfl := List.length_eq_zero_iff.1 hl15
  obtain ⟨a, b, c, e, h0, h1, h2, h3, rfl, rfl, rfl, rfl, rfl, rfl, rfl, rfl, rfl, rfl, rfl, rfl, rfl, rfl, rfl, rfl⟩ := trod_seK hf
  exact ⟨(a, b, c, e), ⟨h0, h1, h2, h3⟩, rfl⟩
end Go.Proofs.YtkhlkkfhhjocpaaDoor
