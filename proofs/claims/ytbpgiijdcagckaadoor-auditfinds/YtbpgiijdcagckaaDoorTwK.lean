/- A pair as a map's key. -/
import Derived.Test.YtbpgiijdcagckaaDoorAuQ
import Derived.DeepKeys4
import Derived.Maps.OwnSet
namespace Go.Proofs.YtbpgiijdcagckaaDoor
open Go Go.RowKit Go.Lib Go.WideMaps Go.Maps
set_option maxRecDepth 100000 in
theorem laidOutP : laidOutB Tryd.prog = true := by kernel_rfl
theorem rowPr : (31 : TypeId) < Tryd.prog.types.size := of_decide_eq_true (by kernel_rfl)
theorem widePr : (match Tryd.prog.underlying 31 with | some (.array _ _) | some (.struct _) => true | _ => false) = true := by kernel_rfl
set_option maxRecDepth 100000 in
theorem lawPr : Keyed Tryd.prog 31 := Keyed.of_law (deep_law_laid laidOutP (m := 5) (by omega) rowPr (by kernel_rfl) widePr)
theorem cellsU : Tryd.prog.cellsOf 25 = 1 := by kernel_rfl
theorem cellsN : Tryd.prog.cellsOf 27 = 4 := by kernel_rfl
theorem cellsB : Tryd.prog.cellsOf 4 = 1 := by kernel_rfl
theorem cellsI : Tryd.prog.cellsOf 3 = 1 := by kernel_rfl
theorem cellsP : Tryd.prog.cellsOf 29 = 9 := by kernel_rfl
theorem cellsR : Tryd.prog.cellsOf 31 = 19 := by kernel_rfl
/-- A node's number that an int holds. -/
def Td.W (t : Td) : Prop := -9223372036854775808 ≤ t.n ∧ t.n ≤ 9223372036854775807
theorem kl_int (D : Nat) (n : Int) (h : -9223372036854775808 ≤ n ∧ n ≤ 9223372036854775807) : Program.keyLits Tryd.prog (D + 1) 3 [.int .i64 n] = some [.int .i64 n] := by
  unfold Program.keyLits
  rw [Tryd.underlying3]
  have w : (Lit.int .i64 n).wf = true := WalkArith.wf_i64 h
  simp [w]
theorem kl_bool (D : Nat) (b : Bool) : Program.keyLits Tryd.prog (D + 1) 4 [.bool b] = some [.bool b] := by
  unfold Program.keyLits
  rw [Tryd.underlying4]
theorem kl_u64 (D x i : Nat) : Program.keyLits Tryd.prog (D + 1) 25 [.int .u64 (limb x i : Nat)] = some [.int .u64 (limb x i : Nat)] := by
  unfold Program.keyLits
  rw [Tryd.underlying25]
  have l := limb_lt x i
  have l2 : (limb x i : Int) ≤ 18446744073709551615 := by
    have : limb x i < 18446744073709551616 := l
    omega
  have w : (Lit.int .u64 (limb x i : Nat)).wf = true := by
    simp [Lit.wf, IntKind.min, IntKind.max, IntKind.signed, IntKind.bits]
    omega
  simp [w]
theorem kl_num (D x : Nat) : Program.keyLits Tryd.prog (D + 2) 27 (nuV x) = some [.int .u64 (limb x 0 : Nat), .int .u64 (limb x 1 : Nat), .int .u64 (limb x 2 : Nat), .int .u64 (limb x 3 : Nat)] := by
  unfold Program.keyLits
  rw [Tryd.underlying27]
  have e : List.range 4 = [0, 1, 2, 3] := rfl
  have h0 := kl_u64 D x 0
  have h1 := kl_u64 D x 1
  have h2 := kl_u64 D x 2
  have h3 := kl_u64 D x 3
  simp only [cellsN, cellsU, e, List.mapM_cons, List.mapM_nil, nuV, List.length_cons, List.length_nil, if_pos, List.drop, List.take, Nat.mul_one]
  simp [h0, h1, h2, h3]
theorem kl_ptd (D : Nat) (t : Td) : ∃ l, Program.keyLits Tryd.prog (D + 3) 29 (dV t) = some l := by
  unfold Program.keyLits
  rw [Tryd.underlying29]
  have h0 := kl_num D t.dx
  have h1 := kl_num D t.dy
  have h2 := kl_bool (D + 1) t.di
  simp only [nuV] at h0 h1
  simp [cellsP, cellsN, cellsB, dV, h0, h1, h2]
theorem kl_pte (D : Nat) (t : Td) : ∃ l, Program.keyLits Tryd.prog (D + 3) 29 (eV t) = some l := by
  unfold Program.keyLits
  rw [Tryd.underlying29]
  have h0 := kl_num D t.ex
  have h1 := kl_num D t.ey
  have h2 := kl_bool (D + 1) t.ei
  simp only [nuV] at h0 h1
  simp [cellsP, cellsN, cellsB, eV, h0, h1, h2]
theorem kl_pr (D : Nat) (t : Td) (h : t.W) : ∃ l, Program.keyLits Tryd.prog (D + 4) 31 (prV t) = some l := by
  obtain ⟨l1, h1⟩ := kl_ptd D t
  obtain ⟨l2, h2⟩ := kl_pte D t
  have h0 := kl_int (D + 2) t.n h
  unfold Program.keyLits
  rw [Tryd.underlying31]
  simp only [dV] at h1
  simp only [eV] at h2
  simp [cellsR, cellsP, cellsI, prV, h0, h1, h2]
theorem key_pr (t : Td) (h : t.W) : ∃ l, keyOf Tryd.prog 31 (.agg (prV t).toArray) = some l := by
  have hs : ∃ D, Tryd.prog.types.size + 1 = D + 4 := ⟨Tryd.prog.types.size - 3, by
    have : 3 ≤ Tryd.prog.types.size := of_decide_eq_true (by kernel_rfl)
    omega⟩
  obtain ⟨D, hD⟩ := hs
  obtain ⟨l, hl⟩ := kl_pr D t h
  have hk : Tryd.prog.keyType 31 = true := by kernel_rfl
  have hf : (Value.agg (prV t).toArray).formed Tryd.prog 31 = true := by
    simp [Value.formed, Tryd.underlying31, cellsR, prV]
  have hl' : Program.keyLits Tryd.prog (Tryd.prog.types.size + 1) 31 (prV t) = some l := by
    rw [hD]
    exact hl
  refine ⟨.string (keyBytes l), ?_⟩
  unfold keyOf
  rw [Tryd.underlying31]
  show (if (Tryd.prog.keyType 31 && (Value.agg (prV t).toArray).formed Tryd.prog 31) = true then (Program.keyLits Tryd.prog (Tryd.prog.types.size + 1) 31 (prV t)).map fun ls => Lit.string (keyBytes ls) else none) = _
  rw [hk, hf, hl']
  rfl
/-- A pair's key. -/
noncomputable def klP (t : Td) : Lit := (keyOf Tryd.prog 31 (.agg (prV t).toArray)).getD .nil
theorem key_is (t : Td) (h : t.W) : keyOf Tryd.prog 31 (.agg (prV t).toArray) = some (klP t) := by
  obtain ⟨l, hl⟩ := key_pr t h
  unfold klP
  rw [hl]
  rfl
theorem eqPr_iff (a b : Td) : eqPr a b = true ↔ prV a = prV b := by
  simp [eqPr, eqD, eqE, eqn, eq4, prV, and_assoc]
set_option maxRecDepth 100000 in
theorem kl_iff (a b : Td) (ha : a.W) (hb : b.W) : klP a = klP b ↔ eqPr a b = true := by
  rw [eqPr_iff]
  constructor
  · intro h
    have k1 := key_is a ha
    have k2 := key_is b hb
    rw [h] at k1
    have e := lawPr.inj k1 k2
    injection e with e
    have e2 : (prV a).toArray.toList = (prV b).toArray.toList := congrArg Array.toList e
    exact e2
  · intro h
    unfold klP
    rw [h]
end Go.Proofs.YtbpgiijdcagckaaDoor
