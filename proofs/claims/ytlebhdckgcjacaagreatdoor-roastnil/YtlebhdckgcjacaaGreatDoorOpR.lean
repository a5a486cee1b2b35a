/- A step that is handed in: its numbers. -/
import Derived.Test.YtlebhdckgcjacaaGreatDoorRnO
import Derived.ProofKit
import Derived.OpenShut
import Derived.Below
import Derived.LaidMore
import Derived.Stop.Joined
namespace Go.Proofs.YtlebhdckgcjacaaGreatDoor
open Go Go.ChangeShapes Go.WideShapes Go.ChangeAt Go.RowKit
theorem cellsStep : Tryz.prog.cellsOf 30 = 26 := by kernel_rfl
theorem cellsIntR : Tryz.prog.cellsOf 3 = 1 := by kernel_rfl
set_option maxRecDepth 100000 in
theorem open_step21 {H : Type} {enc : TypeId × Value → H} {W : World} {base b0 : Nat} {spare : Nat → Bool} {held : Bool} {r : Reach} {v : Value} {d : DataW H} {p : List MemPlace}
    (hv : Value.okWide Tryz.prog W r b0 30 v) (h : DataW.Trod enc Tryz.prog W base spare held 30 v d p) :
    ∃ (cs : Array Value) (s n : Int), v = .agg cs ∧ cs.size = 26 ∧ cs[1]? = some (.int .i64 s) ∧ cs[2]? = some (.int .i64 n) := by
  simp only [Value.okWide, Tryz.underlying30] at hv
  obtain ⟨cs, rfl, hsz, _⟩ := hv
  rw [cellsStep] at hsz
  obtain ⟨fuel, hf⟩ := h
  obtain ⟨xs, m, _, hx, _, hl, hall⟩ := DataW.trod_struct Tryz.underlying30 hf
  have i1 := hall 1 _ rfl
  have i2 := hall 2 _ rfl
  have hx1 : 1 < xs.length := by rw [hl]; decide
  have hx2 : 2 < xs.length := by rw [hl]; decide
  rw [List.getElem?_eq_getElem hx1] at i1
  rw [List.getElem?_eq_getElem hx2] at i2
  obtain ⟨s, e1, _, _⟩ := DataW.trod_int Tryz.underlying3 i1
  obtain ⟨n, e2, _, _⟩ := DataW.trod_int Tryz.underlying3 i2
  have f1 := congrArg (fun l : List Value => l[0]?) e1
  have f2 := congrArg (fun l : List Value => l[0]?) e2
  simp [cellsIntR, Value.cells] at f1 f2
  exact ⟨cs, s, n, rfl, hsz, f1, f2⟩
end Go.Proofs.YtlebhdckgcjacaaGreatDoor
