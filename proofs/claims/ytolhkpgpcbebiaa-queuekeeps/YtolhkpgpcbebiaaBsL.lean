/- A slice literal of one struct: the operation as a law. -/
import Derived.Test.YtolhkpgpcbebiaaQuA
import Derived.Great.BuildSlice
namespace Go.Proofs.Ytolhkpgpcbebiaa
open Go Go.RowKit Go.Lib
theorem wpl_bs1 {P : Program} {t e : TypeId} {k bytes : Nat} (I : InfE P t e k bytes) (k0 : 0 < k) (k1 : k ≤ 1000) {ops : Array Oper} {rest : List Oper} {o : Oper} {a : Act} {w : World} {Q : Exit → Act → World → Prop} {x : Nat} {cs : List Value} (hg : o.guard = none) (ho : o.op = .buildSlice t 1 #[(0, .tmp x)]) (hx : a.eval (.tmp x) = .agg cs.toArray) (hl : cs.length = k)
    (h : wpList P ops Q rest (a.put o.dst (.slice (some ⟨w.heap.size, 0, none⟩) 1 1)) (w.alloc (.cells cs.toArray e))) : wpList P ops Q (o :: rest) a w := by
  obtain ⟨i, z, hi, hz, -, hs, -⟩ := I.hi
  refine wpList_buildSlice hg t e 1 _ ho cs.toArray i z I.ht hi hz (by rw [hs]; omega) (by rw [hs]; omega) ?_ h
  have e1 : (Array.map (fun (x : Nat × Operand) => match x with | (i, x) => (i, a.eval x)) #[(0, Operand.tmp x)]).toList = (([Value.agg cs.toArray].zipIdx 0).map fun x => (x.2, x.1)) := by simp [hx]
  rw [e1, hs]
  rw [Great.fill_whole k0 [Value.agg cs.toArray] _ (by simp [Value.cells, hl]) (by simp)]
  simp [Value.cells]
end Go.Proofs.Ytolhkpgpcbebiaa
