/- Hash.Sum: a copy is finished. -/
import Derived.Test.YtienklnigigepaaGreatDoorDPieA
import Derived.Deep.MidRow
namespace Go.Proofs.YtienklnigigepaaGreatDoor
open Go.RowKit
def hashL (x : E8) (b : Nat → Nat) (n : Nat) : List Value := [.int .u32 (x.a : Nat), .int .u32 (x.b : Nat), .int .u32 (x.c : Nat), .int .u32 (x.d : Nat), .int .u32 (x.e : Nat), .int .u32 (x.f : Nat), .int .u32 (x.g : Nat), .int .u32 (x.h : Nat)] ++ (List.range 64).map (fun j => Value.int .u8 (b j : Nat)) ++ [.int .i64 (n : Nat)]
theorem hashL_length (x : E8) (b : Nat → Nat) (n : Nat) : (hashL x b n).length = 73 := by simp [hashL]
theorem hashL_get (x : E8) (b : Nat → Nat) (n : Nat) : (∀ j, j < 8 → (hashL x b n)[j]? = some (.int .u32 (x.get j : Nat))) ∧ (∀ j, j < 64 → (hashL x b n)[8 + j]? = some (.int .u8 (b j : Nat))) ∧ (hashL x b n)[72]? = some (.int .i64 (n : Nat)) := by
  refine ⟨fun j hj => ?_, fun j hj => ?_, by simp [hashL]⟩
  · match j, hj with
    | 0, _ | 1, _ | 2, _ | 3, _ | 4, _ | 5, _ | 6, _ | 7, _ => rfl
    | n + 8, h => exact absurd h (by omega)
  · unfold hashL
    rw [List.getElem?_append_left (by simp; omega), List.getElem?_append_right (by simp), List.getElem?_map, List.getElem?_range (by simp; omega)]
    simp
theorem hashL_one (x : E8) (b : Nat → Nat) (n : Nat) : ∀ v ∈ hashL x b n, v.oneCell' = true := by
  intro v hv
  simp only [hashL, List.mem_append, List.mem_cons, List.not_mem_nil, or_false, List.mem_map] at hv
  rcases hv with ((rfl | rfl | rfl | rfl | rfl | rfl | rfl | rfl) | ⟨j, _, rfl⟩) | rfl <;> rfl
theorem HashW.range {w : World} {g n : Nat} {x : E8} {b : Nat → Nat} (h : HashW w g x b n) : w.rangeAt g 0 (hashL x b n) := by
  obtain ⟨h1, h2, h3, _, _⟩ := h
  have e := hashL_get x b n
  intro j v hv
  have hj : j < 73 := by
    rcases Nat.lt_or_ge j 73 with c | c
    · exact c
    · rw [List.getElem?_eq_none (by rw [hashL_length]; exact c)] at hv; cases hv
  rw [Nat.zero_add]
  rcases Nat.lt_or_ge j 8 with c | c
  · rw [h1 j c, ← e.1 j c]; exact hv
  · rcases Nat.lt_or_ge j 72 with d | d
    · obtain ⟨i, rfl⟩ : ∃ i, j = 8 + i := ⟨j - 8, by omega⟩
      rw [h2 i (by omega), ← e.2.1 i (by omega)]; exact hv
    · obtain rfl : j = 72 := by omega
      rw [h3, ← e.2.2]; exact hv
theorem HashW.made (w : World) (x : E8) (b : Nat → Nat) (n : Nat) (t : TypeId) : HashW (w.alloc (.cells (hashL x b n).toArray t)) w.heap.size x b n := by
  have e := hashL_get x b n
  refine ⟨fun j hj => ?_, fun j hj => ?_, ?_, fun o => by simp, by simp⟩
  · rw [World.cell?_alloc_new, List.getElem?_toArray]; exact e.1 j hj
  · rw [World.cell?_alloc_new, List.getElem?_toArray]; exact e.2.1 j hj
  · rw [World.cell?_alloc_new, List.getElem?_toArray]; exact e.2.2
theorem store_hash {ops : Array Oper} {rest : List Oper} {o : Oper} {a : Act} {w : World} {c : Array Value} {Q : Exit → Act → World → Prop} (x y : Operand) (cs : List Value) (hgd : o.guard = none) (ho : o.op = .store 214 x y)
    (hx' : ∃ p, a.eval x = .pointer (some ⟨p, 0, none⟩) ∧ p = w.heap.size) (hy : a.eval y = .agg cs.toArray) (hc : c.size = 73) (hl : cs.length = 73) (h1 : ∀ v ∈ cs, v.oneCell' = true)
    (h : wpList Tryz.prog ops Q rest (a.put o.dst undef) (w.alloc (.cells cs.toArray 214))) : wpList Tryz.prog ops Q (o :: rest) a (w.alloc (.cells c 214)) :=
  wpList_plain hgd fun _ hK => by
    obtain ⟨p, hx, rfl⟩ := hx'
    unfold Oper.wp execOp
    simp only [ho, hx, hy, Instr.storeAt, Instr.sureAddr, Sem.run_bind, Sem.run_pure, Result.andThen_ok, run_storeVar_new (P := Tryz.prog) w 214 c cs.toArray (by rw [List.size_toArray, hl]; kernel_rfl) (by rw [hc, List.size_toArray, hl]) (all_oneCell_toArray h1)]
    exact hK _ _ h
end Go.Proofs.YtienklnigigepaaGreatDoor
