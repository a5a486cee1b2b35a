/- Package audit: when pairs, and nonces, are alike. -/
import Derived.Test.YtbpgiijdcagckaaDoorAuA
import Derived.Test.YtbpgiijdcagckaaDoorWkQ
namespace Go.Proofs.YtbpgiijdcagckaaDoor
open Go Go.RowKit Go.Lib
def dV (t : Td) : List Value := [.int .u64 (limb t.dx 0 : Nat), .int .u64 (limb t.dx 1 : Nat), .int .u64 (limb t.dx 2 : Nat), .int .u64 (limb t.dx 3 : Nat), .int .u64 (limb t.dy 0 : Nat), .int .u64 (limb t.dy 1 : Nat), .int .u64 (limb t.dy 2 : Nat), .int .u64 (limb t.dy 3 : Nat), .bool t.di]
def eV (t : Td) : List Value := [.int .u64 (limb t.ex 0 : Nat), .int .u64 (limb t.ex 1 : Nat), .int .u64 (limb t.ex 2 : Nat), .int .u64 (limb t.ex 3 : Nat), .int .u64 (limb t.ey 0 : Nat), .int .u64 (limb t.ey 1 : Nat), .int .u64 (limb t.ey 2 : Nat), .int .u64 (limb t.ey 3 : Nat), .bool t.ei]
def eqD (a b : Td) : Bool := eqn a.dx b.dx && (eqn a.dy b.dy && (a.di == b.di))
def eqE (a b : Td) : Bool := eqn a.ex b.ex && (eqn a.ey b.ey && (a.ei == b.ei))
def eqPr (a b : Td) : Bool := (a.n == b.n) && (eqD a b && eqE a b)
def eqNo (a b : Td) : Bool := eqPr a b && eqn a.f b.f
theorem run_ptd_fields : Tryd.prog.underlying 29 = some (.struct (Tryd.prog.fieldsOf 29)) := by kernel_rfl
theorem run_ptd_list : ((Tryd.prog.fieldsOf 29).toList.map fun f => (f.name, f.type, f.offset)) = [("X", 27, 0), ("Y", 27, 4), ("Inf", 4, 8)] := by kernel_rfl
theorem run_ptd (a b : Td) (d : Nat) (w : World) : (Op.equalIn (d + 4) 29 (.agg (dV a).toArray) (.agg (dV b).toArray)).run Tryd.prog w = .ok (eqD a b) w := by
  rw [show d + 4 = (d + 3) + 1 from rfl, run_equalIn_agg w (d + 3) 29 _ _ run_ptd_fields (by kernel_rfl)]
  have hl := run_ptd_list
  generalize (Tryd.prog.fieldsOf 29).toList = fl at hl ⊢
  rcases fl with _ | ⟨f0, _ | ⟨f1, _ | ⟨f2, _ | ⟨f3, fl⟩⟩⟩⟩
  · simp at hl
  · simp at hl
  · simp at hl
  · simp only [List.map_cons, List.map_nil, List.cons.injEq, Prod.mk.injEq, and_true] at hl
    obtain ⟨⟨n0, t0, o0⟩, ⟨n1, t1, o1⟩, ⟨n2, t2, o2⟩⟩ := hl
    have pa0 : (Go.part 27 (dV a).toArray 0).run Tryd.prog w = .ok (.agg (nuV a.dx).toArray) w := by kernel_rfl
    have pb0 : (Go.part 27 (dV b).toArray 0).run Tryd.prog w = .ok (.agg (nuV b.dx).toArray) w := by kernel_rfl
    rw [eqFields_consK (d + 3) _ _ f0 _ (by rw [n0]; decide) w _ _ (eqn a.dx b.dx) (by rw [t0, o0]; exact pa0) (by rw [t0, o0]; exact pb0) (by rw [t0]; exact run_nu (d + 1) _ _ w)]
    have pa1 : (Go.part 27 (dV a).toArray 4).run Tryd.prog w = .ok (.agg (nuV a.dy).toArray) w := by kernel_rfl
    have pb1 : (Go.part 27 (dV b).toArray 4).run Tryd.prog w = .ok (.agg (nuV b.dy).toArray) w := by kernel_rfl
    rw [eqFields_consK (d + 3) _ _ f1 _ (by rw [n1]; decide) w _ _ (eqn a.dy b.dy) (by rw [t1, o1]; exact pa1) (by rw [t1, o1]; exact pb1) (by rw [t1]; exact run_nu (d + 1) _ _ w)]
    have pa2 : (Go.part 4 (dV a).toArray 8).run Tryd.prog w = .ok (.bool a.di) w := by kernel_rfl
    have pb2 : (Go.part 4 (dV b).toArray 8).run Tryd.prog w = .ok (.bool b.di) w := by kernel_rfl
    rw [eqFields_consK (d + 3) _ _ f2 _ (by rw [n2]; decide) w _ _ (a.di == b.di) (by rw [t2, o2]; exact pa2) (by rw [t2, o2]; exact pb2) (by rw [t2]; exact run_equalIn_bool' w (d + 2) 4 _ _ Tryd.underlying4)]
    unfold eqD
    generalize (eqn a.dx b.dx) = r0
    generalize (eqn a.dy b.dy) = r1
    generalize (a.di == b.di) = r2
    cases r0 <;> cases r1 <;> cases r2 <;> simp [Op.eqFields]
  · simp at hl
theorem run_pte_fields : Tryd.prog.underlying 29 = some (.struct (Tryd.prog.fieldsOf 29)) := by kernel_rfl
theorem run_pte_list : ((Tryd.prog.fieldsOf 29).toList.map fun f => (f.name, f.type, f.offset)) = [("X", 27, 0), ("Y", 27, 4), ("Inf", 4, 8)] := by kernel_rfl
theorem run_pte (a b : Td) (d : Nat) (w : World) : (Op.equalIn (d + 4) 29 (.agg (eV a).toArray) (.agg (eV b).toArray)).run Tryd.prog w = .ok (eqE a b) w := by
  rw [show d + 4 = (d + 3) + 1 from rfl, run_equalIn_agg w (d + 3) 29 _ _ run_pte_fields (by kernel_rfl)]
  have hl := run_pte_list
  generalize (Tryd.prog.fieldsOf 29).toList = fl at hl ⊢
  rcases fl with _ | ⟨f0, _ | ⟨f1, _ | ⟨f2, _ | ⟨f3, fl⟩⟩⟩⟩
  · simp at hl
  · simp at hl
  · simp at hl
  · simp only [List.map_cons, List.map_nil, List.cons.injEq, Prod.mk.injEq, and_true] at hl
    obtain ⟨⟨n0, t0, o0⟩, ⟨n1, t1, o1⟩, ⟨n2, t2, o2⟩⟩ := hl
    have pa0 : (Go.part 27 (eV a).toArray 0).run Tryd.prog w = .ok (.agg (nuV a.ex).toArray) w := by kernel_rfl
    have pb0 : (Go.part 27 (eV b).toArray 0).run Tryd.prog w = .ok (.agg (nuV b.ex).toArray) w := by kernel_rfl
    rw [eqFields_consK (d + 3) _ _ f0 _ (by rw [n0]; decide) w _ _ (eqn a.ex b.ex) (by rw [t0, o0]; exact pa0) (by rw [t0, o0]; exact pb0) (by rw [t0]; exact run_nu (d + 1) _ _ w)]
    have pa1 : (Go.part 27 (eV a).toArray 4).run Tryd.prog w = .ok (.agg (nuV a.ey).toArray) w := by kernel_rfl
    have pb1 : (Go.part 27 (eV b).toArray 4).run Tryd.prog w = .ok (.agg (nuV b.ey).toArray) w := by kernel_rfl
    rw [eqFields_consK (d + 3) _ _ f1 _ (by rw [n1]; decide) w _ _ (eqn a.ey b.ey) (by rw [t1, o1]; exact pa1) (by rw [t1, o1]; exact pb1) (by rw [t1]; exact run_nu (d + 1) _ _ w)]
    have pa2 : (Go.part 4 (eV a).toArray 8).run Tryd.prog w = .ok (.bool a.ei) w := by kernel_rfl
    have pb2 : (Go.part 4 (eV b).toArray 8).run Tryd.prog w = .ok (.bool b.ei) w := by kernel_rfl
    rw [eqFields_consK (d + 3) _ _ f2 _ (by rw [n2]; decide) w _ _ (a.ei == b.ei) (by rw [t2, o2]; exact pa2) (by rw [t2, o2]; exact pb2) (by rw [t2]; exact run_equalIn_bool' w (d + 2) 4 _ _ Tryd.underlying4)]
    unfold eqE
    generalize (eqn a.ex b.ex) = r0
    generalize (eqn a.ey b.ey) = r1
    generalize (a.ei == b.ei) = r2
    cases r0 <;> cases r1 <;> cases r2 <;> simp [Op.eqFields]
  · simp at hl
theorem run_pr_fields : Tryd.prog.underlying 31 = some (.struct (Tryd.prog.fieldsOf 31)) := by kernel_rfl
theorem run_pr_list : ((Tryd.prog.fieldsOf 31).toList.map fun f => (f.name, f.type, f.offset)) = [("Node", 3, 0), ("D", 29, 1), ("E", 29, 10)] := by kernel_rfl
theorem run_pr (a b : Td) (d : Nat) (w : World) : (Op.equalIn (d + 5) 31 (.agg (prV a).toArray) (.agg (prV b).toArray)).run Tryd.prog w = .ok (eqPr a b) w := by
  rw [show d + 5 = (d + 4) + 1 from rfl, run_equalIn_agg w (d + 4) 31 _ _ run_pr_fields (by kernel_rfl)]
  have hl := run_pr_list
  generalize (Tryd.prog.fieldsOf 31).toList = fl at hl ⊢
  rcases fl with _ | ⟨f0, _ | ⟨f1, _ | ⟨f2, _ | ⟨f3, fl⟩⟩⟩⟩
  · simp at hl
  · simp at hl
  · simp at hl
  · simp only [List.map_cons, List.map_nil, List.cons.injEq, Prod.mk.injEq, and_true] at hl
    obtain ⟨⟨n0, t0, o0⟩, ⟨n1, t1, o1⟩, ⟨n2, t2, o2⟩⟩ := hl
    have pa0 : (Go.part 3 (prV a).toArray 0).run Tryd.prog w = .ok (.int .i64 a.n) w := by kernel_rfl
    have pb0 : (Go.part 3 (prV b).toArray 0).run Tryd.prog w = .ok (.int .i64 b.n) w := by kernel_rfl
    rw [eqFields_consK (d + 4) _ _ f0 _ (by rw [n0]; decide) w _ _ (a.n == b.n) (by rw [t0, o0]; exact pa0) (by rw [t0, o0]; exact pb0) (by rw [t0]; exact run_equalIn_int w (d + 3) 3 .i64 .i64 _ _ Tryd.underlying3)]
    have pa1 : (Go.part 29 (prV a).toArray 1).run Tryd.prog w = .ok (.agg (dV a).toArray) w := by kernel_rfl
    have pb1 : (Go.part 29 (prV b).toArray 1).run Tryd.prog w = .ok (.agg (dV b).toArray) w := by kernel_rfl
    rw [eqFields_consK (d + 4) _ _ f1 _ (by rw [n1]; decide) w _ _ (eqD a b) (by rw [t1, o1]; exact pa1) (by rw [t1, o1]; exact pb1) (by rw [t1]; exact run_ptd a b d w)]
    have pa2 : (Go.part 29 (prV a).toArray 10).run Tryd.prog w = .ok (.agg (eV a).toArray) w := by kernel_rfl
    have pb2 : (Go.part 29 (prV b).toArray 10).run Tryd.prog w = .ok (.agg (eV b).toArray) w := by kernel_rfl
    rw [eqFields_consK (d + 4) _ _ f2 _ (by rw [n2]; decide) w _ _ (eqE a b) (by rw [t2, o2]; exact pa2) (by rw [t2, o2]; exact pb2) (by rw [t2]; exact run_pte a b d w)]
    unfold eqPr
    generalize (a.n == b.n) = r0
    generalize (eqD a b) = r1
    generalize (eqE a b) = r2
    cases r0 <;> cases r1 <;> cases r2 <;> simp [Op.eqFields]
  · simp at hl
theorem run_pr18_fields : Tryd.prog.underlying 34 = some (.struct (Tryd.prog.fieldsOf 34)) := by kernel_rfl
theorem run_pr18_list : ((Tryd.prog.fieldsOf 34).toList.map fun f => (f.name, f.type, f.offset)) = [("Node", 3, 0), ("D", 29, 1), ("E", 29, 10)] := by kernel_rfl
theorem run_pr18 (a b : Td) (d : Nat) (w : World) : (Op.equalIn (d + 5) 34 (.agg (prV a).toArray) (.agg (prV b).toArray)).run Tryd.prog w = .ok (eqPr a b) w := by
  rw [show d + 5 = (d + 4) + 1 from rfl, run_equalIn_agg w (d + 4) 34 _ _ run_pr18_fields (by kernel_rfl)]
  have hl := run_pr18_list
  generalize (Tryd.prog.fieldsOf 34).toList = fl at hl ⊢
  rcases fl with _ | ⟨f0, _ | ⟨f1, _ | ⟨f2, _ | ⟨f3, fl⟩⟩⟩⟩
  · simp at hl
  · simp at hl
  · simp at hl
  · simp only [List.map_cons, List.map_nil, List.cons.injEq, Prod.mk.injEq, and_true] at hl
    obtain ⟨⟨n0, t0, o0⟩, ⟨n1, t1, o1⟩, ⟨n2, t2, o2⟩⟩ := hl
    have pa0 : (Go.part 3 (prV a).toArray 0).run Tryd.prog w = .ok (.int .i64 a.n) w := by kernel_rfl
    have pb0 : (Go.part 3 (prV b).toArray 0).run Tryd.prog w = .ok (.int .i64 b.n) w := by kernel_rfl
    rw [eqFields_consK (d + 4) _ _ f0 _ (by rw [n0]; decide) w _ _ (a.n == b.n) (by rw [t0, o0]; exact pa0) (by rw [t0, o0]; exact pb0) (by rw [t0]; exact run_equalIn_int w (d + 3) 3 .i64 .i64 _ _ Tryd.underlying3)]
    have pa1 : (Go.part 29 (prV a).toArray 1).run Tryd.prog w = .ok (.agg (dV a).toArray) w := by kernel_rfl
    have pb1 : (Go.part 29 (prV b).toArray 1).run Tryd.prog w = .ok (.agg (dV b).toArray) w := by kernel_rfl
    rw [eqFields_consK (d + 4) _ _ f1 _ (by rw [n1]; decide) w _ _ (eqD a b) (by rw [t1, o1]; exact pa1) (by rw [t1, o1]; exact pb1) (by rw [t1]; exact run_ptd a b d w)]
    have pa2 : (Go.part 29 (prV a).toArray 10).run Tryd.prog w = .ok (.agg (eV a).toArray) w := by kernel_rfl
    have pb2 : (Go.part 29 (prV b).toArray 10).run Tryd.prog w = .ok (.agg (eV b).toArray) w := by kernel_rfl
    rw [eqFields_consK (d + 4) _ _ f2 _ (by rw [n2]; decide) w _ _ (eqE a b) (by rw [t2, o2]; exact pa2) (by rw [t2, o2]; exact pb2) (by rw [t2]; exact run_pte a b d w)]
    unfold eqPr
    generalize (a.n == b.n) = r0
    generalize (eqD a b) = r1
    generalize (eqE a b) = r2
    cases r0 <;> cases r1 <;> cases r2 <;> simp [Op.eqFields]
  · simp at hl
theorem run_no_fields : Tryd.prog.underlying 65 = some (.struct (Tryd.prog.fieldsOf 65)) := by kernel_rfl
theorem run_no_list : ((Tryd.prog.fieldsOf 65).toList.map fun f => (f.name, f.type, f.offset)) = [("pair", 31, 0), ("factor", 27, 19)] := by kernel_rfl
theorem run_no (a b : Td) (d : Nat) (w : World) : (Op.equalIn (d + 6) 65 (.agg (noV a).toArray) (.agg (noV b).toArray)).run Tryd.prog w = .ok (eqNo a b) w := by
  rw [show d + 6 = (d + 5) + 1 from rfl, run_equalIn_agg w (d + 5) 65 _ _ run_no_fields (by kernel_rfl)]
  have hl := run_no_list
  generalize (Tryd.prog.fieldsOf 65).toList = fl at hl ⊢
  rcases fl with _ | ⟨f0, _ | ⟨f1, _ | ⟨f2, fl⟩⟩⟩
  · simp at hl
  · simp at hl
  · simp only [List.map_cons, List.map_nil, List.cons.injEq, Prod.mk.injEq, and_true] at hl
    obtain ⟨⟨n0, t0, o0⟩, ⟨n1, t1, o1⟩⟩ := hl
    have pa0 : (Go.part 31 (noV a).toArray 0).run Tryd.prog w = .ok (.agg (prV a).toArray) w := by kernel_rfl
    have pb0 : (Go.part 31 (noV b).toArray 0).run Tryd.prog w = .ok (.agg (prV b).toArray) w := by kernel_rfl
    rw [eqFields_consK (d + 5) _ _ f0 _ (by rw [n0]; decide) w _ _ (eqPr a b) (by rw [t0, o0]; exact pa0) (by rw [t0, o0]; exact pb0) (by rw [t0]; exact run_pr a b d w)]
    have pa1 : (Go.part 27 (noV a).toArray 19).run Tryd.prog w = .ok (.agg (nuV a.f).toArray) w := by kernel_rfl
    have pb1 : (Go.part 27 (noV b).toArray 19).run Tryd.prog w = .ok (.agg (nuV b.f).toArray) w := by kernel_rfl
    rw [eqFields_consK (d + 5) _ _ f1 _ (by rw [n1]; decide) w _ _ (eqn a.f b.f) (by rw [t1, o1]; exact pa1) (by rw [t1, o1]; exact pb1) (by rw [t1]; exact run_nu (d + 3) _ _ w)]
    unfold eqNo
    generalize (eqPr a b) = r0
    generalize (eqn a.f b.f) = r1
    cases r0 <;> cases r1 <;> simp [Op.eqFields]
  · simp at hl
theorem run_no0 (a b : Td) (w : World) : (Op.equalIn 10000 65 (.agg (noV a).toArray) (.agg (noV b).toArray)).run Tryd.prog w = .ok (eqNo a b) w := run_no a b 9994 w
theorem run_pr0 (a b : Td) (w : World) : (Op.equalIn 10000 34 (.agg (prV a).toArray) (.agg (prV b).toArray)).run Tryd.prog w = .ok (eqPr a b) w := run_pr18 a b 9995 w
end Go.Proofs.YtbpgiijdcagckaaDoor
