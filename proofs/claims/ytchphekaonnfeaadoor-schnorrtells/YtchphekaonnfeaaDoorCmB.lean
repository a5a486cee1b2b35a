/- Several texts laid together. -/
import Derived.Test.YtchphekaonnfeaaDoorCmA
import Derived.Test.YtchphekaonnfeaaDoorFdB
import Derived.Test.YtchphekaonnfeaaDoorLbA
import Derived.Test.YtchphekaonnfeaaDoorMgK
namespace Go.Proofs.YtchphekaonnfeaaDoor
open Go Go.RowKit Go.Lib

set_option maxHeartbeats 1000000 in
theorem pplus_any (g a b : Nat) (ha : a < PP) (hb : b < PP) (w : World) (hM : FieldB w g PP) :
    Calls Tryd.prog 67 #[.agg #[.pointer (some ⟨g, 0, none⟩)], .agg #[.int .u64 (limb (a) 0 : Nat), .int .u64 (limb (a) 1 : Nat), .int .u64 (limb (a) 2 : Nat), .int .u64 (limb (a) 3 : Nat)], .agg #[.int .u64 (limb (b) 0 : Nat), .int .u64 (limb (b) 1 : Nat), .int .u64 (limb (b) 2 : Nat), .int .u64 (limb (b) 3 : Nat)]] w fun e w' => e = .returned (.agg #[.int .u64 (limb (aM a b) 0 : Nat), .int .u64 (limb (aM a b) 1 : Nat), .int .u64 (limb (aM a b) 2 : Nat), .int .u64 (limb (aM a b) 3 : Nat)]) ∧ Below w.heap.size w w' := by
  have k := fun w h => fadd_in g PP a b FM_P ha hb w h
  obtain ⟨r, hr⟩ : ∃ r, r = aM a b := ⟨_, rfl⟩
  have k1 : ∀ w, FieldB w g PP → Calls Tryd.prog 23 #[.pointer (some ⟨g, 0, none⟩), .agg #[.int .u64 (limb (a) 0 : Nat), .int .u64 (limb (a) 1 : Nat), .int .u64 (limb (a) 2 : Nat), .int .u64 (limb (a) 3 : Nat)], .agg #[.int .u64 (limb (b) 0 : Nat), .int .u64 (limb (b) 1 : Nat), .int .u64 (limb (b) 2 : Nat), .int .u64 (limb (b) 3 : Nat)]] w fun e w' => e = .returned (.tuple #[.agg #[.int .u64 (limb (r) 0 : Nat), .int .u64 (limb (r) 1 : Nat), .int .u64 (limb (r) 2 : Nat), .int .u64 (limb (r) 3 : Nat)], .int .i64 0]) ∧ Below w.heap.size w w' := by rw [hr]; exact k
  rw [← hr]
  have K1 : Hid _ := k1
  have HM : Hid (FieldB w g PP) := hM
  clear hM hr k k1 ha hb
  go_enter Tryd.func67, Tryd.ntmps67
  go_wp2_with fail
  refine (K1.out _ (by first | exact HM.out | exact HM.out.alloc | exact HM.out.alloc.alloc | exact HM.out.alloc.alloc.alloc | exact HM.out.alloc.alloc.alloc.alloc)).mono ?_
  rintro e w1 ⟨rfl, hb1⟩
  obtain ⟨⟨p0, p1, p2, p3⟩, ⟨f0, f1, f2, f3⟩, pz⟩ := (Pend.call (Pend.new _ _) hb1).facts
  simp only [World.size_alloc] at p0 p1 p2 p3 f0 f1 f2 f3 pz
  have HB : Hid (Below w.heap.size w w1) := by unfold Hid; ((repeat' (first | with_reducible exact Below.refl _ _ | with_reducible refine Below.setCell ?_ ?_ _ | with_reducible refine below_alloc0 ?_ _ | with_reducible refine below_drewN ?_ _ | with_reducible refine Below.drew ?_ | refine below_call0 ?_ (by assumption))) <;> (first | omega | (simp; done) | (simp; omega)))
  clear hb1
  go_wp2_with fail
  refine bodyPost_ret (v := .agg #[.int .u64 (limb (r) 0 : Nat), .int .u64 (limb (r) 1 : Nat), .int .u64 (limb (r) 2 : Nat), .int .u64 (limb (r) 3 : Nat)]) ?_ rfl ⟨rfl, ?_⟩
  · simp [results, Tryd.results67, go_sem, p0, p1, p2, p3, pz]
  · have HB := HB.out
    ((repeat' (first | with_reducible exact HB | with_reducible exact Below.refl _ _ | exact (And.left (by assumption)) | with_reducible refine Below.setCell ?_ ?_ _ | with_reducible refine below_alloc0 ?_ _ | with_reducible refine below_drewN ?_ _ | with_reducible refine Below.drew ?_ | refine below_call0 ?_ (by assumption))) <;> (first | omega | (simp; done) | (simp; omega)))
set_option maxHeartbeats 1000000 in
theorem ptimes_any (g a b : Nat) (ha : a < PP) (hb : b < PP) (w : World) (hM : FieldB w g PP) :
    Calls Tryd.prog 62 #[.agg #[.pointer (some ⟨g, 0, none⟩)], .agg #[.int .u64 (limb (a) 0 : Nat), .int .u64 (limb (a) 1 : Nat), .int .u64 (limb (a) 2 : Nat), .int .u64 (limb (a) 3 : Nat)], .agg #[.int .u64 (limb (b) 0 : Nat), .int .u64 (limb (b) 1 : Nat), .int .u64 (limb (b) 2 : Nat), .int .u64 (limb (b) 3 : Nat)]] w fun e w' => e = .returned (.agg #[.int .u64 (limb (mM a b) 0 : Nat), .int .u64 (limb (mM a b) 1 : Nat), .int .u64 (limb (mM a b) 2 : Nat), .int .u64 (limb (mM a b) 3 : Nat)]) ∧ Below w.heap.size w w' := by
  have k := fun w h => fmul_in g PP a b FM_P ha hb w h
  obtain ⟨r, hr⟩ : ∃ r, r = mM a b := ⟨_, rfl⟩
  have k1 : ∀ w, FieldB w g PP → Calls Tryd.prog 15 #[.pointer (some ⟨g, 0, none⟩), .agg #[.int .u64 (limb (a) 0 : Nat), .int .u64 (limb (a) 1 : Nat), .int .u64 (limb (a) 2 : Nat), .int .u64 (limb (a) 3 : Nat)], .agg #[.int .u64 (limb (b) 0 : Nat), .int .u64 (limb (b) 1 : Nat), .int .u64 (limb (b) 2 : Nat), .int .u64 (limb (b) 3 : Nat)]] w fun e w' => e = .returned (.tuple #[.agg #[.int .u64 (limb (r) 0 : Nat), .int .u64 (limb (r) 1 : Nat), .int .u64 (limb (r) 2 : Nat), .int .u64 (limb (r) 3 : Nat)], .int .i64 0]) ∧ Below w.heap.size w w' := by rw [hr]; exact k
  rw [← hr]
  have K1 : Hid _ := k1
  have HM : Hid (FieldB w g PP) := hM
  clear hM hr k k1 ha hb
  go_enter Tryd.func62, Tryd.ntmps62
  go_wp2_with fail
  refine (K1.out _ (by first | exact HM.out | exact HM.out.alloc | exact HM.out.alloc.alloc | exact HM.out.alloc.alloc.alloc | exact HM.out.alloc.alloc.alloc.alloc)).mono ?_
  rintro e w1 ⟨rfl, hb1⟩
  obtain ⟨⟨p0, p1, p2, p3⟩, ⟨f0, f1, f2, f3⟩, pz⟩ := (Pend.call (Pend.new _ _) hb1).facts
  simp only [World.size_alloc] at p0 p1 p2 p3 f0 f1 f2 f3 pz
  have HB : Hid (Below w.heap.size w w1) := by unfold Hid; ((repeat' (first | with_reducible exact Below.refl _ _ | with_reducible refine Below.setCell ?_ ?_ _ | with_reducible refine below_alloc0 ?_ _ | with_reducible refine below_drewN ?_ _ | with_reducible refine Below.drew ?_ | refine below_call0 ?_ (by assumption))) <;> (first | omega | (simp; done) | (simp; omega)))
  clear hb1
  go_wp2_with fail
  refine bodyPost_ret (v := .agg #[.int .u64 (limb (r) 0 : Nat), .int .u64 (limb (r) 1 : Nat), .int .u64 (limb (r) 2 : Nat), .int .u64 (limb (r) 3 : Nat)]) ?_ rfl ⟨rfl, ?_⟩
  · simp [results, Tryd.results62, go_sem, p0, p1, p2, p3, pz]
  · have HB := HB.out
    ((repeat' (first | with_reducible exact HB | with_reducible exact Below.refl _ _ | exact (And.left (by assumption)) | with_reducible refine Below.setCell ?_ ?_ _ | with_reducible refine below_alloc0 ?_ _ | with_reducible refine below_drewN ?_ _ | with_reducible refine Below.drew ?_ | refine below_call0 ?_ (by assumption))) <;> (first | omega | (simp; done) | (simp; omega)))
set_option maxHeartbeats 1000000 in
theorem pminus_any (g a b : Nat) (ha : a < PP) (hb : b < PP) (w : World) (hM : FieldB w g PP) :
    Calls Tryd.prog 66 #[.agg #[.pointer (some ⟨g, 0, none⟩)], .agg #[.int .u64 (limb (a) 0 : Nat), .int .u64 (limb (a) 1 : Nat), .int .u64 (limb (a) 2 : Nat), .int .u64 (limb (a) 3 : Nat)], .agg #[.int .u64 (limb (b) 0 : Nat), .int .u64 (limb (b) 1 : Nat), .int .u64 (limb (b) 2 : Nat), .int .u64 (limb (b) 3 : Nat)]] w fun e w' => e = .returned (.agg #[.int .u64 (limb (sM a b) 0 : Nat), .int .u64 (limb (sM a b) 1 : Nat), .int .u64 (limb (sM a b) 2 : Nat), .int .u64 (limb (sM a b) 3 : Nat)]) ∧ Below w.heap.size w w' := by
  have k := fun w h => fsub_in g PP a b FM_P ha hb w h
  obtain ⟨r, hr⟩ : ∃ r, r = sM a b := ⟨_, rfl⟩
  have k1 : ∀ w, FieldB w g PP → Calls Tryd.prog 13 #[.pointer (some ⟨g, 0, none⟩), .agg #[.int .u64 (limb (a) 0 : Nat), .int .u64 (limb (a) 1 : Nat), .int .u64 (limb (a) 2 : Nat), .int .u64 (limb (a) 3 : Nat)], .agg #[.int .u64 (limb (b) 0 : Nat), .int .u64 (limb (b) 1 : Nat), .int .u64 (limb (b) 2 : Nat), .int .u64 (limb (b) 3 : Nat)]] w fun e w' => e = .returned (.tuple #[.agg #[.int .u64 (limb (r) 0 : Nat), .int .u64 (limb (r) 1 : Nat), .int .u64 (limb (r) 2 : Nat), .int .u64 (limb (r) 3 : Nat)], .int .i64 0]) ∧ Below w.heap.size w w' := by rw [hr]; exact k
  rw [← hr]
  have K1 : Hid _ := k1
  have HM : Hid (FieldB w g PP) := hM
  clear hM hr k k1 ha hb
  go_enter Tryd.func66, Tryd.ntmps66
  go_wp2_with fail
  refine (K1.out _ (by first | exact HM.out | exact HM.out.alloc | exact HM.out.alloc.alloc | exact HM.out.alloc.alloc.alloc | exact HM.out.alloc.alloc.alloc.alloc)).mono ?_
  rintro e w1 ⟨rfl, hb1⟩
  obtain ⟨⟨p0, p1, p2, p3⟩, ⟨f0, f1, f2, f3⟩, pz⟩ := (Pend.call (Pend.new _ _) hb1).facts
  simp only [World.size_alloc] at p0 p1 p2 p3 f0 f1 f2 f3 pz
  have HB : Hid (Below w.heap.size w w1) := by unfold Hid; ((repeat' (first | with_reducible exact Below.refl _ _ | with_reducible refine Below.setCell ?_ ?_ _ | with_reducible refine below_alloc0 ?_ _ | with_reducible refine below_drewN ?_ _ | with_reducible refine Below.drew ?_ | refine below_call0 ?_ (by assumption))) <;> (first | omega | (simp; done) | (simp; omega)))
  clear hb1
  go_wp2_with fail
  refine bodyPost_ret (v := .agg #[.int .u64 (limb (r) 0 : Nat), .int .u64 (limb (r) 1 : Nat), .int .u64 (limb (r) 2 : Nat), .int .u64 (limb (r) 3 : Nat)]) ?_ rfl ⟨rfl, ?_⟩
  · simp [results, Tryd.results66, go_sem, p0, p1, p2, p3, pz]
  · have HB := HB.out
    ((repeat' (first | with_reducible exact HB | with_reducible exact Below.refl _ _ | exact (And.left (by assumption)) | with_reducible refine Below.setCell ?_ ?_ _ | with_reducible refine below_alloc0 ?_ _ | with_reducible refine below_drewN ?_ _ | with_reducible refine Below.drew ?_ | refine below_call0 ?_ (by assumption))) <;> (first | omega | (simp; done) | (simp; omega)))
end Go.Proofs.YtchphekaonnfeaaDoor

namespace Go.Proofs.YtchphekaonnfeaaDoor
open Go Go.RowKit Go.Lib

/-- The variable of the base field's prime. -/
def GlobP (w : World) : Prop := Num4 w 4 PP ∧ 4 < w.heap.size
theorem GlobP.call {W w1 : World} (h : GlobP W) (hb : Below W.heap.size W w1) : GlobP w1 := ⟨h.1.call hb h.2, Nat.lt_of_lt_of_le h.2 hb.size⟩
theorem GlobP.alloc {W : World} {o : Obj} (h : GlobP W) : GlobP (W.alloc o) := h.call ((Below.refl _ _).alloc (Nat.le_refl _) o)
theorem base_P (w : World) (hG : GlobP w) :
    Calls Tryd.prog 61 #[] w fun e w' => ∃ g, e = .returned (.pointer (some ⟨g, 0, none⟩)) ∧ FieldB w' g PP ∧ Below w.heap.size w w' := by
  obtain ⟨m, hm⟩ : ∃ m, m = PP := ⟨_, rfl⟩
  have k := newField_any PP (by have := FM_P.pos; omega) FM_P.2.1
  obtain ⟨g0, g1, g2, g3⟩ := hG.1.facts
  rw [← hm] at k g0 g1 g2 g3
  rw [← hm]
  have K : Hid _ := k
  clear k hm hG
  go_enter Tryd.func61, Tryd.ntmps61
  go_wp2_with fail
  refine (K.out _).mono ?_
  rintro e w1 ⟨g, rfl, hF, hb1⟩
  go_wp2
  go_ret
  exact ⟨g, rfl, hF, hb1⟩
theorem newPlane_P (w : World) (hG : GlobP w) :
    Calls Tryd.prog 47 #[] w fun e w' => ∃ g, e = .returned (.agg #[.pointer (some ⟨g, 0, none⟩)]) ∧ FieldB w' g PP ∧ Below w.heap.size w w' := by
  have HG : Hid (GlobP w) := hG
  clear hG
  go_enter Tryd.func47, Tryd.ntmps47
  go_wp2_with fail
  refine (base_P _ HG.out.alloc).mono ?_
  rintro e w1 ⟨g, rfl, hF, hb1⟩
  have c0 : w1.cell? ⟨w.heap.size, 0, none⟩ = some (.pointer none) := (hb1.cell (p := ⟨w.heap.size, 0, none⟩) (by simp)).trans (by rw [World.cell?_alloc_new]; rfl)
  have f0 : w1.frozen? ⟨w.heap.size, 0, none⟩ = false := (hb1.frozen (p := ⟨w.heap.size, 0, none⟩) (by simp)).trans (World.frozen?_alloc_new _ _ _ _)
  have HF : Hid (FieldB w1 g PP ∧ Below w.heap.size w w1) := ⟨hF, below_call0 (below_alloc0 (Below.refl _ _) _) hb1⟩
  clear hF hb1
  go_wp2_with fail
  refine bodyPost_ret (v := .agg #[.pointer (some ⟨g, 0, none⟩)]) ?_ rfl ⟨g, rfl, ?_, ?_⟩
  · simp [results, Tryd.results47, go_sem, c0]
  · have hne : g ≠ w.heap.size := fun c => by
      have h := HF.out.1.1 0 (by omega)
      rw [c, c0] at h
      cases h
    exact HF.out.1.set (fun c => hne c.symm)
  · exact Below.setCell HF.out.2 (Nat.le_refl _) _
def pTm (g x y z : Nat) : Prop := ∀ w, FieldB w g PP → Calls Tryd.prog 62 #[.agg #[.pointer (some ⟨g, 0, none⟩)], .agg #[.int .u64 (limb (x) 0 : Nat), .int .u64 (limb (x) 1 : Nat), .int .u64 (limb (x) 2 : Nat), .int .u64 (limb (x) 3 : Nat)], .agg #[.int .u64 (limb (y) 0 : Nat), .int .u64 (limb (y) 1 : Nat), .int .u64 (limb (y) 2 : Nat), .int .u64 (limb (y) 3 : Nat)]] w fun e w' => e = .returned (.agg #[.int .u64 (limb (z) 0 : Nat), .int .u64 (limb (z) 1 : Nat), .int .u64 (limb (z) 2 : Nat), .int .u64 (limb (z) 3 : Nat)]) ∧ Below w.heap.size w w'
theorem pTm_of {g x y z : Nat} (hx : x < PP) (hy : y < PP) (h : z = mM x y) : pTm g x y z := fun w hw => by rw [h]; exact ptimes_any g x y hx hy w hw
def pPl (g x y z : Nat) : Prop := ∀ w, FieldB w g PP → Calls Tryd.prog 67 #[.agg #[.pointer (some ⟨g, 0, none⟩)], .agg #[.int .u64 (limb (x) 0 : Nat), .int .u64 (limb (x) 1 : Nat), .int .u64 (limb (x) 2 : Nat), .int .u64 (limb (x) 3 : Nat)], .agg #[.int .u64 (limb (y) 0 : Nat), .int .u64 (limb (y) 1 : Nat), .int .u64 (limb (y) 2 : Nat), .int .u64 (limb (y) 3 : Nat)]] w fun e w' => e = .returned (.agg #[.int .u64 (limb (z) 0 : Nat), .int .u64 (limb (z) 1 : Nat), .int .u64 (limb (z) 2 : Nat), .int .u64 (limb (z) 3 : Nat)]) ∧ Below w.heap.size w w'
theorem pPl_of {g x y z : Nat} (hx : x < PP) (hy : y < PP) (h : z = aM x y) : pPl g x y z := fun w hw => by rw [h]; exact pplus_any g x y hx hy w hw
def pMi (g x y z : Nat) : Prop := ∀ w, FieldB w g PP → Calls Tryd.prog 66 #[.agg #[.pointer (some ⟨g, 0, none⟩)], .agg #[.int .u64 (limb (x) 0 : Nat), .int .u64 (limb (x) 1 : Nat), .int .u64 (limb (x) 2 : Nat), .int .u64 (limb (x) 3 : Nat)], .agg #[.int .u64 (limb (y) 0 : Nat), .int .u64 (limb (y) 1 : Nat), .int .u64 (limb (y) 2 : Nat), .int .u64 (limb (y) 3 : Nat)]] w fun e w' => e = .returned (.agg #[.int .u64 (limb (z) 0 : Nat), .int .u64 (limb (z) 1 : Nat), .int .u64 (limb (z) 2 : Nat), .int .u64 (limb (z) 3 : Nat)]) ∧ Below w.heap.size w w'
theorem pMi_of {g x y z : Nat} (hx : x < PP) (hy : y < PP) (h : z = sM x y) : pMi g x y z := fun w hw => by rw [h]; exact pminus_any g x y hx hy w hw
end Go.Proofs.YtchphekaonnfeaaDoor

namespace Go.Proofs.YtchphekaonnfeaaDoor
open Go Go.RowKit Go.Lib

theorem pt_part0 (x0 x1 x2 x3 y0 y1 y2 y3 : Int) (b : Bool) (w : World) : (Go.part 24 #[.int .u64 x0, .int .u64 x1, .int .u64 x2, .int .u64 x3, .int .u64 y0, .int .u64 y1, .int .u64 y2, .int .u64 y3, .bool b] 0).run Tryd.prog w = .ok (.agg #[.int .u64 x0, .int .u64 x1, .int .u64 x2, .int .u64 x3]) w := by kernel_rfl
theorem pt_part1 (x0 x1 x2 x3 y0 y1 y2 y3 : Int) (b : Bool) (w : World) : (Go.part 24 #[.int .u64 x0, .int .u64 x1, .int .u64 x2, .int .u64 x3, .int .u64 y0, .int .u64 y1, .int .u64 y2, .int .u64 y3, .bool b] 4).run Tryd.prog w = .ok (.agg #[.int .u64 y0, .int .u64 y1, .int .u64 y2, .int .u64 y3]) w := by kernel_rfl
theorem pt_part2 (x0 x1 x2 x3 y0 y1 y2 y3 : Int) (b : Bool) (w : World) : (Go.part 4 #[.int .u64 x0, .int .u64 x1, .int .u64 x2, .int .u64 x3, .int .u64 y0, .int .u64 y1, .int .u64 y2, .int .u64 y3, .bool b] 8).run Tryd.prog w = .ok (.bool b) w := by kernel_rfl
theorem pt_fields : Tryd.prog.underlying 28 = some (.struct (Tryd.prog.fieldsOf 28)) := by kernel_rfl
theorem pt_list : ((Tryd.prog.fieldsOf 28).toList.map fun f => (f.name, f.type, f.offset)) = [("X", 24, 0), ("Y", 24, 4), ("Inf", 4, 8)] := by kernel_rfl
theorem eqFields_cons (d : Nat) (xs ys : Array Value) (f : Field) (fs : List Field) (hn : f.name ≠ "_") (w : World) (a b : Value) (r : Bool) (ha : (Go.part f.type xs f.offset).run Tryd.prog w = .ok a w) (hb : (Go.part f.type ys f.offset).run Tryd.prog w = .ok b w) (hr : (Op.equalIn d f.type a b).run Tryd.prog w = .ok r w) :
    (Op.eqFields d xs ys (f :: fs)).run Tryd.prog w = if r then (Op.eqFields d xs ys fs).run Tryd.prog w else .ok false w := by
  simp only [Op.eqFields, if_pos hn, Sem.run_bind, ha, hb, hr, Result.andThen_ok]
  cases r <;> simp
theorem run_eqP (x0 x1 x2 x3 y0 y1 y2 y3 u0 u1 u2 u3 v0 v1 v2 v3 : Int) (b c : Bool) (w : World) : (Op.equalIn 10000 28 (.agg #[.int .u64 x0, .int .u64 x1, .int .u64 x2, .int .u64 x3, .int .u64 y0, .int .u64 y1, .int .u64 y2, .int .u64 y3, .bool b]) (.agg #[.int .u64 u0, .int .u64 u1, .int .u64 u2, .int .u64 u3, .int .u64 v0, .int .u64 v1, .int .u64 v2, .int .u64 v3, .bool c])).run Tryd.prog w = .ok (eq4 x0 x1 x2 x3 u0 u1 u2 u3 && (eq4 y0 y1 y2 y3 v0 v1 v2 v3 && (b == c))) w := by
  rw [show (10000 : Nat) = 9999 + 1 from rfl, run_equalIn_agg w 9999 28 _ _ pt_fields (by kernel_rfl)]
  have hl := pt_list
  generalize (Tryd.prog.fieldsOf 28).toList = fl at hl ⊢
  rcases fl with _ | ⟨f0, _ | ⟨f1, _ | ⟨f2, _ | ⟨f3, fl⟩⟩⟩⟩
  · simp at hl
  · simp at hl
  · simp at hl
  · simp only [List.map_cons, List.map_nil, List.cons.injEq, Prod.mk.injEq, and_true] at hl
    obtain ⟨⟨n0, t0, o0⟩, ⟨n1, t1, o1⟩, ⟨n2, t2, o2⟩⟩ := hl
    rw [eqFields_cons 9999 _ _ f0 _ (by rw [n0]; decide) w _ _ _ (by rw [t0, o0]; exact pt_part0 _ _ _ _ _ _ _ _ _ _) (by rw [t0, o0]; exact pt_part0 _ _ _ _ _ _ _ _ _ _) (by rw [t0]; exact run_eq4' 9997 _ _ _ _ _ _ _ _ w)]
    rw [eqFields_cons 9999 _ _ f1 _ (by rw [n1]; decide) w _ _ _ (by rw [t1, o1]; exact pt_part1 _ _ _ _ _ _ _ _ _ _) (by rw [t1, o1]; exact pt_part1 _ _ _ _ _ _ _ _ _ _) (by rw [t1]; exact run_eq4' 9997 _ _ _ _ _ _ _ _ w)]
    rw [eqFields_cons 9999 _ _ f2 _ (by rw [n2]; decide) w _ _ _ (by rw [t2, o2]; exact pt_part2 _ _ _ _ _ _ _ _ _ _) (by rw [t2, o2]; exact pt_part2 _ _ _ _ _ _ _ _ _ _) (by rw [t2]; exact run_equalIn_bool' w 9998 4 _ _ Tryd.underlying4)]
    generalize eq4 x0 x1 x2 x3 u0 u1 u2 u3 = p
    generalize eq4 y0 y1 y2 y3 v0 v1 v2 v3 = q
    cases p <;> cases q <;> cases (b == c) <;> simp [Op.eqFields]
  · simp at hl
/-- A point's nine cells behind an address. -/
structure PointB (w : World) (b o x y : Nat) (i : Bool) : Prop where
  lt : b < w.heap.size
  x0 : w.cell? ⟨b, o, none⟩ = some (.int .u64 (limb x 0 : Nat))
  x1 : w.cell? ⟨b, o + 1, none⟩ = some (.int .u64 (limb x 1 : Nat))
  x2 : w.cell? ⟨b, o + 2, none⟩ = some (.int .u64 (limb x 2 : Nat))
  x3 : w.cell? ⟨b, o + 3, none⟩ = some (.int .u64 (limb x 3 : Nat))
  y0 : w.cell? ⟨b, o + 4, none⟩ = some (.int .u64 (limb y 0 : Nat))
  y1 : w.cell? ⟨b, o + 5, none⟩ = some (.int .u64 (limb y 1 : Nat))
  y2 : w.cell? ⟨b, o + 6, none⟩ = some (.int .u64 (limb y 2 : Nat))
  y3 : w.cell? ⟨b, o + 7, none⟩ = some (.int .u64 (limb y 3 : Nat))
  i8 : w.cell? ⟨b, o + 8, none⟩ = some (.bool i)
theorem PointB.call {w w' : World} {b o x y : Nat} {i : Bool} (h : PointB w b o x y i) (hb : Below w.heap.size w w') : PointB w' b o x y i :=
  ⟨Nat.lt_of_lt_of_le h.lt hb.size, (hb.cell (p := ⟨b, o, none⟩) h.lt).trans h.x0, (hb.cell (p := ⟨b, o + 1, none⟩) h.lt).trans h.x1, (hb.cell (p := ⟨b, o + 2, none⟩) h.lt).trans h.x2, (hb.cell (p := ⟨b, o + 3, none⟩) h.lt).trans h.x3, (hb.cell (p := ⟨b, o + 4, none⟩) h.lt).trans h.y0, (hb.cell (p := ⟨b, o + 5, none⟩) h.lt).trans h.y1, (hb.cell (p := ⟨b, o + 6, none⟩) h.lt).trans h.y2, (hb.cell (p := ⟨b, o + 7, none⟩) h.lt).trans h.y3, (hb.cell (p := ⟨b, o + 8, none⟩) h.lt).trans h.i8⟩
theorem PointB.alloc {w : World} {b o x y : Nat} {i : Bool} {ob : Obj} (h : PointB w b o x y i) : PointB (w.alloc ob) b o x y i := h.call (below_alloc0 (Below.refl _ _) _)
theorem PointB.drew {w : World} {b o x y : Nat} {i : Bool} (h : PointB w b o x y i) : PointB w.drew b o x y i := h.call (Below.drew (Below.refl _ _))
/-- A spot's thirteen cells in block s. -/
structure SpotB (w : World) (s g x y z : Nat) : Prop where
  lt : s < w.heap.size
  g0 : w.cell? ⟨s, 0, none⟩ = some (.pointer (some ⟨g, 0, none⟩))
  x0 : w.cell? ⟨s, 1, none⟩ = some (.int .u64 (limb x 0 : Nat))
  x1 : w.cell? ⟨s, 2, none⟩ = some (.int .u64 (limb x 1 : Nat))
  x2 : w.cell? ⟨s, 3, none⟩ = some (.int .u64 (limb x 2 : Nat))
  x3 : w.cell? ⟨s, 4, none⟩ = some (.int .u64 (limb x 3 : Nat))
  y0 : w.cell? ⟨s, 5, none⟩ = some (.int .u64 (limb y 0 : Nat))
  y1 : w.cell? ⟨s, 6, none⟩ = some (.int .u64 (limb y 1 : Nat))
  y2 : w.cell? ⟨s, 7, none⟩ = some (.int .u64 (limb y 2 : Nat))
  y3 : w.cell? ⟨s, 8, none⟩ = some (.int .u64 (limb y 3 : Nat))
  z0 : w.cell? ⟨s, 9, none⟩ = some (.int .u64 (limb z 0 : Nat))
  z1 : w.cell? ⟨s, 10, none⟩ = some (.int .u64 (limb z 1 : Nat))
  z2 : w.cell? ⟨s, 11, none⟩ = some (.int .u64 (limb z 2 : Nat))
  z3 : w.cell? ⟨s, 12, none⟩ = some (.int .u64 (limb z 3 : Nat))
  fz : ∀ o, w.frozen? ⟨s, o, none⟩ = false
theorem SpotB.call {w w' : World} {s g x y z : Nat} (h : SpotB w s g x y z) (hb : Below w.heap.size w w') : SpotB w' s g x y z :=
  ⟨Nat.lt_of_lt_of_le h.lt hb.size, (hb.cell (p := ⟨s, 0, none⟩) h.lt).trans h.g0, (hb.cell (p := ⟨s, 1, none⟩) h.lt).trans h.x0, (hb.cell (p := ⟨s, 2, none⟩) h.lt).trans h.x1, (hb.cell (p := ⟨s, 3, none⟩) h.lt).trans h.x2, (hb.cell (p := ⟨s, 4, none⟩) h.lt).trans h.x3, (hb.cell (p := ⟨s, 5, none⟩) h.lt).trans h.y0, (hb.cell (p := ⟨s, 6, none⟩) h.lt).trans h.y1, (hb.cell (p := ⟨s, 7, none⟩) h.lt).trans h.y2, (hb.cell (p := ⟨s, 8, none⟩) h.lt).trans h.y3, (hb.cell (p := ⟨s, 9, none⟩) h.lt).trans h.z0, (hb.cell (p := ⟨s, 10, none⟩) h.lt).trans h.z1, (hb.cell (p := ⟨s, 11, none⟩) h.lt).trans h.z2, (hb.cell (p := ⟨s, 12, none⟩) h.lt).trans h.z3, fun o => (hb.frozen (p := ⟨s, o, none⟩) h.lt).trans (h.fz o)⟩
theorem SpotB.alloc {w : World} {s g x y z : Nat} {ob : Obj} (h : SpotB w s g x y z) : SpotB (w.alloc ob) s g x y z := h.call (below_alloc0 (Below.refl _ _) _)
theorem SpotB.drew {w : World} {s g x y z : Nat} (h : SpotB w s g x y z) : SpotB w.drew s g x y z := h.call (Below.drew (Below.refl _ _))
theorem cell_offS {w : World} {g o p : Nat} {v : Value} (h : o ≠ p) : (w.setCell ⟨g, p, none⟩ v).cell? ⟨g, o, none⟩ = w.cell? ⟨g, o, none⟩ := World.cell?_setCell_other _ _ _ _ (by intro k; injection k with _ k2 _; exact h k2.symm)
theorem SpotB.setx {w : World} {s g x y z v : Nat} (h : SpotB w s g x y z) : SpotB ((((w.setCell ⟨s, 1, none⟩ (.int .u64 (limb v 0 : Nat))).setCell ⟨s, 2, none⟩ (.int .u64 (limb v 1 : Nat))).setCell ⟨s, 3, none⟩ (.int .u64 (limb v 2 : Nat))).setCell ⟨s, 4, none⟩ (.int .u64 (limb v 3 : Nat))) s g v y z :=
  ⟨by simp only [World.size_setCell]; exact h.lt, ((cell_offS (by decide)).trans ((cell_offS (by decide)).trans ((cell_offS (by decide)).trans ((cell_offS (by decide)).trans h.g0)))), ((cell_offS (by decide)).trans ((cell_offS (by decide)).trans ((cell_offS (by decide)).trans (World.cell?_setCell_same _ _ _ h.x0)))), ((cell_offS (by decide)).trans ((cell_offS (by decide)).trans (World.cell?_setCell_same _ _ _ ((cell_offS (by decide)).trans h.x1)))), ((cell_offS (by decide)).trans (World.cell?_setCell_same _ _ _ ((cell_offS (by decide)).trans ((cell_offS (by decide)).trans h.x2)))), (World.cell?_setCell_same _ _ _ ((cell_offS (by decide)).trans ((cell_offS (by decide)).trans ((cell_offS (by decide)).trans h.x3)))), ((cell_offS (by decide)).trans ((cell_offS (by decide)).trans ((cell_offS (by decide)).trans ((cell_offS (by decide)).trans h.y0)))), ((cell_offS (by decide)).trans ((cell_offS (by decide)).trans ((cell_offS (by decide)).trans ((cell_offS (by decide)).trans h.y1)))), ((cell_offS (by decide)).trans ((cell_offS (by decide)).trans ((cell_offS (by decide)).trans ((cell_offS (by decide)).trans h.y2)))), ((cell_offS (by decide)).trans ((cell_offS (by decide)).trans ((cell_offS (by decide)).trans ((cell_offS (by decide)).trans h.y3)))), ((cell_offS (by decide)).trans ((cell_offS (by decide)).trans ((cell_offS (by decide)).trans ((cell_offS (by decide)).trans h.z0)))), ((cell_offS (by decide)).trans ((cell_offS (by decide)).trans ((cell_offS (by decide)).trans ((cell_offS (by decide)).trans h.z1)))), ((cell_offS (by decide)).trans ((cell_offS (by decide)).trans ((cell_offS (by decide)).trans ((cell_offS (by decide)).trans h.z2)))), ((cell_offS (by decide)).trans ((cell_offS (by decide)).trans ((cell_offS (by decide)).trans ((cell_offS (by decide)).trans h.z3)))), fun o => by simp only [World.frozen?_setCell]; exact h.fz o⟩
theorem SpotB.sety {w : World} {s g x y z v : Nat} (h : SpotB w s g x y z) : SpotB ((((w.setCell ⟨s, 5, none⟩ (.int .u64 (limb v 0 : Nat))).setCell ⟨s, 6, none⟩ (.int .u64 (limb v 1 : Nat))).setCell ⟨s, 7, none⟩ (.int .u64 (limb v 2 : Nat))).setCell ⟨s, 8, none⟩ (.int .u64 (limb v 3 : Nat))) s g x v z :=
  ⟨by simp only [World.size_setCell]; exact h.lt, ((cell_offS (by decide)).trans ((cell_offS (by decide)).trans ((cell_offS (by decide)).trans ((cell_offS (by decide)).trans h.g0)))), ((cell_offS (by decide)).trans ((cell_offS (by decide)).trans ((cell_offS (by decide)).trans ((cell_offS (by decide)).trans h.x0)))), ((cell_offS (by decide)).trans ((cell_offS (by decide)).trans ((cell_offS (by decide)).trans ((cell_offS (by decide)).trans h.x1)))), ((cell_offS (by decide)).trans ((cell_offS (by decide)).trans ((cell_offS (by decide)).trans ((cell_offS (by decide)).trans h.x2)))), ((cell_offS (by decide)).trans ((cell_offS (by decide)).trans ((cell_offS (by decide)).trans ((cell_offS (by decide)).trans h.x3)))), ((cell_offS (by decide)).trans ((cell_offS (by decide)).trans ((cell_offS (by decide)).trans (World.cell?_setCell_same _ _ _ h.y0)))), ((cell_offS (by decide)).trans ((cell_offS (by decide)).trans (World.cell?_setCell_same _ _ _ ((cell_offS (by decide)).trans h.y1)))), ((cell_offS (by decide)).trans (World.cell?_setCell_same _ _ _ ((cell_offS (by decide)).trans ((cell_offS (by decide)).trans h.y2)))), (World.cell?_setCell_same _ _ _ ((cell_offS (by decide)).trans ((cell_offS (by decide)).trans ((cell_offS (by decide)).trans h.y3)))), ((cell_offS (by decide)).trans ((cell_offS (by decide)).trans ((cell_offS (by decide)).trans ((cell_offS (by decide)).trans h.z0)))), ((cell_offS (by decide)).trans ((cell_offS (by decide)).trans ((cell_offS (by decide)).trans ((cell_offS (by decide)).trans h.z1)))), ((cell_offS (by decide)).trans ((cell_offS (by decide)).trans ((cell_offS (by decide)).trans ((cell_offS (by decide)).trans h.z2)))), ((cell_offS (by decide)).trans ((cell_offS (by decide)).trans ((cell_offS (by decide)).trans ((cell_offS (by decide)).trans h.z3)))), fun o => by simp only [World.frozen?_setCell]; exact h.fz o⟩
theorem SpotB.setz {w : World} {s g x y z v : Nat} (h : SpotB w s g x y z) : SpotB ((((w.setCell ⟨s, 9, none⟩ (.int .u64 (limb v 0 : Nat))).setCell ⟨s, 10, none⟩ (.int .u64 (limb v 1 : Nat))).setCell ⟨s, 11, none⟩ (.int .u64 (limb v 2 : Nat))).setCell ⟨s, 12, none⟩ (.int .u64 (limb v 3 : Nat))) s g x y v :=
  ⟨by simp only [World.size_setCell]; exact h.lt, ((cell_offS (by decide)).trans ((cell_offS (by decide)).trans ((cell_offS (by decide)).trans ((cell_offS (by decide)).trans h.g0)))), ((cell_offS (by decide)).trans ((cell_offS (by decide)).trans ((cell_offS (by decide)).trans ((cell_offS (by decide)).trans h.x0)))), ((cell_offS (by decide)).trans ((cell_offS (by decide)).trans ((cell_offS (by decide)).trans ((cell_offS (by decide)).trans h.x1)))), ((cell_offS (by decide)).trans ((cell_offS (by decide)).trans ((cell_offS (by decide)).trans ((cell_offS (by decide)).trans h.x2)))), ((cell_offS (by decide)).trans ((cell_offS (by decide)).trans ((cell_offS (by decide)).trans ((cell_offS (by decide)).trans h.x3)))), ((cell_offS (by decide)).trans ((cell_offS (by decide)).trans ((cell_offS (by decide)).trans ((cell_offS (by decide)).trans h.y0)))), ((cell_offS (by decide)).trans ((cell_offS (by decide)).trans ((cell_offS (by decide)).trans ((cell_offS (by decide)).trans h.y1)))), ((cell_offS (by decide)).trans ((cell_offS (by decide)).trans ((cell_offS (by decide)).trans ((cell_offS (by decide)).trans h.y2)))), ((cell_offS (by decide)).trans ((cell_offS (by decide)).trans ((cell_offS (by decide)).trans ((cell_offS (by decide)).trans h.y3)))), ((cell_offS (by decide)).trans ((cell_offS (by decide)).trans ((cell_offS (by decide)).trans (World.cell?_setCell_same _ _ _ h.z0)))), ((cell_offS (by decide)).trans ((cell_offS (by decide)).trans (World.cell?_setCell_same _ _ _ ((cell_offS (by decide)).trans h.z1)))), ((cell_offS (by decide)).trans (World.cell?_setCell_same _ _ _ ((cell_offS (by decide)).trans ((cell_offS (by decide)).trans h.z2)))), (World.cell?_setCell_same _ _ _ ((cell_offS (by decide)).trans ((cell_offS (by decide)).trans ((cell_offS (by decide)).trans h.z3)))), fun o => by simp only [World.frozen?_setCell]; exact h.fz o⟩
theorem below_put4 {B s b : Nat} {a w : World} {v : Nat} (h : Below B a w) (hs : B ≤ s) : Below B a ((((w.setCell ⟨s, b, none⟩ (.int .u64 (limb v 0 : Nat))).setCell ⟨s, b + 1, none⟩ (.int .u64 (limb v 1 : Nat))).setCell ⟨s, b + 2, none⟩ (.int .u64 (limb v 2 : Nat))).setCell ⟨s, b + 3, none⟩ (.int .u64 (limb v 3 : Nat))) :=
  (((h.setCell (p := ⟨s, b, none⟩) hs _).setCell (p := ⟨s, b + 1, none⟩) hs _).setCell (p := ⟨s, b + 2, none⟩) hs _).setCell (p := ⟨s, b + 3, none⟩) hs _
end Go.Proofs.YtchphekaonnfeaaDoor

namespace Go.Proofs.YtchphekaonnfeaaDoor
open Go Go.RowKit Go.Lib

/-- A plane's cell in block b. -/
def PlB (w : World) (b g : Nat) : Prop := w.cell? ⟨b, 0, none⟩ = some (.pointer (some ⟨g, 0, none⟩)) ∧ b < w.heap.size
theorem PlB.call {w w' : World} {b g : Nat} (h : PlB w b g) (hb : Below w.heap.size w w') : PlB w' b g := ⟨(hb.cell (p := ⟨b, 0, none⟩) h.2).trans h.1, Nat.lt_of_lt_of_le h.2 hb.size⟩
theorem PlB.alloc {w : World} {b g : Nat} {ob : Obj} (h : PlB w b g) : PlB (w.alloc ob) b g := h.call (below_alloc0 (Below.refl _ _) _)
theorem PlB.new (w : World) (g : Nat) (t : TypeId) : PlB (w.alloc (.cells #[.pointer (some ⟨g, 0, none⟩)] t)) w.heap.size g := ⟨by rw [World.cell?_alloc_new]; rfl, by simp⟩
/-- What the square of Y is on the curve. -/
def sqM (x : Nat) : Nat := aM (mM (mM x x) x) 7
theorem sqM_lt (x : Nat) : sqM x < PP := aM_lt _ _
theorem lit7 : (limb 7 0 : Int) = 7 ∧ (limb 7 1 : Int) = 0 ∧ (limb 7 2 : Int) = 0 ∧ (limb 7 3 : Int) = 0 := ⟨by kernel_rfl, by kernel_rfl, by kernel_rfl, by kernel_rfl⟩
theorem lit0 : (limb 0 0 : Int) = 0 ∧ (limb 0 1 : Int) = 0 ∧ (limb 0 2 : Int) = 0 ∧ (limb 0 3 : Int) = 0 := ⟨by kernel_rfl, by kernel_rfl, by kernel_rfl, by kernel_rfl⟩
theorem lit1 : (limb 1 0 : Int) = 1 ∧ (limb 1 1 : Int) = 0 ∧ (limb 1 2 : Int) = 0 ∧ (limb 1 3 : Int) = 0 := ⟨by kernel_rfl, by kernel_rfl, by kernel_rfl, by kernel_rfl⟩
theorem lt7 : 7 < PP := of_decide_eq_true (by kernel_rfl)

set_option maxRecDepth 100000 in
set_option maxHeartbeats 2000000 in
theorem psquare_any (g x : Nat) (hx : x < PP) (w : World) (hM : FieldB w g PP) :
    Calls Tryd.prog 63 #[.agg #[.pointer (some ⟨g, 0, none⟩)], .agg #[.int .u64 (limb (x) 0 : Nat), .int .u64 (limb (x) 1 : Nat), .int .u64 (limb (x) 2 : Nat), .int .u64 (limb (x) 3 : Nat)]] w fun e w' => e = .returned (.agg #[.int .u64 (limb (sqM x) 0 : Nat), .int .u64 (limb (sqM x) 1 : Nat), .int .u64 (limb (sqM x) 2 : Nat), .int .u64 (limb (sqM x) 3 : Nat)]) ∧ Below w.heap.size w w' := by
  obtain ⟨a, ea⟩ : ∃ a, a = mM x x := ⟨_, rfl⟩
  obtain ⟨b, eb⟩ : ∃ b, b = mM a x := ⟨_, rfl⟩
  obtain ⟨c, ec⟩ : ∃ c, c = sqM x := ⟨_, rfl⟩
  have la : a < PP := by rw [ea]; exact mM_lt _ _
  have lb : b < PP := by rw [eb]; exact mM_lt _ _
  have K1 : Hid (∀ w, FieldB w g PP → Calls Tryd.prog 62 #[.agg #[.pointer (some ⟨g, 0, none⟩)], .agg #[.int .u64 (limb (x) 0 : Nat), .int .u64 (limb (x) 1 : Nat), .int .u64 (limb (x) 2 : Nat), .int .u64 (limb (x) 3 : Nat)], .agg #[.int .u64 (limb (x) 0 : Nat), .int .u64 (limb (x) 1 : Nat), .int .u64 (limb (x) 2 : Nat), .int .u64 (limb (x) 3 : Nat)]] w fun e w' => e = .returned (.agg #[.int .u64 (limb (a) 0 : Nat), .int .u64 (limb (a) 1 : Nat), .int .u64 (limb (a) 2 : Nat), .int .u64 (limb (a) 3 : Nat)]) ∧ Below w.heap.size w w') := fun w h => by have k := ptimes_any g x x hx hx w h; rw [← ea] at k; exact k
  have K2 : Hid (∀ w, FieldB w g PP → Calls Tryd.prog 62 #[.agg #[.pointer (some ⟨g, 0, none⟩)], .agg #[.int .u64 (limb (a) 0 : Nat), .int .u64 (limb (a) 1 : Nat), .int .u64 (limb (a) 2 : Nat), .int .u64 (limb (a) 3 : Nat)], .agg #[.int .u64 (limb (x) 0 : Nat), .int .u64 (limb (x) 1 : Nat), .int .u64 (limb (x) 2 : Nat), .int .u64 (limb (x) 3 : Nat)]] w fun e w' => e = .returned (.agg #[.int .u64 (limb (b) 0 : Nat), .int .u64 (limb (b) 1 : Nat), .int .u64 (limb (b) 2 : Nat), .int .u64 (limb (b) 3 : Nat)]) ∧ Below w.heap.size w w') := fun w h => by have k := ptimes_any g a x la hx w h; rw [← eb] at k; exact k
  have K3 : Hid (∀ w, FieldB w g PP → Calls Tryd.prog 67 #[.agg #[.pointer (some ⟨g, 0, none⟩)], .agg #[.int .u64 (limb (b) 0 : Nat), .int .u64 (limb (b) 1 : Nat), .int .u64 (limb (b) 2 : Nat), .int .u64 (limb (b) 3 : Nat)], .agg #[.int .u64 7, .int .u64 0, .int .u64 0, .int .u64 0]] w fun e w' => e = .returned (.agg #[.int .u64 (limb (c) 0 : Nat), .int .u64 (limb (c) 1 : Nat), .int .u64 (limb (c) 2 : Nat), .int .u64 (limb (c) 3 : Nat)]) ∧ Below w.heap.size w w') := fun w h => by
    have k := pplus_any g b 7 lb lt7 w h
    rw [lit7.1, lit7.2.1, lit7.2.2.1, lit7.2.2.2, show aM b 7 = c by rw [ec, eb, ea]; rfl] at k
    exact k
  rw [← ec]
  have HM : Hid (FieldB w g PP) := hM
  clear hM ea eb ec la lb hx
  go_enter Tryd.func63, Tryd.ntmps63
  go_wp2_with fail
  obtain ⟨w0, hw0⟩ : ∃ z, z = ((w.alloc (.cells #[.pointer (some ⟨g, 0, none⟩)] 91)).alloc (.cells #[.int .u64 (limb (x) 0 : Nat), .int .u64 (limb (x) 1 : Nat), .int .u64 (limb (x) 2 : Nat), .int .u64 (limb (x) 3 : Nat)] 24)).alloc (.cells #[.int .u64 0, .int .u64 0, .int .u64 0, .int .u64 0] 24) := ⟨_, rfl⟩
  rw [← hw0]
  have H0 : Hid (FieldB w0 g PP ∧ PlB w0 w.heap.size g ∧ Own4 w0 (w.heap.size + 1) x ∧ Pend w0 (w.heap.size + 1 + 1) ∧ Below w.heap.size w w0) := by
    rw [hw0]
    refine ⟨HM.out.alloc.alloc.alloc, (PlB.new _ _ _).alloc.alloc, (Own4.new' (by simp)).alloc, ?_, below_alloc0 (below_alloc0 (below_alloc0 (Below.refl _ _) _) _) _⟩
    have := Pend.new ((w.alloc (.cells #[.pointer (some ⟨g, 0, none⟩)] 91)).alloc (.cells #[.int .u64 (limb (x) 0 : Nat), .int .u64 (limb (x) 1 : Nat), .int .u64 (limb (x) 2 : Nat), .int .u64 (limb (x) 3 : Nat)] 24)) 24
    simpa only [World.size_alloc] using this
  clear hw0 HM
  refine wp_region_N (fun w' => Below w0.heap.size w0 w') 10 11 rfl (by kernel_rfl) ?_
  refine wpAnyN_take (i := 0) (oi := ?o0) (v := ?v0) ?hi0 (by kernel_rfl) (by kernel_rfl) (by kernel_rfl) (by kernel_rfl) (by decide) (by kernel_rfl) ?hQ0 ?hy0 (Below.drew (Below.refl _ _)) ?more0
  case hi0 => rw [List.getElem?_toArray]; exact rfl
  case hQ0 => exact fun _ _ _ h => h
  case hy0 =>
    refine Or.inl ⟨by rfl, ?_⟩
    intro w' hSw
    obtain ⟨q0, qz⟩ := H0.out.2.1.call hSw
    obtain ⟨⟨x0, x1, x2, x3⟩, -, xz⟩ := (Own4.call H0.out.2.2.1 hSw).facts
    clear hSw
    go_simp
    try with_reducible rfl
  simp only [Act.put, List.setIfInBounds_toArray, List.set_cons_zero, List.set_cons_succ]
  refine wpAnyN_take (i := 1) (oi := ?o1) (v := ?v1) ?hi1 (by kernel_rfl) (by kernel_rfl) (by kernel_rfl) (by kernel_rfl) (by decide) (by kernel_rfl) ?hQ1 ?hy1 (Below.drew (Below.refl _ _)) ?more1
  case hi1 => rw [List.getElem?_toArray]; exact rfl
  case hQ1 => exact fun _ _ _ h => h
  case hy1 =>
    refine Or.inl ⟨by rfl, ?_⟩
    intro w' hSw
    obtain ⟨q0, qz⟩ := H0.out.2.1.call hSw
    obtain ⟨⟨x0, x1, x2, x3⟩, -, xz⟩ := (Own4.call H0.out.2.2.1 hSw).facts
    clear hSw
    go_simp
    try with_reducible rfl
  simp only [Act.put, List.setIfInBounds_toArray, List.set_cons_zero, List.set_cons_succ]
  refine wpAnyN_take (i := 2) (oi := ?o2) (v := ?v2) ?hi2 (by kernel_rfl) (by kernel_rfl) (by kernel_rfl) (by kernel_rfl) (by decide) (by kernel_rfl) ?hQ2 ?hy2 (Below.drew (Below.refl _ _)) ?more2
  case hi2 => rw [List.getElem?_toArray]; exact rfl
  case hQ2 => exact fun _ _ _ h => h
  case hy2 =>
    refine Or.inl ⟨by rfl, ?_⟩
    intro w' hSw
    obtain ⟨q0, qz⟩ := H0.out.2.1.call hSw
    obtain ⟨⟨x0, x1, x2, x3⟩, -, xz⟩ := (Own4.call H0.out.2.2.1 hSw).facts
    clear hSw
    go_simp
    try with_reducible rfl
  simp only [Act.put, List.setIfInBounds_toArray, List.set_cons_zero, List.set_cons_succ]
  refine wpAnyN_take (i := 3) (oi := ?o3) (v := ?v3) ?hi3 (by kernel_rfl) (by kernel_rfl) (by kernel_rfl) (by kernel_rfl) (by decide) (by kernel_rfl) ?hQ3 ?hy3 (Below.drew (Below.refl _ _)) ?more3
  case hi3 => rw [List.getElem?_toArray]; exact rfl
  case hQ3 => exact fun _ _ _ h => h
  case hy3 =>
    refine Or.inl ⟨by rfl, ?_⟩
    intro w' hSw
    obtain ⟨q0, qz⟩ := H0.out.2.1.call hSw
    obtain ⟨⟨x0, x1, x2, x3⟩, -, xz⟩ := (Own4.call H0.out.2.2.1 hSw).facts
    clear hSw
    go_simp
    try with_reducible rfl
  simp only [Act.put, List.setIfInBounds_toArray, List.set_cons_zero, List.set_cons_succ]
  refine wpAnyN_take (i := 4) (oi := ?o4) (v := ?v4) ?hi4 (by kernel_rfl) (by kernel_rfl) (by kernel_rfl) (by kernel_rfl) (by decide) (by kernel_rfl) ?hQ4 ?hy4 (Below.drew (Below.refl _ _)) ?more4
  case hi4 => rw [List.getElem?_toArray]; exact rfl
  case hQ4 => exact fun _ _ _ h => h
  case hy4 =>
    refine Or.inl ⟨by rfl, ?_⟩
    intro w' hSw
    obtain ⟨q0, qz⟩ := H0.out.2.1.call hSw
    obtain ⟨⟨x0, x1, x2, x3⟩, -, xz⟩ := (Own4.call H0.out.2.2.1 hSw).facts
    clear hSw
    go_simp
    try with_reducible rfl
  simp only [Act.put, List.setIfInBounds_toArray, List.set_cons_zero, List.set_cons_succ]
  refine wpAnyN_take (i := 6) (oi := ?o6) (v := ?v6) ?hi6 (by kernel_rfl) (by kernel_rfl) (by kernel_rfl) (by kernel_rfl) (by decide) (by kernel_rfl) ?hQ6 ?hy6 (Below.drew (Below.refl _ _)) ?more6
  case hi6 => rw [List.getElem?_toArray]; exact rfl
  case hQ6 => exact fun _ _ _ h => h
  case hy6 =>
    refine Or.inl ⟨by rfl, ?_⟩
    intro w' hSw
    obtain ⟨q0, qz⟩ := H0.out.2.1.call hSw
    obtain ⟨⟨x0, x1, x2, x3⟩, -, xz⟩ := (Own4.call H0.out.2.2.1 hSw).facts
    clear hSw
    go_simp
    try with_reducible rfl
  simp only [Act.put, List.setIfInBounds_toArray, List.set_cons_zero, List.set_cons_succ]
  refine wpAnyN_takeF (i := 8) (oi := ?o8) (v := ?v8) ?hi8 (by kernel_rfl) (by kernel_rfl) (by kernel_rfl) (by decide) ?hQ8 ?hy8 (Below.drew (Below.refl _ _)) ?more8
  case hi8 => rw [List.getElem?_toArray]; exact rfl
  case hQ8 => exact fun _ _ _ h => h
  case hy8 =>
    refine Or.inl ⟨by rfl, ?_⟩
    intro w' hSw
    clear hSw
    go_simp
    try with_reducible rfl
  simp only [Act.put, List.setIfInBounds_toArray, List.set_cons_zero, List.set_cons_succ]
  refine wpAnyN_one (i := 5) (o := ?o5) (by kernel_rfl) ?hi5 ?hw5 ?st5
  case hi5 => rw [List.getElem?_toArray]; exact rfl
  case hw5 => exact rfl
  intro K hK
  have HK5 : Hid _ := hK
  clear hK
  go_simp
  refine (K1.out _ (H0.out.1.call (Below.drew (Below.refl _ _)))).mono ?_
  rintro e w1 ⟨rfl, hq⟩
  have I1 : Hid (Below w0.heap.size w0 w1) := below_call0 (Below.drew (Below.refl _ _)) hq
  clear hq
  go_wp2_with fail
  refine HK5.out _ _ ⟨fun _ => I1.out, ?_⟩
  clear HK5 K
  try simp only [Act.put, List.setIfInBounds_toArray, List.set_cons_zero, List.set_cons_succ]
  refine wpAnyN_one (i := 7) (o := ?o7) (by kernel_rfl) ?hi7 ?hw7 ?st7
  case hi7 => rw [List.getElem?_toArray]; exact rfl
  case hw7 => exact rfl
  intro K hK
  have HK7 : Hid _ := hK
  clear hK
  go_simp
  refine (K2.out _ (H0.out.1.call I1.out)).mono ?_
  rintro e w2 ⟨rfl, hq⟩
  have I2 : Hid (Below w0.heap.size w0 w2) := below_call0 I1.out hq
  clear hq
  go_wp2_with fail
  refine HK7.out _ _ ⟨fun _ => I2.out, ?_⟩
  clear HK7 K
  try simp only [Act.put, List.setIfInBounds_toArray, List.set_cons_zero, List.set_cons_succ]
  refine wpAnyN_one (i := 9) (o := ?o9) (by kernel_rfl) ?hi9 ?hw9 ?st9
  case hi9 => rw [List.getElem?_toArray]; exact rfl
  case hw9 => exact rfl
  intro K hK
  have HK9 : Hid _ := hK
  clear hK
  go_simp
  refine (K3.out _ (H0.out.1.call I2.out)).mono ?_
  rintro e w3 ⟨rfl, hq⟩
  have I3 : Hid (Below w0.heap.size w0 w3) := below_call0 I2.out hq
  clear hq
  obtain ⟨⟨p0, p1, p2, p3⟩, ⟨f0, f1, f2, f3⟩, pz⟩ := (Pend.call H0.out.2.2.2.1 I3.out).facts
  go_wp2_with fail
  refine HK9.out _ _ ⟨fun _ => I3.out, ?_⟩
  clear HK9 K
  try simp only [Act.put, List.setIfInBounds_toArray, List.set_cons_zero, List.set_cons_succ]
  refine wpAnyN_one (i := 10) (o := ?o10) (by kernel_rfl) ?hi10 ?hw10 ?st10
  case hi10 => rw [List.getElem?_toArray]; exact rfl
  case hw10 => exact rfl
  intro K hK
  have HK10 : Hid _ := hK
  clear hK
  go_simp
  refine HK10.out _ _ ⟨fun h => absurd h (by decide +kernel), ?_⟩
  clear HK10 K
  try simp only [Act.put, List.setIfInBounds_toArray, List.set_cons_zero, List.set_cons_succ]
  refine wpAnyN_done (by kernel_rfl) ?_ _
  go_wp2_with fail
  have W3 : Below w.heap.size w w3 := below_call0 H0.out.2.2.2.2 I3.out
  refine bodyPost_ret (v := .agg #[.int .u64 (limb (c) 0 : Nat), .int .u64 (limb (c) 1 : Nat), .int .u64 (limb (c) 2 : Nat), .int .u64 (limb (c) 3 : Nat)]) ?_ rfl ⟨rfl, ?_⟩
  · simp [results, Tryd.results63, go_sem, p0, p1, p2, p3]
  · ((repeat' (first | with_reducible exact Below.refl _ _ | with_reducible refine Below.setCell ?_ ?_ _ | with_reducible refine below_alloc0 ?_ _ | with_reducible refine below_drewN ?_ _ | with_reducible refine Below.drew ?_ | refine below_call0 ?_ (by assumption))) <;> (first | omega | (simp; done) | (simp; omega)))
end Go.Proofs.YtchphekaonnfeaaDoor
