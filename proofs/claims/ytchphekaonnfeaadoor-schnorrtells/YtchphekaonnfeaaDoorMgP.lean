/- Several texts laid together. -/
import Derived.Test.YtchphekaonnfeaaDoorCvL
import Derived.Test.YtchphekaonnfeaaDoorCmB
namespace Go.Proofs.YtchphekaonnfeaaDoor
open Go Go.RowKit Go.Lib
attribute [local go_sem] run_eq4

theorem SpotB.put13 {w : World} {s g x y z : Nat} {v0 v1 v2 v3 v4 v5 v6 v7 v8 v9 v10 v11 v12 : Value} (h : SpotB w s g x y z) : Sp13 (((((((((((((w.setCell ⟨s, 0, none⟩ (v0)).setCell ⟨s, 1, none⟩ (v1)).setCell ⟨s, 2, none⟩ (v2)).setCell ⟨s, 3, none⟩ (v3)).setCell ⟨s, 4, none⟩ (v4)).setCell ⟨s, 5, none⟩ (v5)).setCell ⟨s, 6, none⟩ (v6)).setCell ⟨s, 7, none⟩ (v7)).setCell ⟨s, 8, none⟩ (v8)).setCell ⟨s, 9, none⟩ (v9)).setCell ⟨s, 10, none⟩ (v10)).setCell ⟨s, 11, none⟩ (v11)).setCell ⟨s, 12, none⟩ (v12)) s v0 v1 v2 v3 v4 v5 v6 v7 v8 v9 v10 v11 v12 :=
  ⟨by simp only [World.size_setCell]; exact h.lt, ((cell_offS (by decide)).trans ((cell_offS (by decide)).trans ((cell_offS (by decide)).trans ((cell_offS (by decide)).trans ((cell_offS (by decide)).trans ((cell_offS (by decide)).trans ((cell_offS (by decide)).trans ((cell_offS (by decide)).trans ((cell_offS (by decide)).trans ((cell_offS (by decide)).trans ((cell_offS (by decide)).trans ((cell_offS (by decide)).trans (World.cell?_setCell_same _ _ _ h.g0))))))))))))), ((cell_offS (by decide)).trans ((cell_offS (by decide)).trans ((cell_offS (by decide)).trans ((cell_offS (by decide)).trans ((cell_offS (by decide)).trans ((cell_offS (by decide)).trans ((cell_offS (by decide)).trans ((cell_offS (by decide)).trans ((cell_offS (by decide)).trans ((cell_offS (by decide)).trans ((cell_offS (by decide)).trans (World.cell?_setCell_same _ _ _ ((cell_offS (by decide)).trans h.x0))))))))))))), ((cell_offS (by decide)).trans ((cell_offS (by decide)).trans ((cell_offS (by decide)).trans ((cell_offS (by decide)).trans ((cell_offS (by decide)).trans ((cell_offS (by decide)).trans ((cell_offS (by decide)).trans ((cell_offS (by decide)).trans ((cell_offS (by decide)).trans ((cell_offS (by decide)).trans (World.cell?_setCell_same _ _ _ ((cell_offS (by decide)).trans ((cell_offS (by decide)).trans h.x1))))))))))))), ((cell_offS (by decide)).trans ((cell_offS (by decide)).trans ((cell_offS (by decide)).trans ((cell_offS (by decide)).trans ((cell_offS (by decide)).trans ((cell_offS (by decide)).trans ((cell_offS (by decide)).trans ((cell_offS (by decide)).trans ((cell_offS (by decide)).trans (World.cell?_setCell_same _ _ _ ((cell_offS (by decide)).trans ((cell_offS (by decide)).trans ((cell_offS (by decide)).trans h.x2))))))))))))), ((cell_offS (by decide)).trans ((cell_offS (by decide)).trans ((cell_offS (by decide)).trans ((cell_offS (by decide)).trans ((cell_offS (by decide)).trans ((cell_offS (by decide)).trans ((cell_offS (by decide)).trans ((cell_offS (by decide)).trans (World.cell?_setCell_same _ _ _ ((cell_offS (by decide)).trans ((cell_offS (by decide)).trans ((cell_offS (by decide)).trans ((cell_offS (by decide)).trans h.x3))))))))))))), ((cell_offS (by decide)).trans ((cell_offS (by decide)).trans ((cell_offS (by decide)).trans ((cell_offS (by decide)).trans ((cell_offS (by decide)).trans ((cell_offS (by decide)).trans ((cell_offS (by decide)).trans (World.cell?_setCell_same _ _ _ ((cell_offS (by decide)).trans ((cell_offS (by decide)).trans ((cell_offS (by decide)).trans ((cell_offS (by decide)).trans ((cell_offS (by decide)).trans h.y0))))))))))))), ((cell_offS (by decide)).trans ((cell_offS (by decide)).trans ((cell_offS (by decide)).trans ((cell_offS (by decide)).trans ((cell_offS (by decide)).trans ((cell_offS (by decide)).trans (World.cell?_setCell_same _ _ _ ((cell_offS (by decide)).trans ((cell_offS (by decide)).trans ((cell_offS (by decide)).trans ((cell_offS (by decide)).trans ((cell_offS (by decide)).trans ((cell_offS (by decide)).trans h.y1))))))))))))), ((cell_offS (by decide)).trans ((cell_offS (by decide)).trans ((cell_offS (by decide)).trans ((cell_offS (by decide)).trans ((cell_offS (by decide)).trans (World.cell?_setCell_same _ _ _ ((cell_offS (by decide)).trans ((cell_offS (by decide)).trans ((cell_offS (by decide)).trans ((cell_offS (by decide)).trans ((cell_offS (by decide)).trans ((cell_offS (by decide)).trans ((cell_offS (by decide)).trans h.y2))))))))))))), ((cell_offS (by decide)).trans ((cell_offS (by decide)).trans ((cell_offS (by decide)).trans ((cell_offS (by decide)).trans (World.cell?_setCell_same _ _ _ ((cell_offS (by decide)).trans ((cell_offS (by decide)).trans ((cell_offS (by decide)).trans ((cell_offS (by decide)).trans ((cell_offS (by decide)).trans ((cell_offS (by decide)).trans ((cell_offS (by decide)).trans ((cell_offS (by decide)).trans h.y3))))))))))))), ((cell_offS (by decide)).trans ((cell_offS (by decide)).trans ((cell_offS (by decide)).trans (World.cell?_setCell_same _ _ _ ((cell_offS (by decide)).trans ((cell_offS (by decide)).trans ((cell_offS (by decide)).trans ((cell_offS (by decide)).trans ((cell_offS (by decide)).trans ((cell_offS (by decide)).trans ((cell_offS (by decide)).trans ((cell_offS (by decide)).trans ((cell_offS (by decide)).trans h.z0))))))))))))), ((cell_offS (by decide)).trans ((cell_offS (by decide)).trans (World.cell?_setCell_same _ _ _ ((cell_offS (by decide)).trans ((cell_offS (by decide)).trans ((cell_offS (by decide)).trans ((cell_offS (by decide)).trans ((cell_offS (by decide)).trans ((cell_offS (by decide)).trans ((cell_offS (by decide)).trans ((cell_offS (by decide)).trans ((cell_offS (by decide)).trans ((cell_offS (by decide)).trans h.z1))))))))))))), ((cell_offS (by decide)).trans (World.cell?_setCell_same _ _ _ ((cell_offS (by decide)).trans ((cell_offS (by decide)).trans ((cell_offS (by decide)).trans ((cell_offS (by decide)).trans ((cell_offS (by decide)).trans ((cell_offS (by decide)).trans ((cell_offS (by decide)).trans ((cell_offS (by decide)).trans ((cell_offS (by decide)).trans ((cell_offS (by decide)).trans ((cell_offS (by decide)).trans h.z2))))))))))))), (World.cell?_setCell_same _ _ _ ((cell_offS (by decide)).trans ((cell_offS (by decide)).trans ((cell_offS (by decide)).trans ((cell_offS (by decide)).trans ((cell_offS (by decide)).trans ((cell_offS (by decide)).trans ((cell_offS (by decide)).trans ((cell_offS (by decide)).trans ((cell_offS (by decide)).trans ((cell_offS (by decide)).trans ((cell_offS (by decide)).trans ((cell_offS (by decide)).trans h.z3))))))))))))), fun o => by simp only [World.frozen?_setCell]; exact h.fz o⟩
theorem Sp13.spot {w : World} {s g x y z : Nat} (h : Sp13 w s (.pointer (some ⟨g, 0, none⟩)) (.int .u64 (limb x 0 : Nat)) (.int .u64 (limb x 1 : Nat)) (.int .u64 (limb x 2 : Nat)) (.int .u64 (limb x 3 : Nat)) (.int .u64 (limb y 0 : Nat)) (.int .u64 (limb y 1 : Nat)) (.int .u64 (limb y 2 : Nat)) (.int .u64 (limb y 3 : Nat)) (.int .u64 (limb z 0 : Nat)) (.int .u64 (limb z 1 : Nat)) (.int .u64 (limb z 2 : Nat)) (.int .u64 (limb z 3 : Nat))) : SpotB w s g x y z := ⟨h.lt, h.c0, h.c1, h.c2, h.c3, h.c4, h.c5, h.c6, h.c7, h.c8, h.c9, h.c10, h.c11, h.c12, h.fz⟩
theorem ButC.put13 {w W : World} {s : Nat} {v0 v1 v2 v3 v4 v5 v6 v7 v8 v9 v10 v11 v12 : Value} (h : ButC s w W) : ButC s w (((((((((((((W.setCell ⟨s, 0, none⟩ (v0)).setCell ⟨s, 1, none⟩ (v1)).setCell ⟨s, 2, none⟩ (v2)).setCell ⟨s, 3, none⟩ (v3)).setCell ⟨s, 4, none⟩ (v4)).setCell ⟨s, 5, none⟩ (v5)).setCell ⟨s, 6, none⟩ (v6)).setCell ⟨s, 7, none⟩ (v7)).setCell ⟨s, 8, none⟩ (v8)).setCell ⟨s, 9, none⟩ (v9)).setCell ⟨s, 10, none⟩ (v10)).setCell ⟨s, 11, none⟩ (v11)).setCell ⟨s, 12, none⟩ (v12)) := h.set.set.set.set.set.set.set.set.set.set.set.set.set
set_option maxRecDepth 100000 in
set_option maxHeartbeats 2000000 in
theorem smeet_same (s g x y z X Y Z : Nat) (kd : ∀ w, FieldB w g PP → SpotB w s g x y z → GTH w → Calls Tryd.prog 50 #[.pointer (some ⟨s, 0, none⟩)] w fun e w' => e = .returned (.tuple #[]) ∧ SpotB w' s g X Y Z ∧ ButC s w w') (w : World) (hM : FieldB w g PP) (hS : SpotB w s g x y z) (hT : GTH w) :
    Calls Tryd.prog 69 #[.pointer (some ⟨s, 0, none⟩), .agg #[.int .u64 0, .int .u64 0, .int .u64 0, .int .u64 0]] w fun e w' => e = .returned (.tuple #[]) ∧ SpotB w' s g X Y Z ∧ ButC s w w' := by
  have KD : Hid _ := kd
  have H0 : Hid (FieldB (w.alloc (.cells #[.int .u64 0, .int .u64 0, .int .u64 0, .int .u64 0] 24)) g PP ∧ SpotB (w.alloc (.cells #[.int .u64 0, .int .u64 0, .int .u64 0, .int .u64 0] 24)) s g x y z ∧ GTH (w.alloc (.cells #[.int .u64 0, .int .u64 0, .int .u64 0, .int .u64 0] 24)) ∧ Below w.heap.size w (w.alloc (.cells #[.int .u64 0, .int .u64 0, .int .u64 0, .int .u64 0] 24))) := ⟨hM.alloc, hS.alloc, hT.call (below_alloc0 (Below.refl _ _) _), below_alloc0 (Below.refl _ _) _⟩
  have e0 : eq4 0 0 0 0 0 0 0 0 = true := rfl
  clear kd hM hS hT
  go_enter Tryd.func69, Tryd.ntmps69
  go_wp2_with fail
  refine (KD.out _ H0.out.1 H0.out.2.1 H0.out.2.2.1).mono ?_
  rintro e w1 ⟨rfl, hs, hb⟩
  have H1 : Hid (SpotB w1 s g X Y Z ∧ ButC s w w1) := ⟨hs, (ButC.of H0.out.2.2.2).trans hb⟩
  clear hs hb H0 KD
  go_wp2_with fail
  first | exact bodyPost_ret (results_none rfl _ _ _) rfl ⟨rfl, H1.out⟩ | exact bodyPost_end (results_none rfl _ _ _) rfl ⟨rfl, H1.out⟩
set_option maxRecDepth 100000 in
set_option maxHeartbeats 2000000 in
theorem smeet_other (s g x y z up : Nat) (hu : up < PP) (h0 : up ≠ 0) (w : World) (hS : SpotB w s g x y z) :
    Calls Tryd.prog 69 #[.pointer (some ⟨s, 0, none⟩), .agg #[.int .u64 (limb (up) 0 : Nat), .int .u64 (limb (up) 1 : Nat), .int .u64 (limb (up) 2 : Nat), .int .u64 (limb (up) 3 : Nat)]] w fun e w' => e = .returned (.tuple #[]) ∧ SpotB w' s g x y 0 ∧ ButC s w w' := by
  have e0 : eq4 (limb up 0 : Nat) (limb up 1 : Nat) (limb up 2 : Nat) (limb up 3 : Nat) 0 0 0 0 = false := by
    rw [eq4_zeroC up (Nat.lt_trans hu FM_P.2.1)]; exact decide_eq_false h0
  obtain ⟨w0, hw0⟩ : ∃ u, u = w.alloc (.cells #[.int .u64 (limb (up) 0 : Nat), .int .u64 (limb (up) 1 : Nat), .int .u64 (limb (up) 2 : Nat), .int .u64 (limb (up) 3 : Nat)] 24) := ⟨_, rfl⟩
  have H0 : Hid (SpotB w0 s g x y z ∧ Own4 w0 w.heap.size up ∧ Below w.heap.size w w0) := by
    rw [hw0]
    exact ⟨hS.alloc, Own4.new' rfl, below_alloc0 (Below.refl _ _) _⟩
  clear hS hu h0
  go_enter Tryd.func69, Tryd.ntmps69
  go_upto_region 1 with fail
  rw [← hw0]
  clear hw0
  obtain ⟨sz, sg, sx0, sx1, sx2, sx3, sy0, sy1, sy2, sy3, sz0, sz1, sz2, sz3, sf⟩ := H0.out.1
  obtain ⟨⟨u0, u1, u2, u3⟩, -, uz⟩ := H0.out.2.1.facts
  go_wp2_with fail
  obtain ⟨w1, hw1⟩ : ∃ u, u = ((((w0.setCell ⟨s, 9, none⟩ (.int .u64 (limb 0 0 : Nat))).setCell ⟨s, 10, none⟩ (.int .u64 (limb 0 1 : Nat))).setCell ⟨s, 11, none⟩ (.int .u64 (limb 0 2 : Nat))).setCell ⟨s, 12, none⟩ (.int .u64 (limb 0 3 : Nat))) := ⟨_, rfl⟩
  have H1 : SpotB w1 s g x y 0 ∧ ButC s w w1 := by
    rw [hw1]
    exact ⟨H0.out.1.setz, (ButC.of H0.out.2.2).put4s⟩
  rw [lit0.1, lit0.2.1, lit0.2.2.1, lit0.2.2.2] at hw1
  rw [← hw1]
  first | exact bodyPost_end (results_none rfl _ _ _) rfl ⟨rfl, H1⟩ | exact bodyPost_ret (results_none rfl _ _ _) rfl ⟨rfl, H1⟩
set_option maxRecDepth 100000 in
set_option maxHeartbeats 2000000 in
theorem sadd_inf (s b o px py : Nat) (w : World) (hP : PointB w b o px py true) :
    Calls Tryd.prog 51 #[.pointer (some ⟨s, 0, none⟩), .pointer (some ⟨b, o, none⟩)] w fun e w' => e = .returned (.tuple #[]) ∧ w' = w := by
  obtain ⟨pz, p0, p1, p2, p3, p4, p5, p6, p7, p8⟩ := hP
  go_enter Tryd.func51, Tryd.ntmps51
  go_wp2_with fail
  first | exact bodyPost_ret (results_none rfl _ _ _) rfl ⟨rfl, rfl⟩ | exact bodyPost_end (results_none rfl _ _ _) rfl ⟨rfl, rfl⟩ | (go_end0; exact ⟨rfl, rfl⟩)
set_option maxRecDepth 100000 in
set_option maxHeartbeats 2000000 in
theorem sadd_zero (s g x y b o px py : Nat) (w : World) (hS : SpotB w s g x y 0) (hP : PointB w b o px py false) :
    Calls Tryd.prog 51 #[.pointer (some ⟨s, 0, none⟩), .pointer (some ⟨b, o, none⟩)] w fun e w' => e = .returned (.tuple #[]) ∧ SpotB w' s g px py 1 ∧ ButC s w w' := by
  have K1 : Hid _ := fun (w : World) h => pat_fin g b o px py w h
  have H0 : Hid (SpotB w s g x y 0 ∧ PointB w b o px py false) := ⟨hS, hP⟩
  obtain ⟨pz, p0, p1, p2, p3, p4, p5, p6, p7, p8⟩ := hP
  obtain ⟨sz, sg, sx0, sx1, sx2, sx3, sy0, sy1, sy2, sy3, sz0, sz1, sz2, sz3, sf⟩ := hS
  rw [lit0.1] at sz0
  rw [lit0.2.1] at sz1
  rw [lit0.2.2.1] at sz2
  rw [lit0.2.2.2] at sz3
  have e0 : eq4 0 0 0 0 0 0 0 0 = true := rfl
  go_enter Tryd.func51, Tryd.ntmps51
  go_wp2_with fail
  clear sz sg sx0 sx1 sx2 sx3 sy0 sy1 sy2 sy3 sz0 sz1 sz2 sz3 sf pz p0 p1 p2 p3 p4 p5 p6 p7 p8
  refine (K1.out _ H0.out.2).mono ?_
  rintro e w1 ⟨rfl, hb⟩
  have H1 : Hid (SpotB w1 s g x y 0 ∧ ButC s w w1) := ⟨H0.out.1.call hb, ButC.of hb⟩
  clear hb H0 K1
  obtain ⟨sz, sg, sx0, sx1, sx2, sx3, sy0, sy1, sy2, sy3, sz0, sz1, sz2, sz3, sf⟩ := H1.out.1
  go_wp2_with fail
  clear sz sg sx0 sx1 sx2 sx3 sy0 sy1 sy2 sy3 sz0 sz1 sz2 sz3 sf
  obtain ⟨w2, hw2⟩ : ∃ u, u = (((((((((((((w1.setCell ⟨s, 0, none⟩ (.pointer (some ⟨g, 0, none⟩))).setCell ⟨s, 1, none⟩ (.int .u64 (limb px 0 : Nat))).setCell ⟨s, 2, none⟩ (.int .u64 (limb px 1 : Nat))).setCell ⟨s, 3, none⟩ (.int .u64 (limb px 2 : Nat))).setCell ⟨s, 4, none⟩ (.int .u64 (limb px 3 : Nat))).setCell ⟨s, 5, none⟩ (.int .u64 (limb py 0 : Nat))).setCell ⟨s, 6, none⟩ (.int .u64 (limb py 1 : Nat))).setCell ⟨s, 7, none⟩ (.int .u64 (limb py 2 : Nat))).setCell ⟨s, 8, none⟩ (.int .u64 (limb py 3 : Nat))).setCell ⟨s, 9, none⟩ (.int .u64 (limb 1 0 : Nat))).setCell ⟨s, 10, none⟩ (.int .u64 (limb 1 1 : Nat))).setCell ⟨s, 11, none⟩ (.int .u64 (limb 1 2 : Nat))).setCell ⟨s, 12, none⟩ (.int .u64 (limb 1 3 : Nat))) := ⟨_, rfl⟩
  have H2 : SpotB w2 s g px py 1 ∧ ButC s w w2 := by
    rw [hw2]
    exact ⟨H1.out.1.put13.spot, H1.out.2.put13⟩
  rw [lit1.1, lit1.2.1, lit1.2.2.1, lit1.2.2.2] at hw2
  rw [← hw2]
  first | exact bodyPost_ret (results_none rfl _ _ _) rfl ⟨rfl, H2⟩ | exact bodyPost_end (results_none rfl _ _ _) rfl ⟨rfl, H2⟩
end Go.Proofs.YtchphekaonnfeaaDoor

namespace Go.Proofs.YtchphekaonnfeaaDoor
open Go Go.RowKit Go.Lib

/-- Is it a point? -/
def ptOk (x y : Nat) (i : Bool) : Bool := if i then decide (x = 0 ∧ y = 0) else decide (x < PP ∧ y < PP ∧ mM y y = sqM x)
theorem pcheck_ok (g b o x y : Nat) (i : Bool) (hX : x < R256) (hY : y < R256) (hk : ptOk x y i = true) (w : World) (hM : FieldB w g PP) (hP : PointB w b o x y i) :
    Calls Tryd.prog 48 #[.agg #[.pointer (some ⟨g, 0, none⟩)], .pointer (some ⟨b, o, none⟩)] w fun e w' => e = .returned (.int .i64 0) ∧ Below w.heap.size w w' := by
  cases i with
  | true => have h := of_decide_eq_true (show decide (x = 0 ∧ y = 0) = true from hk); exact pcheck_i0 g b o x y h.1 h.2 w hM hP
  | false => have h := of_decide_eq_true (show decide (x < PP ∧ y < PP ∧ mM y y = sqM x) = true from hk); exact pcheck_on g b o x y hX hY h.1 h.2.1 h.2.2 w hM hP
theorem pcheck_bad (g b o x y : Nat) (i : Bool) (hX : x < R256) (hY : y < R256) (hk : ptOk x y i = false) (w : World) (hM : FieldB w g PP) (hP : PointB w b o x y i) :
    Calls Tryd.prog 48 #[.agg #[.pointer (some ⟨g, 0, none⟩)], .pointer (some ⟨b, o, none⟩)] w fun e w' => e = .returned (.int .i64 30) ∧ Below w.heap.size w w' := by
  cases i with
  | true => have h := of_decide_eq_false (show decide (x = 0 ∧ y = 0) = false from hk); exact pcheck_i1 g b o x y hX hY h w hM hP
  | false =>
    have h := of_decide_eq_false (show decide (x < PP ∧ y < PP ∧ mM y y = sqM x) = false from hk)
    by_cases h1 : x < PP
    · by_cases h2 : y < PP
      · exact pcheck_off g b o x y hX hY h1 h2 (fun c => h ⟨h1, h2, c⟩) w hM hP
      · exact pcheck_y g b o x y hX hY h1 h2 w hM hP
    · exact pcheck_x g b o x y hX h1 w hM hP
set_option maxRecDepth 100000 in
set_option maxHeartbeats 2000000 in
theorem Check_ok (x y : Nat) (i : Bool) (hX : x < R256) (hY : y < R256) (hk : ptOk x y i = true) (w : World) (hG : GlobP w) :
    Calls Tryd.prog 40 #[.agg #[.int .u64 (limb (x) 0 : Nat), .int .u64 (limb (x) 1 : Nat), .int .u64 (limb (x) 2 : Nat), .int .u64 (limb (x) 3 : Nat), .int .u64 (limb (y) 0 : Nat), .int .u64 (limb (y) 1 : Nat), .int .u64 (limb (y) 2 : Nat), .int .u64 (limb (y) 3 : Nat), .bool i]] w fun e w' => e = .returned (.int .i64 0) ∧ Below w.heap.size w w' := by
  have KN : Hid _ := fun (w : World) h => newPlane_P w h
  have KC : Hid (∀ (g : Nat) (w : World) (b : Nat), FieldB w g PP → PointO w b x y i → Calls Tryd.prog 48 #[.agg #[.pointer (some ⟨g, 0, none⟩)], .pointer (some ⟨b, 0, none⟩)] w fun e w' => e = .returned (.int .i64 0) ∧ Below w.heap.size w w') := fun g w b h1 h2 => pcheck_ok g b 0 x y i hX hY hk w h1 h2.pt
  have H0 : Hid (GlobP (w.alloc (.cells #[.int .u64 (limb x 0 : Nat), .int .u64 (limb x 1 : Nat), .int .u64 (limb x 2 : Nat), .int .u64 (limb x 3 : Nat), .int .u64 (limb y 0 : Nat), .int .u64 (limb y 1 : Nat), .int .u64 (limb y 2 : Nat), .int .u64 (limb y 3 : Nat), .bool i] 28)) ∧ PointO (w.alloc (.cells #[.int .u64 (limb x 0 : Nat), .int .u64 (limb x 1 : Nat), .int .u64 (limb x 2 : Nat), .int .u64 (limb x 3 : Nat), .int .u64 (limb y 0 : Nat), .int .u64 (limb y 1 : Nat), .int .u64 (limb y 2 : Nat), .int .u64 (limb y 3 : Nat), .bool i] 28)) w.heap.size x y i ∧ Below w.heap.size w (w.alloc (.cells #[.int .u64 (limb x 0 : Nat), .int .u64 (limb x 1 : Nat), .int .u64 (limb x 2 : Nat), .int .u64 (limb x 3 : Nat), .int .u64 (limb y 0 : Nat), .int .u64 (limb y 1 : Nat), .int .u64 (limb y 2 : Nat), .int .u64 (limb y 3 : Nat), .bool i] 28))) := ⟨hG.alloc, PointO.new _ _ _ _ rfl, below_alloc0 (Below.refl _ _) _⟩
  clear hG hX hY hk
  go_enter Tryd.func40, Tryd.ntmps40
  go_wp2_with fail
  refine (KN.out _ H0.out.1).mono ?_
  rintro e w1 ⟨g, rfl, hF, hb⟩
  have H1 : Hid (FieldB w1 g PP ∧ PointO w1 w.heap.size x y i ∧ Below w.heap.size w w1) := ⟨hF, H0.out.2.1.call hb, below_call0 H0.out.2.2 hb⟩
  clear hF hb H0 KN
  go_wp2_with fail
  refine (KC.out g _ _ H1.out.1 H1.out.2.1).mono ?_
  rintro e w2 ⟨rfl, hb⟩
  have H2 : Hid (Below w.heap.size w w2) := below_call0 H1.out.2.2 hb
  clear hb H1 KC
  go_wp2_with fail
  go_ret
  exact ⟨rfl, H2.out⟩
set_option maxRecDepth 100000 in
set_option maxHeartbeats 2000000 in
theorem Check_bad (x y : Nat) (i : Bool) (hX : x < R256) (hY : y < R256) (hk : ptOk x y i = false) (w : World) (hG : GlobP w) :
    Calls Tryd.prog 40 #[.agg #[.int .u64 (limb (x) 0 : Nat), .int .u64 (limb (x) 1 : Nat), .int .u64 (limb (x) 2 : Nat), .int .u64 (limb (x) 3 : Nat), .int .u64 (limb (y) 0 : Nat), .int .u64 (limb (y) 1 : Nat), .int .u64 (limb (y) 2 : Nat), .int .u64 (limb (y) 3 : Nat), .bool i]] w fun e w' => e = .returned (.int .i64 30) ∧ Below w.heap.size w w' := by
  have KN : Hid _ := fun (w : World) h => newPlane_P w h
  have KC : Hid (∀ (g : Nat) (w : World) (b : Nat), FieldB w g PP → PointO w b x y i → Calls Tryd.prog 48 #[.agg #[.pointer (some ⟨g, 0, none⟩)], .pointer (some ⟨b, 0, none⟩)] w fun e w' => e = .returned (.int .i64 30) ∧ Below w.heap.size w w') := fun g w b h1 h2 => pcheck_bad g b 0 x y i hX hY hk w h1 h2.pt
  have H0 : Hid (GlobP (w.alloc (.cells #[.int .u64 (limb x 0 : Nat), .int .u64 (limb x 1 : Nat), .int .u64 (limb x 2 : Nat), .int .u64 (limb x 3 : Nat), .int .u64 (limb y 0 : Nat), .int .u64 (limb y 1 : Nat), .int .u64 (limb y 2 : Nat), .int .u64 (limb y 3 : Nat), .bool i] 28)) ∧ PointO (w.alloc (.cells #[.int .u64 (limb x 0 : Nat), .int .u64 (limb x 1 : Nat), .int .u64 (limb x 2 : Nat), .int .u64 (limb x 3 : Nat), .int .u64 (limb y 0 : Nat), .int .u64 (limb y 1 : Nat), .int .u64 (limb y 2 : Nat), .int .u64 (limb y 3 : Nat), .bool i] 28)) w.heap.size x y i ∧ Below w.heap.size w (w.alloc (.cells #[.int .u64 (limb x 0 : Nat), .int .u64 (limb x 1 : Nat), .int .u64 (limb x 2 : Nat), .int .u64 (limb x 3 : Nat), .int .u64 (limb y 0 : Nat), .int .u64 (limb y 1 : Nat), .int .u64 (limb y 2 : Nat), .int .u64 (limb y 3 : Nat), .bool i] 28))) := ⟨hG.alloc, PointO.new _ _ _ _ rfl, below_alloc0 (Below.refl _ _) _⟩
  clear hG hX hY hk
  go_enter Tryd.func40, Tryd.ntmps40
  go_wp2_with fail
  refine (KN.out _ H0.out.1).mono ?_
  rintro e w1 ⟨g, rfl, hF, hb⟩
  have H1 : Hid (FieldB w1 g PP ∧ PointO w1 w.heap.size x y i ∧ Below w.heap.size w w1) := ⟨hF, H0.out.2.1.call hb, below_call0 H0.out.2.2 hb⟩
  clear hF hb H0 KN
  go_wp2_with fail
  refine (KC.out g _ _ H1.out.1 H1.out.2.1).mono ?_
  rintro e w2 ⟨rfl, hb⟩
  have H2 : Hid (Below w.heap.size w w2) := below_call0 H1.out.2.2 hb
  clear hb H1 KC
  go_wp2_with fail
  go_ret
  exact ⟨rfl, H2.out⟩
end Go.Proofs.YtchphekaonnfeaaDoor

namespace Go.Proofs.YtchphekaonnfeaaDoor
open Go Go.RowKit Go.Lib

theorem SpotB.new (w : World) (g x y z : Nat) {t : TypeId} : SpotB (w.alloc (.cells #[.pointer (some ⟨g, 0, none⟩), .int .u64 (limb x 0 : Nat), .int .u64 (limb x 1 : Nat), .int .u64 (limb x 2 : Nat), .int .u64 (limb x 3 : Nat), .int .u64 (limb y 0 : Nat), .int .u64 (limb y 1 : Nat), .int .u64 (limb y 2 : Nat), .int .u64 (limb y 3 : Nat), .int .u64 (limb z 0 : Nat), .int .u64 (limb z 1 : Nat), .int .u64 (limb z 2 : Nat), .int .u64 (limb z 3 : Nat)] t)) w.heap.size g x y z :=
  ⟨by simp, by rw [World.cell?_alloc_new]; rfl, by rw [World.cell?_alloc_new]; rfl, by rw [World.cell?_alloc_new]; rfl, by rw [World.cell?_alloc_new]; rfl, by rw [World.cell?_alloc_new]; rfl, by rw [World.cell?_alloc_new]; rfl, by rw [World.cell?_alloc_new]; rfl, by rw [World.cell?_alloc_new]; rfl, by rw [World.cell?_alloc_new]; rfl, by rw [World.cell?_alloc_new]; rfl, by rw [World.cell?_alloc_new]; rfl, by rw [World.cell?_alloc_new]; rfl, by rw [World.cell?_alloc_new]; rfl, fun o => World.frozen?_alloc_new _ _ _ _⟩
theorem PointO.but {s b x y : Nat} {i : Bool} {w w' : World} (hb : ButC s w w') (h : PointO w b x y i) (hn : b ≠ s) : PointO w' b x y i :=
  ⟨Nat.lt_of_lt_of_le h.lt hb.size, (hb.cell (p := ⟨b, 0, none⟩) h.lt hn).trans h.c0, (hb.cell (p := ⟨b, 1, none⟩) h.lt hn).trans h.c1, (hb.cell (p := ⟨b, 2, none⟩) h.lt hn).trans h.c2, (hb.cell (p := ⟨b, 3, none⟩) h.lt hn).trans h.c3, (hb.cell (p := ⟨b, 4, none⟩) h.lt hn).trans h.c4, (hb.cell (p := ⟨b, 5, none⟩) h.lt hn).trans h.c5, (hb.cell (p := ⟨b, 6, none⟩) h.lt hn).trans h.c6, (hb.cell (p := ⟨b, 7, none⟩) h.lt hn).trans h.c7, (hb.cell (p := ⟨b, 8, none⟩) h.lt hn).trans h.c8, fun o => (hb.frozen (p := ⟨b, o, none⟩) h.lt hn).trans (h.fz o)⟩
theorem PtZ.but {s b : Nat} {w w' : World} (hb : ButC s w w') (h : PtZ w b) (hn : b ≠ s) : PtZ w' b :=
  ⟨Nat.lt_of_lt_of_le h.lt hb.size, (hb.cell (p := ⟨b, 0, none⟩) h.lt hn).trans h.c0, (hb.cell (p := ⟨b, 1, none⟩) h.lt hn).trans h.c1, (hb.cell (p := ⟨b, 2, none⟩) h.lt hn).trans h.c2, (hb.cell (p := ⟨b, 3, none⟩) h.lt hn).trans h.c3, (hb.cell (p := ⟨b, 4, none⟩) h.lt hn).trans h.c4, (hb.cell (p := ⟨b, 5, none⟩) h.lt hn).trans h.c5, (hb.cell (p := ⟨b, 6, none⟩) h.lt hn).trans h.c6, (hb.cell (p := ⟨b, 7, none⟩) h.lt hn).trans h.c7, (hb.cell (p := ⟨b, 8, none⟩) h.lt hn).trans h.c8, fun o => (hb.frozen (p := ⟨b, o, none⟩) h.lt hn).trans (h.fz o)⟩
end Go.Proofs.YtchphekaonnfeaaDoor
