/- Several texts laid together. -/
import Derived.Test.YtgmfecncfekjfaaDoorCvM
import Derived.Test.YtgmfecncfekjfaaDoorCmB
namespace Go.Proofs.YtgmfecncfekjfaaDoor
open Go Go.RowKit Go.Lib

/-- Is it a point? -/
def ptOk (x y : Nat) (i : Bool) : Bool := if i then decide (x = 0 ∧ y = 0) else decide (x < PP ∧ y < PP ∧ mM y y = sqM x)
theorem pcheck_ok (g b o x y : Nat) (i : Bool) (hX : x < R256) (hY : y < R256) (hk : ptOk x y i = true) (w : World) (hM : FieldB w g PP) (hP : PointB w b o x y i) :
    Calls Tryd.prog 29 #[.agg #[.pointer (some ⟨g, 0, none⟩)], .pointer (some ⟨b, o, none⟩)] w fun e w' => e = .returned (.int .i64 0) ∧ Below w.heap.size w w' := by
  cases i with
  | true => have h := of_decide_eq_true (show decide (x = 0 ∧ y = 0) = true from hk); exact pcheck_i0 g b o x y h.1 h.2 w hM hP
  | false => have h := of_decide_eq_true (show decide (x < PP ∧ y < PP ∧ mM y y = sqM x) = true from hk); exact pcheck_on g b o x y hX hY h.1 h.2.1 h.2.2 w hM hP
theorem pcheck_bad (g b o x y : Nat) (i : Bool) (hX : x < R256) (hY : y < R256) (hk : ptOk x y i = false) (w : World) (hM : FieldB w g PP) (hP : PointB w b o x y i) :
    Calls Tryd.prog 29 #[.agg #[.pointer (some ⟨g, 0, none⟩)], .pointer (some ⟨b, o, none⟩)] w fun e w' => e = .returned (.int .i64 30) ∧ Below w.heap.size w w' := by
  cases i with
  | true => have h := of_decide_eq_false (show decide (x = 0 ∧ y = 0) = false from hk); exact pcheck_i1 g b o x y hX hY h w hM hP
  | false =>
    have h := of_decide_eq_false (show decide (x < PP ∧ y < PP ∧ mM y y = sqM x) = false from hk)
    by_cases h1 : x < PP
    · by_cases h2 : y < PP
      · exact pcheck_off g b o x y hX hY h1 h2 (fun c => h ⟨h1, h2, c⟩) w hM hP
      · exact pcheck_y g b o x y hX hY h1 h2 w hM hP
    · exact pcheck_x g b o x y hX h1 w hM hP
set_option maxRecDepth 100000 in
set_option maxHeartbeats 2000000 in
theorem Check_ok (x y : Nat) (i : Bool) (hX : x < R256) (hY : y < R256) (hk : ptOk x y i = true) (w : World) (hG : GlobP w) :
    Calls Tryd.prog 13 #[.agg #[.int .u64 (limb (x) 0 : Nat), .int .u64 (limb (x) 1 : Nat), .int .u64 (limb (x) 2 : Nat), .int .u64 (limb (x) 3 : Nat), .int .u64 (limb (y) 0 : Nat), .int .u64 (limb (y) 1 : Nat), .int .u64 (limb (y) 2 : Nat), .int .u64 (limb (y) 3 : Nat), .bool i]] w fun e w' => e = .returned (.int .i64 0) ∧ Below w.heap.size w w' := by
  have KN : Hid _ := fun (w : World) h => newPlane_P w h
  have KC : Hid (∀ (g : Nat) (w : World) (b : Nat), FieldB w g PP → PointO w b x y i → Calls Tryd.prog 29 #[.agg #[.pointer (some ⟨g, 0, none⟩)], .pointer (some ⟨b, 0, none⟩)] w fun e w' => e = .returned (.int .i64 0) ∧ Below w.heap.size w w') := fun g w b h1 h2 => pcheck_ok g b 0 x y i hX hY hk w h1 h2.pt
  have H0 : Hid (GlobP (w.alloc (.cells #[.int .u64 (limb x 0 : Nat), .int .u64 (limb x 1 : Nat), .int .u64 (limb x 2 : Nat), .int .u64 (limb x 3 : Nat), .int .u64 (limb y 0 : Nat), .int .u64 (limb y 1 : Nat), .int .u64 (limb y 2 : Nat), .int .u64 (limb y 3 : Nat), .bool i] 26)) ∧ PointO (w.alloc (.cells #[.int .u64 (limb x 0 : Nat), .int .u64 (limb x 1 : Nat), .int .u64 (limb x 2 : Nat), .int .u64 (limb x 3 : Nat), .int .u64 (limb y 0 : Nat), .int .u64 (limb y 1 : Nat), .int .u64 (limb y 2 : Nat), .int .u64 (limb y 3 : Nat), .bool i] 26)) w.heap.size x y i ∧ Below w.heap.size w (w.alloc (.cells #[.int .u64 (limb x 0 : Nat), .int .u64 (limb x 1 : Nat), .int .u64 (limb x 2 : Nat), .int .u64 (limb x 3 : Nat), .int .u64 (limb y 0 : Nat), .int .u64 (limb y 1 : Nat), .int .u64 (limb y 2 : Nat), .int .u64 (limb y 3 : Nat), .bool i] 26))) := ⟨hG.alloc, PointO.new _ _ _ _ rfl, below_alloc0 (Below.refl _ _) _⟩
  clear hG hX hY hk
  go_enter Tryd.func13, Tryd.ntmps13
  go_wp2_with fail
  refine (KN.out _ H0.out.1).mono ?_
  rintro e w1 ⟨g, rfl, hF, hb⟩
  have H1 : Hid (FieldB w1 g PP ∧ PointO w1 w.heap.size x y i ∧ Below w.heap.size w w1) := ⟨hF, H0.out.2.1.call hb, below_call0 H0.out.2.2 hb⟩
  clear hF hb H0 KN
  go_wp2_with fail
  refine (KC.out g _ _ H1.out.1 H1.out.2.1).mono ?_
  rintro e w2 ⟨rfl, hb⟩
  have H2 : Hid (Below w.heap.size w w2) := below_call0 H1.out.2.2 hb
  clear hb H1 KC
  go_wp2_with fail
  go_ret
  exact ⟨rfl, H2.out⟩
set_option maxRecDepth 100000 in
set_option maxHeartbeats 2000000 in
theorem Check_bad (x y : Nat) (i : Bool) (hX : x < R256) (hY : y < R256) (hk : ptOk x y i = false) (w : World) (hG : GlobP w) :
    Calls Tryd.prog 13 #[.agg #[.int .u64 (limb (x) 0 : Nat), .int .u64 (limb (x) 1 : Nat), .int .u64 (limb (x) 2 : Nat), .int .u64 (limb (x) 3 : Nat), .int .u64 (limb (y) 0 : Nat), .int .u64 (limb (y) 1 : Nat), .int .u64 (limb (y) 2 : Nat), .int .u64 (limb (y) 3 : Nat), .bool i]] w fun e w' => e = .returned (.int .i64 30) ∧ Below w.heap.size w w' := by
  have KN : Hid _ := fun (w : World) h => newPlane_P w h
  have KC : Hid (∀ (g : Nat) (w : World) (b : Nat), FieldB w g PP → PointO w b x y i → Calls Tryd.prog 29 #[.agg #[.pointer (some ⟨g, 0, none⟩)], .pointer (some ⟨b, 0, none⟩)] w fun e w' => e = .returned (.int .i64 30) ∧ Below w.heap.size w w') := fun g w b h1 h2 => pcheck_bad g b 0 x y i hX hY hk w h1 h2.pt
  have H0 : Hid (GlobP (w.alloc (.cells #[.int .u64 (limb x 0 : Nat), .int .u64 (limb x 1 : Nat), .int .u64 (limb x 2 : Nat), .int .u64 (limb x 3 : Nat), .int .u64 (limb y 0 : Nat), .int .u64 (limb y 1 : Nat), .int .u64 (limb y 2 : Nat), .int .u64 (limb y 3 : Nat), .bool i] 26)) ∧ PointO (w.alloc (.cells #[.int .u64 (limb x 0 : Nat), .int .u64 (limb x 1 : Nat), .int .u64 (limb x 2 : Nat), .int .u64 (limb x 3 : Nat), .int .u64 (limb y 0 : Nat), .int .u64 (limb y 1 : Nat), .int .u64 (limb y 2 : Nat), .int .u64 (limb y 3 : Nat), .bool i] 26)) w.heap.size x y i ∧ Below w.heap.size w (w.alloc (.cells #[.int .u64 (limb x 0 : Nat), .int .u64 (limb x 1 : Nat), .int .u64 (limb x 2 : Nat), .int .u64 (limb x 3 : Nat), .int .u64 (limb y 0 : Nat), .int .u64 (limb y 1 : Nat), .int .u64 (limb y 2 : Nat), .int .u64 (limb y 3 : Nat), .bool i] 26))) := ⟨hG.alloc, PointO.new _ _ _ _ rfl, below_alloc0 (Below.refl _ _) _⟩
  clear hG hX hY hk
  go_enter Tryd.func13, Tryd.ntmps13
  go_wp2_with fail
  refine (KN.out _ H0.out.1).mono ?_
  rintro e w1 ⟨g, rfl, hF, hb⟩
  have H1 : Hid (FieldB w1 g PP ∧ PointO w1 w.heap.size x y i ∧ Below w.heap.size w w1) := ⟨hF, H0.out.2.1.call hb, below_call0 H0.out.2.2 hb⟩
  clear hF hb H0 KN
  go_wp2_with fail
  refine (KC.out g _ _ H1.out.1 H1.out.2.1).mono ?_
  rintro e w2 ⟨rfl, hb⟩
  have H2 : Hid (Below w.heap.size w w2) := below_call0 H1.out.2.2 hb
  clear hb H1 KC
  go_wp2_with fail
  go_ret
  exact ⟨rfl, H2.out⟩
set_option maxRecDepth 100000 in
set_option maxHeartbeats 2000000 in
theorem Neg_ok (x y : Nat) (i : Bool) (hX : x < R256) (hY : y < R256) (hk : ptOk x y i = true) (hy : y < PP) (w : World) (hG : GlobP w) :
    Calls Tryd.prog 11 #[.agg #[.int .u64 (limb (x) 0 : Nat), .int .u64 (limb (x) 1 : Nat), .int .u64 (limb (x) 2 : Nat), .int .u64 (limb (x) 3 : Nat), .int .u64 (limb (y) 0 : Nat), .int .u64 (limb (y) 1 : Nat), .int .u64 (limb (y) 2 : Nat), .int .u64 (limb (y) 3 : Nat), .bool i]] w fun e w' => e = .returned (.tuple #[.agg #[.int .u64 (limb (x) 0 : Nat), .int .u64 (limb (x) 1 : Nat), .int .u64 (limb (x) 2 : Nat), .int .u64 (limb (x) 3 : Nat), .int .u64 (limb (sM 0 y) 0 : Nat), .int .u64 (limb (sM 0 y) 1 : Nat), .int .u64 (limb (sM 0 y) 2 : Nat), .int .u64 (limb (sM 0 y) 3 : Nat), .bool i], .int .i64 0]) ∧ Below w.heap.size w w' := by
  have KN : Hid _ := fun (w : World) h => newPlane_P w h
  have KC : Hid (∀ (g : Nat) (w : World) (b : Nat), FieldB w g PP → PointO w b x y i → Calls Tryd.prog 29 #[.agg #[.pointer (some ⟨g, 0, none⟩)], .pointer (some ⟨b, 0, none⟩)] w fun e w' => e = .returned (.int .i64 0) ∧ Below w.heap.size w w') := fun g w b h1 h2 => pcheck_ok g b 0 x y i hX hY hk w h1 h2.pt
  obtain ⟨a, ea⟩ : ∃ a, a = sM 0 y := ⟨_, rfl⟩
  have KM : Hid (∀ (g : Nat) (w : World), FieldB w g PP → Calls Tryd.prog 36 #[.agg #[.pointer (some ⟨g, 0, none⟩)], .agg #[.int .u64 (limb (x) 0 : Nat), .int .u64 (limb (x) 1 : Nat), .int .u64 (limb (x) 2 : Nat), .int .u64 (limb (x) 3 : Nat), .int .u64 (limb (y) 0 : Nat), .int .u64 (limb (y) 1 : Nat), .int .u64 (limb (y) 2 : Nat), .int .u64 (limb (y) 3 : Nat), .bool i]] w fun e w' => e = .returned (.agg #[.int .u64 (limb (x) 0 : Nat), .int .u64 (limb (x) 1 : Nat), .int .u64 (limb (x) 2 : Nat), .int .u64 (limb (x) 3 : Nat), .int .u64 (limb (a) 0 : Nat), .int .u64 (limb (a) 1 : Nat), .int .u64 (limb (a) 2 : Nat), .int .u64 (limb (a) 3 : Nat), .bool i]) ∧ Below w.heap.size w w') := fun g w h => by have k := pneg_any g x y i hy w h; rw [← ea] at k; exact k
  rw [← ea]
  clear ea hy
  have H0 : Hid (GlobP ((w.alloc (.cells #[.int .u64 (limb x 0 : Nat), .int .u64 (limb x 1 : Nat), .int .u64 (limb x 2 : Nat), .int .u64 (limb x 3 : Nat), .int .u64 (limb y 0 : Nat), .int .u64 (limb y 1 : Nat), .int .u64 (limb y 2 : Nat), .int .u64 (limb y 3 : Nat), .bool i] 26)).alloc (.cells #[.int .u64 0, .int .u64 0, .int .u64 0, .int .u64 0, .int .u64 0, .int .u64 0, .int .u64 0, .int .u64 0, .bool false] 26)) ∧ PointO ((w.alloc (.cells #[.int .u64 (limb x 0 : Nat), .int .u64 (limb x 1 : Nat), .int .u64 (limb x 2 : Nat), .int .u64 (limb x 3 : Nat), .int .u64 (limb y 0 : Nat), .int .u64 (limb y 1 : Nat), .int .u64 (limb y 2 : Nat), .int .u64 (limb y 3 : Nat), .bool i] 26)).alloc (.cells #[.int .u64 0, .int .u64 0, .int .u64 0, .int .u64 0, .int .u64 0, .int .u64 0, .int .u64 0, .int .u64 0, .bool false] 26)) w.heap.size x y i ∧ PtZ ((w.alloc (.cells #[.int .u64 (limb x 0 : Nat), .int .u64 (limb x 1 : Nat), .int .u64 (limb x 2 : Nat), .int .u64 (limb x 3 : Nat), .int .u64 (limb y 0 : Nat), .int .u64 (limb y 1 : Nat), .int .u64 (limb y 2 : Nat), .int .u64 (limb y 3 : Nat), .bool i] 26)).alloc (.cells #[.int .u64 0, .int .u64 0, .int .u64 0, .int .u64 0, .int .u64 0, .int .u64 0, .int .u64 0, .int .u64 0, .bool false] 26)) (w.heap.size + 1) ∧ Below w.heap.size w ((w.alloc (.cells #[.int .u64 (limb x 0 : Nat), .int .u64 (limb x 1 : Nat), .int .u64 (limb x 2 : Nat), .int .u64 (limb x 3 : Nat), .int .u64 (limb y 0 : Nat), .int .u64 (limb y 1 : Nat), .int .u64 (limb y 2 : Nat), .int .u64 (limb y 3 : Nat), .bool i] 26)).alloc (.cells #[.int .u64 0, .int .u64 0, .int .u64 0, .int .u64 0, .int .u64 0, .int .u64 0, .int .u64 0, .int .u64 0, .bool false] 26))) := ⟨hG.alloc.alloc, (PointO.new _ _ _ _ rfl).alloc, PtZ.new _ (by simp), below_alloc0 (below_alloc0 (Below.refl _ _) _) _⟩
  clear hG hX hY hk
  go_enter Tryd.func11, Tryd.ntmps11
  go_wp2_with fail
  refine (KN.out _ H0.out.1).mono ?_
  rintro e w1 ⟨g, rfl, hF, hb⟩
  have H1 : Hid (FieldB w1 g PP ∧ PointO w1 w.heap.size x y i ∧ PtZ w1 (w.heap.size + 1) ∧ Below w.heap.size w w1) := ⟨hF, H0.out.2.1.call hb, H0.out.2.2.1.call hb, below_call0 H0.out.2.2.2 hb⟩
  clear hF hb H0 KN
  go_wp2_with fail
  refine (KC.out g _ _ H1.out.1.alloc H1.out.2.1.alloc).mono ?_
  rintro e w2 ⟨rfl, hb⟩
  have H2 : Hid (FieldB w2 g PP ∧ PointO w2 w.heap.size x y i ∧ PtZ w2 (w.heap.size + 1) ∧ PlB w2 w1.heap.size g ∧ Below w.heap.size w w2) := ⟨H1.out.1.alloc.call hb, H1.out.2.1.alloc.call hb, H1.out.2.2.1.alloc.call hb, (PlB.new _ _ _).call hb, below_call0 (below_alloc0 H1.out.2.2.2 _) hb⟩
  clear hb H1 KC
  obtain ⟨q0, qz⟩ := H2.out.2.2.2.1
  obtain ⟨pz, p0, p1, p2, p3, p4, p5, p6, p7, p8, fp⟩ := H2.out.2.1
  go_wp2_with fail
  clear q0 qz pz p0 p1 p2 p3 p4 p5 p6 p7 p8 fp
  refine (KM.out g _ H2.out.1).mono ?_
  rintro e w3 ⟨rfl, hb⟩
  have H3 : Hid (PtZ w3 (w.heap.size + 1) ∧ Below w.heap.size w w3) := ⟨H2.out.2.2.1.call hb, below_call0 H2.out.2.2.2.2 hb⟩
  clear hb H2 KM
  obtain ⟨rz, r0, r1, r2, r3, r4, r5, r6, r7, r8, fr⟩ := H3.out.1
  go_wp2_with fail
  clear rz r0 r1 r2 r3 r4 r5 r6 r7 r8 fr
  obtain ⟨w4, hw4⟩ : ∃ z, z = (((((((((w3.setCell ⟨(w.heap.size + 1), 0, none⟩ (.int .u64 (limb x 0 : Nat))).setCell ⟨(w.heap.size + 1), 1, none⟩ (.int .u64 (limb x 1 : Nat))).setCell ⟨(w.heap.size + 1), 2, none⟩ (.int .u64 (limb x 2 : Nat))).setCell ⟨(w.heap.size + 1), 3, none⟩ (.int .u64 (limb x 3 : Nat))).setCell ⟨(w.heap.size + 1), 4, none⟩ (.int .u64 (limb a 0 : Nat))).setCell ⟨(w.heap.size + 1), 5, none⟩ (.int .u64 (limb a 1 : Nat))).setCell ⟨(w.heap.size + 1), 6, none⟩ (.int .u64 (limb a 2 : Nat))).setCell ⟨(w.heap.size + 1), 7, none⟩ (.int .u64 (limb a 3 : Nat))).setCell ⟨(w.heap.size + 1), 8, none⟩ (.bool i)) := ⟨_, rfl⟩
  have H4 : PointO w4 (w.heap.size + 1) x a i ∧ Below w.heap.size w w4 := by
    rw [hw4]
    exact ⟨H3.out.1.put, below_put9 H3.out.2 (Nat.le_succ _)⟩
  rw [← hw4]
  clear hw4
  obtain ⟨⟨rz, r0, r1, r2, r3, r4, r5, r6, r7, r8, fr⟩, hB⟩ := H4
  refine bodyPost_ret (v := .tuple #[.agg #[.int .u64 (limb (x) 0 : Nat), .int .u64 (limb (x) 1 : Nat), .int .u64 (limb (x) 2 : Nat), .int .u64 (limb (x) 3 : Nat), .int .u64 (limb (a) 0 : Nat), .int .u64 (limb (a) 1 : Nat), .int .u64 (limb (a) 2 : Nat), .int .u64 (limb (a) 3 : Nat), .bool i], .int .i64 0]) ?_ rfl ⟨rfl, hB⟩
  simp [results, Tryd.results11, go_sem, r0, r1, r2, r3, r4, r5, r6, r7, r8]
end Go.Proofs.YtgmfecncfekjfaaDoor

namespace Go.Proofs.YtgmfecncfekjfaaDoor
open Go Go.RowKit Go.Lib

theorem SpotB.new (w : World) (g x y z : Nat) {t : TypeId} : SpotB (w.alloc (.cells #[.pointer (some ⟨g, 0, none⟩), .int .u64 (limb x 0 : Nat), .int .u64 (limb x 1 : Nat), .int .u64 (limb x 2 : Nat), .int .u64 (limb x 3 : Nat), .int .u64 (limb y 0 : Nat), .int .u64 (limb y 1 : Nat), .int .u64 (limb y 2 : Nat), .int .u64 (limb y 3 : Nat), .int .u64 (limb z 0 : Nat), .int .u64 (limb z 1 : Nat), .int .u64 (limb z 2 : Nat), .int .u64 (limb z 3 : Nat)] t)) w.heap.size g x y z :=
  ⟨by simp, by rw [World.cell?_alloc_new]; rfl, by rw [World.cell?_alloc_new]; rfl, by rw [World.cell?_alloc_new]; rfl, by rw [World.cell?_alloc_new]; rfl, by rw [World.cell?_alloc_new]; rfl, by rw [World.cell?_alloc_new]; rfl, by rw [World.cell?_alloc_new]; rfl, by rw [World.cell?_alloc_new]; rfl, by rw [World.cell?_alloc_new]; rfl, by rw [World.cell?_alloc_new]; rfl, by rw [World.cell?_alloc_new]; rfl, by rw [World.cell?_alloc_new]; rfl, by rw [World.cell?_alloc_new]; rfl, fun o => World.frozen?_alloc_new _ _ _ _⟩
theorem PointO.but {s b x y : Nat} {i : Bool} {w w' : World} (hb : ButC s w w') (h : PointO w b x y i) (hn : b ≠ s) : PointO w' b x y i :=
  ⟨Nat.lt_of_lt_of_le h.lt hb.size, (hb.cell (p := ⟨b, 0, none⟩) h.lt hn).trans h.c0, (hb.cell (p := ⟨b, 1, none⟩) h.lt hn).trans h.c1, (hb.cell (p := ⟨b, 2, none⟩) h.lt hn).trans h.c2, (hb.cell (p := ⟨b, 3, none⟩) h.lt hn).trans h.c3, (hb.cell (p := ⟨b, 4, none⟩) h.lt hn).trans h.c4, (hb.cell (p := ⟨b, 5, none⟩) h.lt hn).trans h.c5, (hb.cell (p := ⟨b, 6, none⟩) h.lt hn).trans h.c6, (hb.cell (p := ⟨b, 7, none⟩) h.lt hn).trans h.c7, (hb.cell (p := ⟨b, 8, none⟩) h.lt hn).trans h.c8, fun o => (hb.frozen (p := ⟨b, o, none⟩) h.lt hn).trans (h.fz o)⟩
theorem PtZ.but {s b : Nat} {w w' : World} (hb : ButC s w w') (h : PtZ w b) (hn : b ≠ s) : PtZ w' b :=
  ⟨Nat.lt_of_lt_of_le h.lt hb.size, (hb.cell (p := ⟨b, 0, none⟩) h.lt hn).trans h.c0, (hb.cell (p := ⟨b, 1, none⟩) h.lt hn).trans h.c1, (hb.cell (p := ⟨b, 2, none⟩) h.lt hn).trans h.c2, (hb.cell (p := ⟨b, 3, none⟩) h.lt hn).trans h.c3, (hb.cell (p := ⟨b, 4, none⟩) h.lt hn).trans h.c4, (hb.cell (p := ⟨b, 5, none⟩) h.lt hn).trans h.c5, (hb.cell (p := ⟨b, 6, none⟩) h.lt hn).trans h.c6, (hb.cell (p := ⟨b, 7, none⟩) h.lt hn).trans h.c7, (hb.cell (p := ⟨b, 8, none⟩) h.lt hn).trans h.c8, fun o => (hb.frozen (p := ⟨b, o, none⟩) h.lt hn).trans (h.fz o)⟩
set_option maxRecDepth 100000 in
set_option maxHeartbeats 2000000 in
theorem Add_ok (x y u v : Nat) (i j : Bool) (hX : x < R256) (hY : y < R256) (hU : u < R256) (hV : v < R256) (hk : ptOk x y i = true) (hl : ptOk u v j = true) (Sp : World → Nat → Nat → Prop) (x0 y0 z0 X Y : Nat) (I : Bool)
    (ka : ∀ (g : Nat) (w : World) (b : Nat), PointO w b x y i → Calls Tryd.prog 30 #[.agg #[.pointer (some ⟨g, 0, none⟩)], .pointer (some ⟨b, 0, none⟩)] w fun e w' => e = .returned (.agg #[.pointer (some ⟨g, 0, none⟩), .int .u64 (limb (x0) 0 : Nat), .int .u64 (limb (x0) 1 : Nat), .int .u64 (limb (x0) 2 : Nat), .int .u64 (limb (x0) 3 : Nat), .int .u64 (limb (y0) 0 : Nat), .int .u64 (limb (y0) 1 : Nat), .int .u64 (limb (y0) 2 : Nat), .int .u64 (limb (y0) 3 : Nat), .int .u64 (limb (z0) 0 : Nat), .int .u64 (limb (z0) 1 : Nat), .int .u64 (limb (z0) 2 : Nat), .int .u64 (limb (z0) 3 : Nat)]) ∧ Below w.heap.size w w')
    (kd : ∀ (g : Nat) (w : World) (s b : Nat), s ≠ g → s ≠ b → FieldB w g PP → SpotB w s g x0 y0 z0 → GTH w → PointO w b u v j → Calls Tryd.prog 31 #[.pointer (some ⟨s, 0, none⟩), .pointer (some ⟨b, 0, none⟩)] w fun e w' => e = .returned (.tuple #[]) ∧ Sp w' s g ∧ ButC s w w')
    (kp : ∀ (g : Nat) (w : World) (s : Nat), FieldB w g PP → Sp w s g → Calls Tryd.prog 32 #[.pointer (some ⟨s, 0, none⟩)] w fun e w' => e = .returned (.agg #[.int .u64 (limb (X) 0 : Nat), .int .u64 (limb (X) 1 : Nat), .int .u64 (limb (X) 2 : Nat), .int .u64 (limb (X) 3 : Nat), .int .u64 (limb (Y) 0 : Nat), .int .u64 (limb (Y) 1 : Nat), .int .u64 (limb (Y) 2 : Nat), .int .u64 (limb (Y) 3 : Nat), .bool I]) ∧ Below w.heap.size w w') (w : World) (hG : GlobP w) (hT : GTH w) :
    Calls Tryd.prog 9 #[.agg #[.int .u64 (limb (x) 0 : Nat), .int .u64 (limb (x) 1 : Nat), .int .u64 (limb (x) 2 : Nat), .int .u64 (limb (x) 3 : Nat), .int .u64 (limb (y) 0 : Nat), .int .u64 (limb (y) 1 : Nat), .int .u64 (limb (y) 2 : Nat), .int .u64 (limb (y) 3 : Nat), .bool i], .agg #[.int .u64 (limb (u) 0 : Nat), .int .u64 (limb (u) 1 : Nat), .int .u64 (limb (u) 2 : Nat), .int .u64 (limb (u) 3 : Nat), .int .u64 (limb (v) 0 : Nat), .int .u64 (limb (v) 1 : Nat), .int .u64 (limb (v) 2 : Nat), .int .u64 (limb (v) 3 : Nat), .bool j]] w fun e w' => e = .returned (.tuple #[.agg #[.int .u64 (limb (X) 0 : Nat), .int .u64 (limb (X) 1 : Nat), .int .u64 (limb (X) 2 : Nat), .int .u64 (limb (X) 3 : Nat), .int .u64 (limb (Y) 0 : Nat), .int .u64 (limb (Y) 1 : Nat), .int .u64 (limb (Y) 2 : Nat), .int .u64 (limb (Y) 3 : Nat), .bool I], .int .i64 0]) ∧ Below w.heap.size w w' := by
  have KN : Hid _ := fun (w : World) h => newPlane_P w h
  have KC : Hid (∀ (g : Nat) (w : World) (b : Nat), FieldB w g PP → PointO w b x y i → Calls Tryd.prog 29 #[.agg #[.pointer (some ⟨g, 0, none⟩)], .pointer (some ⟨b, 0, none⟩)] w fun e w' => e = .returned (.int .i64 0) ∧ Below w.heap.size w w') := fun g w b h1 h2 => pcheck_ok g b 0 x y i hX hY hk w h1 h2.pt
  have KE : Hid (∀ (g : Nat) (w : World) (b : Nat), FieldB w g PP → PointO w b u v j → Calls Tryd.prog 29 #[.agg #[.pointer (some ⟨g, 0, none⟩)], .pointer (some ⟨b, 0, none⟩)] w fun e w' => e = .returned (.int .i64 0) ∧ Below w.heap.size w w') := fun g w b h1 h2 => pcheck_ok g b 0 u v j hU hV hl w h1 h2.pt
  have KA : Hid _ := ka
  have KD : Hid _ := kd
  have KP : Hid _ := kp
  have HT : Hid (GTH w) := hT
  clear ka kd kp hT
  have H0 : Hid (GlobP (((w.alloc (.cells #[.int .u64 (limb x 0 : Nat), .int .u64 (limb x 1 : Nat), .int .u64 (limb x 2 : Nat), .int .u64 (limb x 3 : Nat), .int .u64 (limb y 0 : Nat), .int .u64 (limb y 1 : Nat), .int .u64 (limb y 2 : Nat), .int .u64 (limb y 3 : Nat), .bool i] 26)).alloc (.cells #[.int .u64 (limb u 0 : Nat), .int .u64 (limb u 1 : Nat), .int .u64 (limb u 2 : Nat), .int .u64 (limb u 3 : Nat), .int .u64 (limb v 0 : Nat), .int .u64 (limb v 1 : Nat), .int .u64 (limb v 2 : Nat), .int .u64 (limb v 3 : Nat), .bool j] 26)).alloc (.cells #[.int .u64 0, .int .u64 0, .int .u64 0, .int .u64 0, .int .u64 0, .int .u64 0, .int .u64 0, .int .u64 0, .bool false] 26)) ∧ PointO (((w.alloc (.cells #[.int .u64 (limb x 0 : Nat), .int .u64 (limb x 1 : Nat), .int .u64 (limb x 2 : Nat), .int .u64 (limb x 3 : Nat), .int .u64 (limb y 0 : Nat), .int .u64 (limb y 1 : Nat), .int .u64 (limb y 2 : Nat), .int .u64 (limb y 3 : Nat), .bool i] 26)).alloc (.cells #[.int .u64 (limb u 0 : Nat), .int .u64 (limb u 1 : Nat), .int .u64 (limb u 2 : Nat), .int .u64 (limb u 3 : Nat), .int .u64 (limb v 0 : Nat), .int .u64 (limb v 1 : Nat), .int .u64 (limb v 2 : Nat), .int .u64 (limb v 3 : Nat), .bool j] 26)).alloc (.cells #[.int .u64 0, .int .u64 0, .int .u64 0, .int .u64 0, .int .u64 0, .int .u64 0, .int .u64 0, .int .u64 0, .bool false] 26)) w.heap.size x y i ∧ PointO (((w.alloc (.cells #[.int .u64 (limb x 0 : Nat), .int .u64 (limb x 1 : Nat), .int .u64 (limb x 2 : Nat), .int .u64 (limb x 3 : Nat), .int .u64 (limb y 0 : Nat), .int .u64 (limb y 1 : Nat), .int .u64 (limb y 2 : Nat), .int .u64 (limb y 3 : Nat), .bool i] 26)).alloc (.cells #[.int .u64 (limb u 0 : Nat), .int .u64 (limb u 1 : Nat), .int .u64 (limb u 2 : Nat), .int .u64 (limb u 3 : Nat), .int .u64 (limb v 0 : Nat), .int .u64 (limb v 1 : Nat), .int .u64 (limb v 2 : Nat), .int .u64 (limb v 3 : Nat), .bool j] 26)).alloc (.cells #[.int .u64 0, .int .u64 0, .int .u64 0, .int .u64 0, .int .u64 0, .int .u64 0, .int .u64 0, .int .u64 0, .bool false] 26)) (w.heap.size + 1) u v j ∧ PtZ (((w.alloc (.cells #[.int .u64 (limb x 0 : Nat), .int .u64 (limb x 1 : Nat), .int .u64 (limb x 2 : Nat), .int .u64 (limb x 3 : Nat), .int .u64 (limb y 0 : Nat), .int .u64 (limb y 1 : Nat), .int .u64 (limb y 2 : Nat), .int .u64 (limb y 3 : Nat), .bool i] 26)).alloc (.cells #[.int .u64 (limb u 0 : Nat), .int .u64 (limb u 1 : Nat), .int .u64 (limb u 2 : Nat), .int .u64 (limb u 3 : Nat), .int .u64 (limb v 0 : Nat), .int .u64 (limb v 1 : Nat), .int .u64 (limb v 2 : Nat), .int .u64 (limb v 3 : Nat), .bool j] 26)).alloc (.cells #[.int .u64 0, .int .u64 0, .int .u64 0, .int .u64 0, .int .u64 0, .int .u64 0, .int .u64 0, .int .u64 0, .bool false] 26)) (w.heap.size + 1 + 1) ∧ Below w.heap.size w (((w.alloc (.cells #[.int .u64 (limb x 0 : Nat), .int .u64 (limb x 1 : Nat), .int .u64 (limb x 2 : Nat), .int .u64 (limb x 3 : Nat), .int .u64 (limb y 0 : Nat), .int .u64 (limb y 1 : Nat), .int .u64 (limb y 2 : Nat), .int .u64 (limb y 3 : Nat), .bool i] 26)).alloc (.cells #[.int .u64 (limb u 0 : Nat), .int .u64 (limb u 1 : Nat), .int .u64 (limb u 2 : Nat), .int .u64 (limb u 3 : Nat), .int .u64 (limb v 0 : Nat), .int .u64 (limb v 1 : Nat), .int .u64 (limb v 2 : Nat), .int .u64 (limb v 3 : Nat), .bool j] 26)).alloc (.cells #[.int .u64 0, .int .u64 0, .int .u64 0, .int .u64 0, .int .u64 0, .int .u64 0, .int .u64 0, .int .u64 0, .bool false] 26))) := ⟨hG.alloc.alloc.alloc, (PointO.new _ _ _ _ rfl).alloc.alloc, (PointO.new _ _ _ _ (by simp)).alloc, PtZ.new _ (by simp), below_alloc0 (below_alloc0 (below_alloc0 (Below.refl _ _) _) _) _⟩
  clear hG hX hY hk hU hV hl
  go_enter Tryd.func9, Tryd.ntmps9
  go_wp2_with fail
  refine (KN.out _ H0.out.1).mono ?_
  rintro e w1 ⟨g, rfl, hF, hb⟩
  have H1 : Hid (FieldB w1 g PP ∧ PointO w1 w.heap.size x y i ∧ PointO w1 (w.heap.size + 1) u v j ∧ PtZ w1 (w.heap.size + 1 + 1) ∧ Below w.heap.size w w1) := ⟨hF, H0.out.2.1.call hb, H0.out.2.2.1.call hb, H0.out.2.2.2.1.call hb, below_call0 H0.out.2.2.2.2 hb⟩
  clear hF hb H0 KN
  go_wp2_with fail
  refine (KC.out g _ _ H1.out.1.alloc H1.out.2.1.alloc).mono ?_
  rintro e w2 ⟨rfl, hb⟩
  have H2 : Hid (FieldB w2 g PP ∧ PointO w2 w.heap.size x y i ∧ PointO w2 (w.heap.size + 1) u v j ∧ PtZ w2 (w.heap.size + 1 + 1) ∧ PlB w2 w1.heap.size g ∧ Below w.heap.size w w2) := ⟨H1.out.1.alloc.call hb, H1.out.2.1.alloc.call hb, H1.out.2.2.1.alloc.call hb, H1.out.2.2.2.1.alloc.call hb, (PlB.new _ _ _).call hb, below_call0 (below_alloc0 H1.out.2.2.2.2 _) hb⟩
  clear hb H1 KC
  obtain ⟨q0, qz⟩ := H2.out.2.2.2.2.1
  go_wp2_with fail
  clear q0 qz
  refine (KE.out g _ _ H2.out.1 H2.out.2.2.1).mono ?_
  rintro e w3 ⟨rfl, hb⟩
  have H3 : Hid (FieldB w3 g PP ∧ PointO w3 w.heap.size x y i ∧ PointO w3 (w.heap.size + 1) u v j ∧ PtZ w3 (w.heap.size + 1 + 1) ∧ PlB w3 w1.heap.size g ∧ Below w.heap.size w w3) := ⟨H2.out.1.call hb, H2.out.2.1.call hb, H2.out.2.2.1.call hb, H2.out.2.2.2.1.call hb, H2.out.2.2.2.2.1.call hb, below_call0 H2.out.2.2.2.2.2 hb⟩
  clear hb H2 KE
  obtain ⟨q0, qz⟩ := H3.out.2.2.2.2.1
  go_wp2_with fail
  clear q0 qz
  refine (KA.out g _ _ H3.out.2.1).mono ?_
  rintro e w4 ⟨rfl, hb⟩
  have H4 : Hid (FieldB w4 g PP ∧ PointO w4 w.heap.size x y i ∧ PointO w4 (w.heap.size + 1) u v j ∧ PtZ w4 (w.heap.size + 1 + 1) ∧ PlB w4 w1.heap.size g ∧ Below w.heap.size w w4) := ⟨H3.out.1.call hb, H3.out.2.1.call hb, H3.out.2.2.1.call hb, H3.out.2.2.2.1.call hb, H3.out.2.2.2.2.1.call hb, below_call0 H3.out.2.2.2.2.2 hb⟩
  clear hb H3 KA
  go_wp2_with fail
  have hS := SpotB.new w4 g x0 y0 z0 (t := 66)
  have hlt : w.heap.size + 1 + 1 < w4.heap.size := H4.out.2.2.2.1.lt
  have hne : w4.heap.size ≠ g := Nat.ne_of_gt H4.out.1.2.2
  have HN : Hid (w4.heap.size ≠ g ∧ w.heap.size ≤ w4.heap.size ∧ w.heap.size + 1 + 1 ≠ w4.heap.size) := ⟨hne, by omega, by omega⟩
  have HT4 : Hid (GTH w4) := HT.out.call H4.out.2.2.2.2.2
  refine (KD.out g _ w4.heap.size (w.heap.size + 1) hne (by omega) H4.out.1.alloc hS (HT4.out.call (below_alloc0 (Below.refl _ _) _)) H4.out.2.2.1.alloc).mono ?_
  rintro e w5 ⟨rfl, hs, hb⟩
  have H5 : Hid (FieldB w5 g PP ∧ Sp w5 w4.heap.size g ∧ PtZ w5 (w.heap.size + 1 + 1) ∧ Below w.heap.size w w5) :=
    ⟨hb.field H4.out.1.alloc (fun c => hne c.symm), hs, PtZ.but hb H4.out.2.2.2.1.alloc HN.out.2.2, (below_alloc0 H4.out.2.2.2.2.2 _).trans (hb.below (by simp only [World.size_alloc]; omega) HN.out.2.1)⟩
  clear hs hb hS hlt hne HT4 HT H4 KD
  go_wp2_with fail
  refine (KP.out g _ _ H5.out.1 H5.out.2.1).mono ?_
  rintro e w6 ⟨rfl, hb⟩
  have H3 : Hid (PtZ w6 (w.heap.size + 1 + 1) ∧ Below w.heap.size w w6) := ⟨H5.out.2.2.1.call hb, below_call0 H5.out.2.2.2 hb⟩
  clear hb H5 KP
  obtain ⟨rz, r0, r1, r2, r3, r4, r5, r6, r7, r8, fr⟩ := H3.out.1
  go_wp2_with fail
  clear rz r0 r1 r2 r3 r4 r5 r6 r7 r8 fr
  obtain ⟨w7, hw7⟩ : ∃ z, z = (((((((((w6.setCell ⟨(w.heap.size + 1 + 1), 0, none⟩ (.int .u64 (limb X 0 : Nat))).setCell ⟨(w.heap.size + 1 + 1), 1, none⟩ (.int .u64 (limb X 1 : Nat))).setCell ⟨(w.heap.size + 1 + 1), 2, none⟩ (.int .u64 (limb X 2 : Nat))).setCell ⟨(w.heap.size + 1 + 1), 3, none⟩ (.int .u64 (limb X 3 : Nat))).setCell ⟨(w.heap.size + 1 + 1), 4, none⟩ (.int .u64 (limb Y 0 : Nat))).setCell ⟨(w.heap.size + 1 + 1), 5, none⟩ (.int .u64 (limb Y 1 : Nat))).setCell ⟨(w.heap.size + 1 + 1), 6, none⟩ (.int .u64 (limb Y 2 : Nat))).setCell ⟨(w.heap.size + 1 + 1), 7, none⟩ (.int .u64 (limb Y 3 : Nat))).setCell ⟨(w.heap.size + 1 + 1), 8, none⟩ (.bool I)) := ⟨_, rfl⟩
  have H7 : PointO w7 (w.heap.size + 1 + 1) X Y I ∧ Below w.heap.size w w7 := by
    rw [hw7]
    exact ⟨H3.out.1.put, below_put9 H3.out.2 (Nat.le_succ_of_le (Nat.le_succ _))⟩
  rw [← hw7]
  clear hw7
  obtain ⟨⟨rz, r0, r1, r2, r3, r4, r5, r6, r7, r8, fr⟩, hB⟩ := H7
  refine bodyPost_ret (v := .tuple #[.agg #[.int .u64 (limb (X) 0 : Nat), .int .u64 (limb (X) 1 : Nat), .int .u64 (limb (X) 2 : Nat), .int .u64 (limb (X) 3 : Nat), .int .u64 (limb (Y) 0 : Nat), .int .u64 (limb (Y) 1 : Nat), .int .u64 (limb (Y) 2 : Nat), .int .u64 (limb (Y) 3 : Nat), .bool I], .int .i64 0]) ?_ rfl ⟨rfl, hB⟩
  simp [results, Tryd.results9, go_sem, r0, r1, r2, r3, r4, r5, r6, r7, r8]
end Go.Proofs.YtgmfecncfekjfaaDoor
