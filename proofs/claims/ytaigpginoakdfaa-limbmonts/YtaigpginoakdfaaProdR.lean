/- wardmoteref01.Product and wardmoteref01.To: a product mod a number, and a number with R, by the reference's digits. -/
import Derived.Test.YtaigpginoakdfaaRest
import Derived.Test.YtaigpginoakdfaaTimes
import Derived.Test.YtaigpginoakdfaaDgs
import Derived.Test.YtaigpginoakdfaaSubR
import Derived.Deep.DeepCutAuto
import Derived.Deep.RegionHeld3
import Derived.Deep.RegionWith
namespace Go.Proofs.Ytaigpginoakdfaa
open Go.RowKit

set_option maxRecDepth 100000 in
set_option maxHeartbeats 4000000 in
theorem product_ref (a b m : Nat) (ha : a < R256) (hb : b < R256) (h0 : 0 < m) (hm : m < R256) (w : World) :
    Calls Try.prog 32 #[.agg #[.int .u64 (limb (a) 0 : Nat), .int .u64 (limb (a) 1 : Nat), .int .u64 (limb (a) 2 : Nat), .int .u64 (limb (a) 3 : Nat)], .agg #[.int .u64 (limb (b) 0 : Nat), .int .u64 (limb (b) 1 : Nat), .int .u64 (limb (b) 2 : Nat), .int .u64 (limb (b) 3 : Nat)], .agg #[.int .u64 (limb (m) 0 : Nat), .int .u64 (limb (m) 1 : Nat), .int .u64 (limb (m) 2 : Nat), .int .u64 (limb (m) 3 : Nat)]] w fun e w' => e = .returned (.agg #[.int .u64 (limb (a * b % m) 0 : Nat), .int .u64 (limb (a * b % m) 1 : Nat), .int .u64 (limb (a * b % m) 2 : Nat), .int .u64 (limb (a * b % m) 3 : Nat)]) ∧ Below w.heap.size w w' := by
  obtain ⟨r, hr⟩ : ∃ r, r = a * b % m := ⟨_, rfl⟩
  rw [← hr]
  have HA : Hid (dval (digL a 16) = a ∧ dval (digL b 16) = b ∧ dval (digL m 16) = m ∧ m < R256 ∧ 0 < m ∧ r = a * b % m ∧ r < R256) := ⟨dval_digL16 a ha, dval_digL16 b hb, dval_digL16 m hm, hm, h0, hr, by rw [hr]; exact Nat.lt_trans (Nat.mod_lt _ h0) hm⟩
  clear h0 hm hr ha hb
  go_enter Try.func32, Try.ntmps32
  go_wp2_with fail
  obtain ⟨X, hX⟩ : ∃ X, X = ((w.alloc (.cells #[.int .u64 (limb a 0 : Nat), .int .u64 (limb a 1 : Nat), .int .u64 (limb a 2 : Nat), .int .u64 (limb a 3 : Nat)] 24)).alloc (.cells #[.int .u64 (limb b 0 : Nat), .int .u64 (limb b 1 : Nat), .int .u64 (limb b 2 : Nat), .int .u64 (limb b 3 : Nat)] 24)).alloc (.cells #[.int .u64 (limb m 0 : Nat), .int .u64 (limb m 1 : Nat), .int .u64 (limb m 2 : Nat), .int .u64 (limb m 3 : Nat)] 24) := ⟨_, rfl⟩
  rw [← hX]
  obtain ⟨Y, hY⟩ : ∃ Y, Y = X.alloc (.cells #[.int .u64 0, .int .u64 0, .int .u64 0, .int .u64 0] 24) := ⟨_, rfl⟩
  rw [← hY]
  have AX : Num4 X w.heap.size a := by rw [hX]; ((repeat' (first | assumption | (refine Num4.new' ?_; first | omega | (simp; done)) | refine Num4.set ?_ ?_ | refine Num4.alloc ?_ ?_ | refine Num4.drewN ?_ | refine Num4.call ?_ (by assumption) ?_)) <;> (first | omega | (simp; done) | (simp; omega)))
  have BX : Num4 X (w.heap.size + 1) b := by rw [hX]; ((repeat' (first | assumption | (refine Num4.new' ?_; first | omega | (simp; done)) | refine Num4.set ?_ ?_ | refine Num4.alloc ?_ ?_ | refine Num4.drewN ?_ | refine Num4.call ?_ (by assumption) ?_)) <;> (first | omega | (simp; done) | (simp; omega)))
  have MX : Num4 X (w.heap.size + 1 + 1) m := by rw [hX]; ((repeat' (first | assumption | (refine Num4.new' ?_; first | omega | (simp; done)) | refine Num4.set ?_ ?_ | refine Num4.alloc ?_ ?_ | refine Num4.drewN ?_ | refine Num4.call ?_ (by assumption) ?_)) <;> (first | omega | (simp; done) | (simp; omega)))
  have zx : w.heap.size + 1 + 1 < X.heap.size := by rw [hX]; simp
  have zl : X.heap.size ≤ w.heap.size + 1 + 1 + 1 := by rw [hX]; simp
  have PY : Pend Y (w.heap.size + 1 + 1 + 1) := by
    rw [hY]
    have h := Pend.new X 24
    rw [show X.heap.size = w.heap.size + 1 + 1 + 1 from by omega] at h
    exact h
  have BXY : Below X.heap.size X Y := by rw [hY]; ((repeat' (first | with_reducible exact Below.refl _ _ | with_reducible refine Below.setCell ?_ ?_ _ | with_reducible refine below_alloc0 ?_ _ | with_reducible refine below_drewN ?_ _ | with_reducible refine Below.drew ?_ | refine below_call0 ?_ (by assumption))) <;> (first | omega | (simp; done) | (simp; omega)))
  have WX : Below w.heap.size w X := by rw [hX]; ((repeat' (first | with_reducible exact Below.refl _ _ | with_reducible refine Below.setCell ?_ ?_ _ | with_reducible refine below_alloc0 ?_ _ | with_reducible refine below_drewN ?_ _ | with_reducible refine Below.drew ?_ | refine below_call0 ?_ (by assumption))) <;> (first | omega | (simp; done) | (simp; omega)))
  clear hX hY
  have HK : Hid (∀ w', Below X.heap.size X w' → (Below X.heap.size X w' ∧ (w'.cell? ⟨w.heap.size, 0, none⟩ = some (.int .u64 (limb (a) 0 : Nat)) ∧ w'.cell? ⟨w.heap.size, 1, none⟩ = some (.int .u64 (limb (a) 1 : Nat)) ∧ w'.cell? ⟨w.heap.size, 2, none⟩ = some (.int .u64 (limb (a) 2 : Nat)) ∧ w'.cell? ⟨w.heap.size, 3, none⟩ = some (.int .u64 (limb (a) 3 : Nat))) ∧ (w'.cell? ⟨w.heap.size + 1, 0, none⟩ = some (.int .u64 (limb (b) 0 : Nat)) ∧ w'.cell? ⟨w.heap.size + 1, 1, none⟩ = some (.int .u64 (limb (b) 1 : Nat)) ∧ w'.cell? ⟨w.heap.size + 1, 2, none⟩ = some (.int .u64 (limb (b) 2 : Nat)) ∧ w'.cell? ⟨w.heap.size + 1, 3, none⟩ = some (.int .u64 (limb (b) 3 : Nat))) ∧ (w'.cell? ⟨w.heap.size + 1 + 1, 0, none⟩ = some (.int .u64 (limb (m) 0 : Nat)) ∧ w'.cell? ⟨w.heap.size + 1 + 1, 1, none⟩ = some (.int .u64 (limb (m) 1 : Nat)) ∧ w'.cell? ⟨w.heap.size + 1 + 1, 2, none⟩ = some (.int .u64 (limb (m) 2 : Nat)) ∧ w'.cell? ⟨w.heap.size + 1 + 1, 3, none⟩ = some (.int .u64 (limb (m) 3 : Nat))))) := fun w' h =>
    ⟨h, (AX.call h (by omega)).facts, (BX.call h (by omega)).facts, (MX.call h (by omega)).facts⟩
  have HP : Hid (∀ w', Below Y.heap.size Y w' → Pend w' (w.heap.size + 1 + 1 + 1)) := fun w' h => PY.call h
  clear AX BX MX PY
  go_region_held3 (fun w' => Below X.heap.size X w' ∧ (w'.cell? ⟨w.heap.size, 0, none⟩ = some (.int .u64 (limb (a) 0 : Nat)) ∧ w'.cell? ⟨w.heap.size, 1, none⟩ = some (.int .u64 (limb (a) 1 : Nat)) ∧ w'.cell? ⟨w.heap.size, 2, none⟩ = some (.int .u64 (limb (a) 2 : Nat)) ∧ w'.cell? ⟨w.heap.size, 3, none⟩ = some (.int .u64 (limb (a) 3 : Nat))) ∧ (w'.cell? ⟨w.heap.size + 1, 0, none⟩ = some (.int .u64 (limb (b) 0 : Nat)) ∧ w'.cell? ⟨w.heap.size + 1, 1, none⟩ = some (.int .u64 (limb (b) 1 : Nat)) ∧ w'.cell? ⟨w.heap.size + 1, 2, none⟩ = some (.int .u64 (limb (b) 2 : Nat)) ∧ w'.cell? ⟨w.heap.size + 1, 3, none⟩ = some (.int .u64 (limb (b) 3 : Nat))) ∧ (w'.cell? ⟨w.heap.size + 1 + 1, 0, none⟩ = some (.int .u64 (limb (m) 0 : Nat)) ∧ w'.cell? ⟨w.heap.size + 1 + 1, 1, none⟩ = some (.int .u64 (limb (m) 1 : Nat)) ∧ w'.cell? ⟨w.heap.size + 1 + 1, 2, none⟩ = some (.int .u64 (limb (m) 2 : Nat)) ∧ w'.cell? ⟨w.heap.size + 1 + 1, 3, none⟩ = some (.int .u64 (limb (m) 3 : Nat))))
    ((refine HK.out _ ?_; ((repeat' (first | with_reducible exact BXY | with_reducible exact Below.refl _ _ | exact (And.left (by assumption)) | with_reducible refine Below.setCell ?_ ?_ _ | with_reducible refine below_alloc0 ?_ _ | with_reducible refine below_drewN ?_ _ | with_reducible refine Below.drew ?_ | refine below_call0 ?_ (by assumption))) <;> (first | omega | (simp; done) | (simp; omega)))))
    (first
      | (go_at_call_of 12 (limb a 0); refine (digits_any a _).mono ?_; rintro e w1 ⟨va, rfl, da, hq1⟩; have C1 : Below Y.heap.size Y w1 := below_call0 (by first | exact Below.refl _ _ | exact Below.drew (Below.refl _ _) | exact below_drewN (Below.refl _ _) _) hq1; have DA : Hid _ := da; clear da)
      | (go_at_call_of 12 (limb b 0); refine (digits_any b _).mono ?_; rintro e w2 ⟨vb, rfl, db, hq2⟩; have C2 : Below Y.heap.size Y w2 := below_call0 (by first | exact C1 | exact Below.drew C1 | exact below_drewN C1 _) hq2; have da2 := Dg.call DA.out hq2; have DB : Hid _ := And.intro da2 db; clear da2 db)
      | (go_at_call 18; refine (times_ref _ _ (digL a 16) (digL b 16) (digL_ok a 16) (digL_ok b 16) (by rw [digL_length]; omega) (by rw [digL_length]; omega) _ DB.out.1 DB.out.2).mono ?_; rintro e w3 ⟨x, l, rfl, dx, ⟨lok, llen, lval⟩, hq3⟩; have C3 : Below Y.heap.size Y w3 := below_call0 (by first | exact C2 | exact Below.drew C2 | exact below_drewN C2 _) hq3; rw [HA.out.1, HA.out.2.1] at lval; rw [digL_length, digL_length] at llen; have HL : Hid _ := And.intro lok (And.intro llen lval); have DL : Hid _ := dx; clear lok llen lval dx)
      | (go_at_call_of 12 (limb m 0); refine (digits_any m _).mono ?_; rintro e w4 ⟨vm, rfl, dm, hq4⟩; have C4 : Below Y.heap.size Y w4 := below_call0 (by first | exact C3 | exact Below.drew C3 | exact below_drewN C3 _) hq4; have dx2 := Dg.call DL.out hq4; have DM : Hid _ := And.intro dx2 dm; clear dx2 dm)
      | (go_at_call 44; refine (rest_ref _ _ _ (digL m 16) HL.out.1 (digL_ok m 16) (by rw [HL.out.2.1]; omega) (by rw [digL_length]; omega) (by rw [HA.out.2.2.1]; exact HA.out.2.2.2.1) (by rw [HA.out.2.2.1]; exact HA.out.2.2.2.2.1) _ DM.out.1 DM.out.2).mono ?_; rintro e w5 ⟨y, k, rfl, dy, ⟨kok, kval⟩, hq5⟩; have C5 : Below Y.heap.size Y w5 := below_call0 (by first | exact C4 | exact Below.drew C4 | exact below_drewN C4 _) hq5; rw [HL.out.2.2, HA.out.2.2.1, ← HA.out.2.2.2.2.2.1] at kval; have HX : Hid _ := And.intro kok (And.intro dy kval); clear kok dy kval)
      | (go_at_call 14; have KN := num_ref _ _ HX.out.1 _ HX.out.2.1; rw [dpre16 (by rw [HX.out.2.2]; exact HA.out.2.2.2.2.2.2), HX.out.2.2] at KN; refine KN.mono ?_; clear KN; rintro e w6 ⟨rfl, hq6⟩; have C6 : Below Y.heap.size Y w6 := below_call0 (by first | exact C5 | exact Below.drew C5 | exact below_drewN C5 _) hq6; have P6 := HP.out _ C6; obtain ⟨⟨p0, p1, p2, p3⟩, ⟨f0, f1, f2, f3⟩, pz⟩ := P6.facts))
  all_goals
    go_wp2
    refine bodyPost_ret (v := .agg #[.int .u64 (limb (r) 0 : Nat), .int .u64 (limb (r) 1 : Nat), .int .u64 (limb (r) 2 : Nat), .int .u64 (limb (r) 3 : Nat)]) ?_ rfl ⟨rfl, ?_⟩
    · simp [results, Try.results32, go_sem, p0, p1, p2, p3]
    · have W6 : Below w.heap.size w _ := below_call0 WX (And.left (by assumption))
      ((repeat' (first | with_reducible exact Below.refl _ _ | with_reducible refine Below.setCell ?_ ?_ _ | with_reducible refine below_alloc0 ?_ _ | with_reducible refine below_drewN ?_ _ | with_reducible refine Below.drew ?_ | refine below_call0 ?_ (by assumption))) <;> (first | omega | (simp; done) | (simp; omega)))
set_option maxRecDepth 100000 in
set_option maxHeartbeats 4000000 in
theorem to_ref (a m : Nat) (ha : a < R256) (h0 : 0 < m) (hm : m < R256) (w : World) :
    Calls Try.prog 31 #[.agg #[.int .u64 (limb (a) 0 : Nat), .int .u64 (limb (a) 1 : Nat), .int .u64 (limb (a) 2 : Nat), .int .u64 (limb (a) 3 : Nat)], .agg #[.int .u64 (limb (m) 0 : Nat), .int .u64 (limb (m) 1 : Nat), .int .u64 (limb (m) 2 : Nat), .int .u64 (limb (m) 3 : Nat)]] w fun e w' => e = .returned (.agg #[.int .u64 (limb (a * R256 % m) 0 : Nat), .int .u64 (limb (a * R256 % m) 1 : Nat), .int .u64 (limb (a * R256 % m) 2 : Nat), .int .u64 (limb (a * R256 % m) 3 : Nat)]) ∧ Below w.heap.size w w' := by
  obtain ⟨r, hr⟩ : ∃ r, r = a * R256 % m := ⟨_, rfl⟩
  rw [← hr]
  have HA : Hid (dval (digL a 16) = a ∧ dval (digL m 16) = m ∧ m < R256 ∧ 0 < m ∧ r = a * R256 % m ∧ r < R256) := ⟨dval_digL16 a ha, dval_digL16 m hm, hm, h0, hr, by rw [hr]; exact Nat.lt_trans (Nat.mod_lt _ h0) hm⟩
  have hmk : ∀ w, (Instr.makeSlice 27 (.int .i64 17) (.int .i64 17)).run Try.prog w = .ok (.slice (some ⟨w.heap.size, 0, none⟩) 17 17) (w.alloc (.cells #[.int .i64 0, .int .i64 0, .int .i64 0, .int .i64 0, .int .i64 0, .int .i64 0, .int .i64 0, .int .i64 0, .int .i64 0, .int .i64 0, .int .i64 0, .int .i64 0, .int .i64 0, .int .i64 0, .int .i64 0, .int .i64 0, .int .i64 0] 3)) := fun _ => by kernel_rfl
  clear h0 hm hr ha
  go_enter Try.func31, Try.ntmps31
  go_wp2_with fail
  obtain ⟨X, hX⟩ : ∃ X, X = (w.alloc (.cells #[.int .u64 (limb a 0 : Nat), .int .u64 (limb a 1 : Nat), .int .u64 (limb a 2 : Nat), .int .u64 (limb a 3 : Nat)] 24)).alloc (.cells #[.int .u64 (limb m 0 : Nat), .int .u64 (limb m 1 : Nat), .int .u64 (limb m 2 : Nat), .int .u64 (limb m 3 : Nat)] 24) := ⟨_, rfl⟩
  rw [← hX]
  obtain ⟨Y, hY⟩ : ∃ Y, Y = X.alloc (.cells #[.int .u64 0, .int .u64 0, .int .u64 0, .int .u64 0] 24) := ⟨_, rfl⟩
  rw [← hY]
  obtain ⟨Z, hZ⟩ : ∃ Z, Z = Y.alloc (.cells #[.int .i64 0, .int .i64 0, .int .i64 0, .int .i64 0, .int .i64 0, .int .i64 0, .int .i64 0, .int .i64 0, .int .i64 0, .int .i64 0, .int .i64 0, .int .i64 0, .int .i64 0, .int .i64 0, .int .i64 0, .int .i64 0, .int .i64 1] 3) := ⟨_, rfl⟩
  rw [← hZ]
  have AX : Num4 X w.heap.size a := by rw [hX]; ((repeat' (first | assumption | (refine Num4.new' ?_; first | omega | (simp; done)) | refine Num4.set ?_ ?_ | refine Num4.alloc ?_ ?_ | refine Num4.drewN ?_ | refine Num4.call ?_ (by assumption) ?_)) <;> (first | omega | (simp; done) | (simp; omega)))
  have MX : Num4 X (w.heap.size + 1) m := by rw [hX]; ((repeat' (first | assumption | (refine Num4.new' ?_; first | omega | (simp; done)) | refine Num4.set ?_ ?_ | refine Num4.alloc ?_ ?_ | refine Num4.drewN ?_ | refine Num4.call ?_ (by assumption) ?_)) <;> (first | omega | (simp; done) | (simp; omega)))
  have zx : w.heap.size + 1 < X.heap.size := by rw [hX]; simp
  have zl : X.heap.size ≤ w.heap.size + 1 + 1 := by rw [hX]; simp
  have zy : Y.heap.size = w.heap.size + 1 + 1 + 1 := by rw [hY, hX]; simp
  have PZ : Pend Z (w.heap.size + 1 + 1) := by
    rw [hZ, hY]
    have h := Pend.new X 24
    rw [show X.heap.size = w.heap.size + 1 + 1 from by omega] at h
    exact h.alloc
  have DZ : Dg Z (.slice (some ⟨w.heap.size + 1 + 1 + 1, 0, none⟩) 17 17) overL := by rw [hZ, ← zy]; exact overL_dg Y
  have BXZ : Below X.heap.size X Z := by rw [hZ, hY]; ((repeat' (first | with_reducible exact Below.refl _ _ | with_reducible refine Below.setCell ?_ ?_ _ | with_reducible refine below_alloc0 ?_ _ | with_reducible refine below_drewN ?_ _ | with_reducible refine Below.drew ?_ | refine below_call0 ?_ (by assumption))) <;> (first | omega | (simp; done) | (simp; omega)))
  have WX : Below w.heap.size w X := by rw [hX]; ((repeat' (first | with_reducible exact Below.refl _ _ | with_reducible refine Below.setCell ?_ ?_ _ | with_reducible refine below_alloc0 ?_ _ | with_reducible refine below_drewN ?_ _ | with_reducible refine Below.drew ?_ | refine below_call0 ?_ (by assumption))) <;> (first | omega | (simp; done) | (simp; omega)))
  clear hX hY hZ zy hmk
  have HK : Hid (∀ w', Below X.heap.size X w' → (Below X.heap.size X w' ∧ (w'.cell? ⟨w.heap.size, 0, none⟩ = some (.int .u64 (limb (a) 0 : Nat)) ∧ w'.cell? ⟨w.heap.size, 1, none⟩ = some (.int .u64 (limb (a) 1 : Nat)) ∧ w'.cell? ⟨w.heap.size, 2, none⟩ = some (.int .u64 (limb (a) 2 : Nat)) ∧ w'.cell? ⟨w.heap.size, 3, none⟩ = some (.int .u64 (limb (a) 3 : Nat))) ∧ (w'.cell? ⟨w.heap.size + 1, 0, none⟩ = some (.int .u64 (limb (m) 0 : Nat)) ∧ w'.cell? ⟨w.heap.size + 1, 1, none⟩ = some (.int .u64 (limb (m) 1 : Nat)) ∧ w'.cell? ⟨w.heap.size + 1, 2, none⟩ = some (.int .u64 (limb (m) 2 : Nat)) ∧ w'.cell? ⟨w.heap.size + 1, 3, none⟩ = some (.int .u64 (limb (m) 3 : Nat))))) := fun w' h =>
    ⟨h, (AX.call h (by omega)).facts, (MX.call h (by omega)).facts⟩
  have HP : Hid (∀ w', Below Z.heap.size Z w' → Pend w' (w.heap.size + 1 + 1)) := fun w' h => PZ.call h
  have HZ : Hid _ := DZ
  clear AX MX PZ DZ
  go_region_held3 (fun w' => Below X.heap.size X w' ∧ (w'.cell? ⟨w.heap.size, 0, none⟩ = some (.int .u64 (limb (a) 0 : Nat)) ∧ w'.cell? ⟨w.heap.size, 1, none⟩ = some (.int .u64 (limb (a) 1 : Nat)) ∧ w'.cell? ⟨w.heap.size, 2, none⟩ = some (.int .u64 (limb (a) 2 : Nat)) ∧ w'.cell? ⟨w.heap.size, 3, none⟩ = some (.int .u64 (limb (a) 3 : Nat))) ∧ (w'.cell? ⟨w.heap.size + 1, 0, none⟩ = some (.int .u64 (limb (m) 0 : Nat)) ∧ w'.cell? ⟨w.heap.size + 1, 1, none⟩ = some (.int .u64 (limb (m) 1 : Nat)) ∧ w'.cell? ⟨w.heap.size + 1, 2, none⟩ = some (.int .u64 (limb (m) 2 : Nat)) ∧ w'.cell? ⟨w.heap.size + 1, 3, none⟩ = some (.int .u64 (limb (m) 3 : Nat))))
    ((refine HK.out _ ?_; ((repeat' (first | with_reducible exact BXZ | with_reducible exact Below.refl _ _ | exact (And.left (by assumption)) | with_reducible refine Below.setCell ?_ ?_ _ | with_reducible refine below_alloc0 ?_ _ | with_reducible refine below_drewN ?_ _ | with_reducible refine Below.drew ?_ | refine below_call0 ?_ (by assumption))) <;> (first | omega | (simp; done) | (simp; omega)))))
    (first
      | (go_at_call_of 12 (limb a 0); refine (digits_any a _).mono ?_; rintro e w1 ⟨va, rfl, da, hq1⟩; have C1 : Below Z.heap.size Z w1 := below_call0 (by first | exact Below.refl _ _ | exact Below.drew (Below.refl _ _) | exact below_drewN (Below.refl _ _) _) hq1; have DA : Hid _ := And.intro da (Dg.call HZ.out C1); clear da)
      | (go_at_call 18; refine (times_ref _ _ (digL a 16) overL (digL_ok a 16) overL_ok (by rw [digL_length]; omega) (by decide) _ DA.out.1 DA.out.2).mono ?_; rintro e w2 ⟨x, l, rfl, dx, ⟨lok, llen, lval⟩, hq2⟩; have C2 : Below Z.heap.size Z w2 := below_call0 (by first | exact C1 | exact Below.drew C1 | exact below_drewN C1 _) hq2; rw [HA.out.1, overL_val] at lval; rw [digL_length, show overL.length = 17 from rfl] at llen; have HL : Hid _ := And.intro lok (And.intro llen lval); have DL : Hid _ := dx; clear lok llen lval dx)
      | (go_at_call_of 12 (limb m 0); refine (digits_any m _).mono ?_; rintro e w3 ⟨vm, rfl, dm, hq3⟩; have C3 : Below Z.heap.size Z w3 := below_call0 (by first | exact C2 | exact Below.drew C2 | exact below_drewN C2 _) hq3; have dx2 := Dg.call DL.out hq3; have DM : Hid _ := And.intro dx2 dm; clear dx2 dm)
      | (go_at_call 44; refine (rest_ref _ _ _ (digL m 16) HL.out.1 (digL_ok m 16) (by rw [HL.out.2.1]; omega) (by rw [digL_length]; omega) (by rw [HA.out.2.1]; exact HA.out.2.2.1) (by rw [HA.out.2.1]; exact HA.out.2.2.2.1) _ DM.out.1 DM.out.2).mono ?_; rintro e w4 ⟨y, k, rfl, dy, ⟨kok, kval⟩, hq4⟩; have C4 : Below Z.heap.size Z w4 := below_call0 (by first | exact C3 | exact Below.drew C3 | exact below_drewN C3 _) hq4; rw [HL.out.2.2, HA.out.2.1, ← HA.out.2.2.2.2.1] at kval; have HX : Hid _ := And.intro kok (And.intro dy kval); clear kok dy kval)
      | (go_at_call 14; have KN := num_ref _ _ HX.out.1 _ HX.out.2.1; rw [dpre16 (by rw [HX.out.2.2]; exact HA.out.2.2.2.2.2), HX.out.2.2] at KN; refine KN.mono ?_; clear KN; rintro e w5 ⟨rfl, hq5⟩; have C5 : Below Z.heap.size Z w5 := below_call0 (by first | exact C4 | exact Below.drew C4 | exact below_drewN C4 _) hq5; have P5 := HP.out _ C5; obtain ⟨⟨p0, p1, p2, p3⟩, ⟨f0, f1, f2, f3⟩, pz⟩ := P5.facts))
  all_goals
    go_wp2
    refine bodyPost_ret (v := .agg #[.int .u64 (limb (r) 0 : Nat), .int .u64 (limb (r) 1 : Nat), .int .u64 (limb (r) 2 : Nat), .int .u64 (limb (r) 3 : Nat)]) ?_ rfl ⟨rfl, ?_⟩
    · simp [results, Try.results31, go_sem, p0, p1, p2, p3]
    · have W6 : Below w.heap.size w _ := below_call0 WX (And.left (by assumption))
      ((repeat' (first | with_reducible exact Below.refl _ _ | with_reducible refine Below.setCell ?_ ?_ _ | with_reducible refine below_alloc0 ?_ _ | with_reducible refine below_drewN ?_ _ | with_reducible refine Below.drew ?_ | refine below_call0 ?_ (by assumption))) <;> (first | omega | (simp; done) | (simp; omega)))
end Go.Proofs.Ytaigpginoakdfaa
