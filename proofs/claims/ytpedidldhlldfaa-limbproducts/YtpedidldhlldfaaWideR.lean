/- wardmoteref01.Wide: the wide number of the lowest digits, as limbs. -/
import Derived.Test.YtpedidldhlldfaaNumR
namespace Go.Proofs.Ytpedidldhlldfaa
open Go.RowKit

theorem limbs8 (P : Nat → Prop) (h0 : P 0) (h1 : P 1) (h2 : P 2) (h3 : P 3) (h4 : P 4) (h5 : P 5) (h6 : P 6) (h7 : P 7) : ∀ j, j < 8 → P j := by
  intro j hj
  have e : j = 0 ∨ j = 1 ∨ j = 2 ∨ j = 3 ∨ j = 4 ∨ j = 5 ∨ j = 6 ∨ j = 7 := by omega
  rcases e with rfl | rfl | rfl | rfl | rfl | rfl | rfl | rfl <;> assumption
/-- A block of eight limbs 0 that was made and is not written yet. -/
def Pend8 (w : World) (p : Nat) : Prop := (∀ j, j < 8 → w.cell? ⟨p, j, none⟩ = some (.int .u64 0)) ∧ (∀ j, j < 8 → w.frozen? ⟨p, j, none⟩ = false) ∧ p < w.heap.size
theorem Pend8.new (W : World) (t : TypeId) : Pend8 (W.alloc (.cells #[.int .u64 0, .int .u64 0, .int .u64 0, .int .u64 0, .int .u64 0, .int .u64 0, .int .u64 0, .int .u64 0] t)) W.heap.size := by
  refine ⟨?_, ?_, by simp⟩
  · refine limbs8 _ ?_ ?_ ?_ ?_ ?_ ?_ ?_ ?_ <;> simp [go_sem]
  · intro j _
    simp
theorem Pend8.call {W w1 : World} {p : Nat} (h : Pend8 W p) (hb : Below W.heap.size W w1) : Pend8 w1 p :=
  ⟨fun j hj => (hb.cell (p := ⟨p, j, none⟩) h.2.2).trans (h.1 j hj), fun j hj => (hb.frozen (p := ⟨p, j, none⟩) h.2.2).trans (h.2.1 j hj), Nat.lt_of_lt_of_le h.2.2 hb.size⟩
theorem Pend8.set {W : World} {p : Nat} {a : Addr} {v : Value} (h : Pend8 W p) (hne : a.block ≠ p) : Pend8 (W.setCell a v) p :=
  ⟨fun j hj => by rw [World.cell?_setCell_other _ _ _ _ (by intro c; apply hne; rw [c])]; exact h.1 j hj, fun j hj => by rw [World.frozen?_setCell]; exact h.2.1 j hj, by rw [World.size_setCell]; exact h.2.2⟩
theorem Pend8.drew {W : World} {p : Nat} (h : Pend8 W p) : Pend8 W.drew p := h
theorem Pend8.alloc {W : World} {p : Nat} {o : Obj} (h : Pend8 W p) : Pend8 (W.alloc o) p := h.call ((Below.refl _ _).alloc (Nat.le_refl _) o)
theorem Pend8.facts {w : World} {p : Nat} (h : Pend8 w p) : (w.cell? ⟨p, 0, none⟩ = some (.int .u64 0) ∧ w.cell? ⟨p, 1, none⟩ = some (.int .u64 0) ∧ w.cell? ⟨p, 2, none⟩ = some (.int .u64 0) ∧ w.cell? ⟨p, 3, none⟩ = some (.int .u64 0) ∧ w.cell? ⟨p, 4, none⟩ = some (.int .u64 0) ∧ w.cell? ⟨p, 5, none⟩ = some (.int .u64 0) ∧ w.cell? ⟨p, 6, none⟩ = some (.int .u64 0) ∧ w.cell? ⟨p, 7, none⟩ = some (.int .u64 0)) ∧
    (w.frozen? ⟨p, 0, none⟩ = false ∧ w.frozen? ⟨p, 1, none⟩ = false ∧ w.frozen? ⟨p, 2, none⟩ = false ∧ w.frozen? ⟨p, 3, none⟩ = false ∧ w.frozen? ⟨p, 4, none⟩ = false ∧ w.frozen? ⟨p, 5, none⟩ = false ∧ w.frozen? ⟨p, 6, none⟩ = false ∧ w.frozen? ⟨p, 7, none⟩ = false) ∧ p < w.heap.size :=
  ⟨⟨h.1 0 (by omega), h.1 1 (by omega), h.1 2 (by omega), h.1 3 (by omega), h.1 4 (by omega), h.1 5 (by omega), h.1 6 (by omega), h.1 7 (by omega)⟩, ⟨h.2.1 0 (by omega), h.2.1 1 (by omega), h.2.1 2 (by omega), h.2.1 3 (by omega), h.2.1 4 (by omega), h.2.1 5 (by omega), h.2.1 6 (by omega), h.2.1 7 (by omega)⟩, h.2.2⟩

set_option maxHeartbeats 4000000 in
theorem wide_ref (v : Value) (ds : List Nat) (hd : Dok ds) (w : World) (hv : Dg w v ds) :
    Calls Try.prog 17 #[v] w fun e w' => e = .returned (.agg #[.int .u64 (limb (dpre ds 32) 0 : Nat), .int .u64 (limb (dpre ds 32) 1 : Nat), .int .u64 (limb (dpre ds 32) 2 : Nat), .int .u64 (limb (dpre ds 32) 3 : Nat), .int .u64 (limb (dpre ds 32) 4 : Nat), .int .u64 (limb (dpre ds 32) 5 : Nat), .int .u64 (limb (dpre ds 32) 6 : Nat), .int .u64 (limb (dpre ds 32) 7 : Nat)]) ∧ Below w.heap.size w w' := by
  rw [show limb (dpre ds 32) 0 = cellv ds 0 0 from limb_dpre hd 8 0 (by omega), show limb (dpre ds 32) 1 = cellv ds 0 1 from limb_dpre hd 8 1 (by omega), show limb (dpre ds 32) 2 = cellv ds 0 2 from limb_dpre hd 8 2 (by omega), show limb (dpre ds 32) 3 = cellv ds 0 3 from limb_dpre hd 8 3 (by omega), show limb (dpre ds 32) 4 = cellv ds 0 4 from limb_dpre hd 8 4 (by omega), show limb (dpre ds 32) 5 = cellv ds 0 5 from limb_dpre hd 8 5 (by omega), show limb (dpre ds 32) 6 = cellv ds 0 6 from limb_dpre hd 8 6 (by omega), show limb (dpre ds 32) 7 = cellv ds 0 7 from limb_dpre hd 8 7 (by omega)]
  go_enter Try.func17, Try.ntmps17
  go_wp2_with fail
  go_loopw [4] (fun i wr => ∃ k : Nat, k ≤ 32 ∧ i = .int .i64 ((k : Int) - 1) ∧ (∀ j, j < 8 → wr.cell? ⟨w.heap.size + 1, j, none⟩ = some (.int .u64 (cellv ds k j : Nat))) ∧ (∀ j, j < 8 → wr.frozen? ⟨w.heap.size + 1, j, none⟩ = false) ∧ Pend8 wr w.heap.size ∧ Below w.heap.size w wr ∧ w.heap.size + 1 < wr.heap.size)
    (fun i _ => (intOf i + 1).toNat)
  case atStart =>
    refine ⟨32, by omega, rfl, ?_, ?_, Pend8.alloc (Pend8.new w _), by ((repeat' (first | with_reducible exact Below.refl _ _ | with_reducible refine Below.setCell ?_ ?_ _ | with_reducible refine below_alloc0 ?_ _ | with_reducible refine below_drewN ?_ _ | with_reducible refine Below.drew ?_ | refine below_call0 ?_ (by assumption))) <;> (first | omega | (simp; done) | (simp; omega))), by simp⟩
    · refine limbs8 _ ?_ ?_ ?_ ?_ ?_ ?_ ?_ ?_ <;> (rw [cellv_top _ _ _ (by omega)]; simp [go_sem])
    · intro j _
      simp
  case round =>
    obtain ⟨k, hk, rfl, hcell, hfr, hpend, hbel, hsz⟩ := hrel
    by_cases hk0 : k = 0
    · subst hk0
      have g0 := hcell 0 (by omega); have g1 := hcell 1 (by omega); have g2 := hcell 2 (by omega); have g3 := hcell 3 (by omega); have g4 := hcell 4 (by omega); have g5 := hcell 5 (by omega); have g6 := hcell 6 (by omega); have g7 := hcell 7 (by omega)
      obtain ⟨⟨p0, p1, p2, p3, p4, p5, p6, p7⟩, ⟨f0, f1, f2, f3, f4, f5, f6, f7⟩, pz⟩ := hpend.facts
      clear hcell hfr hpend
      go_wp2
      refine bodyPost_ret (v := .agg #[.int .u64 (cellv ds 0 0 : Nat), .int .u64 (cellv ds 0 1 : Nat), .int .u64 (cellv ds 0 2 : Nat), .int .u64 (cellv ds 0 3 : Nat), .int .u64 (cellv ds 0 4 : Nat), .int .u64 (cellv ds 0 5 : Nat), .int .u64 (cellv ds 0 6 : Nat), .int .u64 (cellv ds 0 7 : Nat)]) ?_ rfl ⟨rfl, ?_⟩
      · simp [results, Try.results17, go_sem, p0, p1, p2, p3, p4, p5, p6, p7]
      · ((repeat' (first | with_reducible exact Below.refl _ _ | with_reducible refine Below.setCell ?_ ?_ _ | with_reducible refine below_alloc0 ?_ _ | with_reducible refine below_drewN ?_ _ | with_reducible refine Below.drew ?_ | refine below_call0 ?_ (by assumption))) <;> (first | omega | (simp; done) | (simp; omega)))
    · obtain ⟨m, rfl⟩ : ∃ m, k = m + 1 := ⟨k - 1, by omega⟩
      have e : ((m + 1 : Nat) : Int) - 1 = (m : Int) := by omega
      rw [e]
      clear e
      obtain ⟨i0, hi0⟩ : ∃ i0, i0 = m / 4 := ⟨_, rfl⟩
      have i1 : i0 < 8 := by omega
      obtain ⟨c, hc⟩ : ∃ c, c = cellv ds (m + 1) i0 := ⟨_, rfl⟩
      obtain ⟨d, hdd⟩ : ∃ d, d = dget ds m := ⟨_, rfl⟩
      have hx : cellv ds m i0 = d + 65536 * c := by rw [hc, hdd, hi0]; exact cellv_same ds m
      have lx := cellv_lt hd m i0
      unfold M64 at lx
      obtain ⟨c2, hc2⟩ : ∃ c2, c2 = c * 65536 := ⟨_, rfl⟩
      obtain ⟨c3, hc3⟩ : ∃ c3, c3 = c2 + d := ⟨_, rfl⟩
      have e1 : (m : Int).tdiv 4 = (i0 : Nat) := by rw [Int.tdiv_eq_ediv_of_nonneg (by omega)]; omega
      have e2 : (m : Int) / 4 = (i0 : Nat) := by omega
      have e3 : (c : Int) * 65536 = (c2 : Nat) := by omega
      have e4 : IntKind.u64.wrap (c2 : Int) = (c2 : Nat) := by rw [IntKind.wrap_u64]; omega
      have e5 : IntKind.u64.wrap (d : Int) = (d : Nat) := by rw [IntKind.wrap_u64]; omega
      have e6 : (c2 : Int) + (d : Int) = (c3 : Nat) := by omega
      have e7 : IntKind.u64.wrap (c3 : Int) = (c3 : Nat) := by rw [IntKind.wrap_u64]; omega
      have gc : wr.cell? ⟨w.heap.size + 1, i0, none⟩ = some (.int .u64 (c : Nat)) := by rw [hcell i0 i1, hc]
      have gf := hfr i0 i1
      have HX : Hid (c3 = cellv ds m i0 ∧ i0 = m / 4) := ⟨by omega, hi0⟩
      have HC : Hid _ := And.intro hcell (And.intro hfr hpend)
      have D : Hid (Dg wr v ds) := hv.call hbel
      have K : ∀ w', Dg w' v ds → Calls Try.prog 40 #[v, .int .i64 m] w' fun e w'' => e = .returned (.int .i64 (d : Nat)) ∧ w'' = w' := fun w' h => by rw [hdd]; exact digit_any v ds m w' h
      have HK : Hid _ := K
      have parts : i0 = 0 ∨ i0 = 1 ∨ i0 = 2 ∨ i0 = 3 ∨ i0 = 4 ∨ i0 = 5 ∨ i0 = 6 ∨ i0 = 7 := by omega
      clear hcell hfr hpend hv hi0 hc hdd hx lx hc2 hc3 K i1
      rcases parts with rfl | rfl | rfl | rfl | rfl | rfl | rfl | rfl
      all_goals
        go_wp2_with fail
        go_region_with ((go_at_call 40; refine (HK.out _ ?_).mono ?_; exact D.out; rintro e w' ⟨rfl, rfl⟩))
        all_goals
          go_wp2
          go_roundw
          case rel =>
            refine ⟨m, by omega, rfl, ?_, ?_, ?_, ?_, ?_⟩
            · intro j hj
              exact cellv_store HC.out.1 HX.out.2 (by omega) HX.out.1 j hj
            · intro j hj
              exact (World.frozen?_setCell _ _ _ _).trans (HC.out.2.1 j hj)
            · first | exact Pend8.drew (Pend8.set HC.out.2.2 (by simp)) | exact Pend8.set HC.out.2.2 (by simp)
            · ((repeat' (first | with_reducible exact Below.refl _ _ | with_reducible refine Below.setCell ?_ ?_ _ | with_reducible refine below_alloc0 ?_ _ | with_reducible refine below_drewN ?_ _ | with_reducible refine Below.drew ?_ | refine below_call0 ?_ (by assumption))) <;> (first | omega | (simp; done) | (simp; omega)))
            · simp; exact hsz
          case measure => simp [intOf]

end Go.Proofs.Ytpedidldhlldfaa
