/- wardmoteref01.Num and Wide: the number of the lowest digits, as limbs. -/
import Derived.Test.YtaigpginoakdfaaCpr
import Derived.Deep.RegionWith
namespace Go.Proofs.Ytaigpginoakdfaa
open Go.RowKit

theorem cellv_store {n : Nat} {wr : World} {b m i0 : Nat} {ds : List Nat} {x : Nat} (h : ∀ j, j < n → wr.cell? ⟨b, j, none⟩ = some (.int .u64 (cellv ds (m + 1) j : Nat))) (hi : i0 = m / 4) (hn : i0 < n) (hx : x = cellv ds m i0) (j : Nat) (hj : j < n) :
    (wr.setCell ⟨b, i0, none⟩ (.int .u64 (x : Nat))).cell? ⟨b, j, none⟩ = some (.int .u64 (cellv ds m j : Nat)) := by
  by_cases e : j = i0
  · subst e
    rw [World.cell?_setCell_same _ _ _ (h j hn), hx]
  · rw [World.cell?_setCell_other _ _ _ _ (by intro c; injection c with _ c2 _; exact e c2.symm), h j hj, cellv_other ds m j (by omega)]

set_option maxRecDepth 100000 in
set_option maxHeartbeats 2000000 in
theorem num_ref (v : Value) (ds : List Nat) (hd : Dok ds) (w : World) (hv : Dg w v ds) :
    Calls Try.prog 14 #[v] w fun e w' => e = .returned (.agg #[.int .u64 (limb (dpre ds 16) 0 : Nat), .int .u64 (limb (dpre ds 16) 1 : Nat), .int .u64 (limb (dpre ds 16) 2 : Nat), .int .u64 (limb (dpre ds 16) 3 : Nat)]) ∧ Below w.heap.size w w' := by
  rw [show limb (dpre ds 16) 0 = cellv ds 0 0 from limb_dpre hd 4 0 (by omega), show limb (dpre ds 16) 1 = cellv ds 0 1 from limb_dpre hd 4 1 (by omega), show limb (dpre ds 16) 2 = cellv ds 0 2 from limb_dpre hd 4 2 (by omega), show limb (dpre ds 16) 3 = cellv ds 0 3 from limb_dpre hd 4 3 (by omega)]
  go_enter Try.func14, Try.ntmps14
  go_wp2_with fail
  go_loopw [4] (fun i wr => ∃ k : Nat, k ≤ 16 ∧ i = .int .i64 ((k : Int) - 1) ∧ (∀ j, j < 4 → wr.cell? ⟨w.heap.size + 1, j, none⟩ = some (.int .u64 (cellv ds k j : Nat))) ∧ (∀ j, j < 4 → wr.frozen? ⟨w.heap.size + 1, j, none⟩ = false) ∧ Pend wr w.heap.size ∧ Below w.heap.size w wr ∧ w.heap.size + 1 < wr.heap.size)
    (fun i _ => (intOf i + 1).toNat)
  case atStart =>
    refine ⟨16, by omega, rfl, ?_, ?_, Pend.alloc (Pend.new w _), by ((repeat' (first | with_reducible exact Below.refl _ _ | with_reducible refine Below.setCell ?_ ?_ _ | with_reducible refine below_alloc0 ?_ _ | with_reducible refine below_drewN ?_ _ | with_reducible refine Below.drew ?_ | refine below_call0 ?_ (by assumption))) <;> (first | omega | (simp; done) | (simp; omega))), by simp⟩
    · refine limbs4 _ ?_ ?_ ?_ ?_ <;> (rw [cellv_top _ _ _ (by omega)]; simp [go_sem])
    · intro j _
      simp
  case round =>
    obtain ⟨k, hk, rfl, hcell, hfr, hpend, hbel, hsz⟩ := hrel
    by_cases hk0 : k = 0
    · subst hk0
      have g0 := hcell 0 (by omega); have g1 := hcell 1 (by omega); have g2 := hcell 2 (by omega); have g3 := hcell 3 (by omega)
      obtain ⟨⟨p0, p1, p2, p3⟩, ⟨f0, f1, f2, f3⟩, pz⟩ := hpend.facts
      clear hcell hfr hpend
      go_wp2
      refine bodyPost_ret (v := .agg #[.int .u64 (cellv ds 0 0 : Nat), .int .u64 (cellv ds 0 1 : Nat), .int .u64 (cellv ds 0 2 : Nat), .int .u64 (cellv ds 0 3 : Nat)]) ?_ rfl ⟨rfl, ?_⟩
      · simp [results, Try.results14, go_sem, p0, p1, p2, p3]
      · ((repeat' (first | with_reducible exact Below.refl _ _ | with_reducible refine Below.setCell ?_ ?_ _ | with_reducible refine below_alloc0 ?_ _ | with_reducible refine below_drewN ?_ _ | with_reducible refine Below.drew ?_ | refine below_call0 ?_ (by assumption))) <;> (first | omega | (simp; done) | (simp; omega)))
    · obtain ⟨m, rfl⟩ : ∃ m, k = m + 1 := ⟨k - 1, by omega⟩
      have e : ((m + 1 : Nat) : Int) - 1 = (m : Int) := by omega
      rw [e]
      clear e
      obtain ⟨i0, hi0⟩ : ∃ i0, i0 = m / 4 := ⟨_, rfl⟩
      have i1 : i0 < 4 := by omega
      obtain ⟨c, hc⟩ : ∃ c, c = cellv ds (m + 1) i0 := ⟨_, rfl⟩
      obtain ⟨d, hdd⟩ : ∃ d, d = dget ds m := ⟨_, rfl⟩
      have hx : cellv ds m i0 = d + 65536 * c := by rw [hc, hdd, hi0]; exact cellv_same ds m
      have lx := cellv_lt hd m i0
      unfold M64 at lx
      obtain ⟨c2, hc2⟩ : ∃ c2, c2 = c * 65536 := ⟨_, rfl⟩
      obtain ⟨c3, hc3⟩ : ∃ c3, c3 = c2 + d := ⟨_, rfl⟩
      have e1 : (m : Int).tdiv 4 = (i0 : Nat) := by rw [Int.tdiv_eq_ediv_of_nonneg (by omega)]; omega
      have e2 : (m : Int) / 4 = (i0 : Nat) := by omega
      have e3 : (c : Int) * 65536 = (c2 : Nat) := by omega
      have e4 : IntKind.u64.wrap (c2 : Int) = (c2 : Nat) := by rw [IntKind.wrap_u64]; omega
      have e5 : IntKind.u64.wrap (d : Int) = (d : Nat) := by rw [IntKind.wrap_u64]; omega
      have e6 : (c2 : Int) + (d : Int) = (c3 : Nat) := by omega
      have e7 : IntKind.u64.wrap (c3 : Int) = (c3 : Nat) := by rw [IntKind.wrap_u64]; omega
      have gc : wr.cell? ⟨w.heap.size + 1, i0, none⟩ = some (.int .u64 (c : Nat)) := by rw [hcell i0 i1, hc]
      have gf := hfr i0 i1
      have HX : Hid (c3 = cellv ds m i0 ∧ i0 = m / 4) := ⟨by omega, hi0⟩
      have HC : Hid _ := And.intro hcell (And.intro hfr hpend)
      have D : Hid (Dg wr v ds) := hv.call hbel
      have K : ∀ w', Dg w' v ds → Calls Try.prog 40 #[v, .int .i64 m] w' fun e w'' => e = .returned (.int .i64 (d : Nat)) ∧ w'' = w' := fun w' h => by rw [hdd]; exact digit_any v ds m w' h
      have HK : Hid _ := K
      have parts : i0 = 0 ∨ i0 = 1 ∨ i0 = 2 ∨ i0 = 3 := by omega
      clear hcell hfr hpend hv hi0 hc hdd hx lx hc2 hc3 K i1
      rcases parts with rfl | rfl | rfl | rfl
      all_goals
        go_wp2_with fail
        go_region_with ((go_at_call 40; refine (HK.out _ ?_).mono ?_; exact D.out; rintro e w' ⟨rfl, rfl⟩))
        all_goals
          go_wp2
          go_roundw
          case rel =>
            refine ⟨m, by omega, rfl, ?_, ?_, ?_, ?_, ?_⟩
            · intro j hj
              exact cellv_store HC.out.1 HX.out.2 (by omega) HX.out.1 j hj
            · intro j hj
              exact (World.frozen?_setCell _ _ _ _).trans (HC.out.2.1 j hj)
            · first | exact Pend.drew (Pend.set HC.out.2.2 (by simp)) | exact Pend.set HC.out.2.2 (by simp)
            · ((repeat' (first | with_reducible exact Below.refl _ _ | with_reducible refine Below.setCell ?_ ?_ _ | with_reducible refine below_alloc0 ?_ _ | with_reducible refine below_drewN ?_ _ | with_reducible refine Below.drew ?_ | refine below_call0 ?_ (by assumption))) <;> (first | omega | (simp; done) | (simp; omega)))
            · simp; exact hsz
          case measure => simp [intOf]

end Go.Proofs.Ytaigpginoakdfaa
