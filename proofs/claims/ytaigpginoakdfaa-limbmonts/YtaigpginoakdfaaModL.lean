/- limb.Mod: its loop, and the remainder. -/
import Derived.Test.YtaigpginoakdfaaMod
import Derived.Deep.DeepCutAuto
namespace Go.Proofs.Ytaigpginoakdfaa
open Go.RowKit
attribute [local go_sem] run_eq4

theorem Num4.over {W : World} {p n k : Nat} (h : Num4 W p k) : Num4 ((((W.setCell ⟨p, 0, none⟩ (.int .u64 (limb n 0 : Nat))).setCell ⟨p, 1, none⟩ (.int .u64 (limb n 1 : Nat))).setCell ⟨p, 2, none⟩ (.int .u64 (limb n 2 : Nat))).setCell ⟨p, 3, none⟩ (.int .u64 (limb n 3 : Nat))) p n := by
  obtain ⟨f0, f1, f2, f3⟩ := h.facts
  refine limbs4 _ ?_ ?_ ?_ ?_ <;> simp [go_sem, f0, f1, f2, f3]

/-- What stands in memory between two rounds of Mod: the numbers of the four variables. -/
def ModAt (w wr : World) (V m x : Nat) : Prop :=
  Num4 wr (w.heap.size + 1 + 1 + 1) x ∧ (∀ j, j < 4 → wr.frozen? ⟨w.heap.size + 1 + 1 + 1, j, none⟩ = false) ∧ Num8 wr w.heap.size V ∧ Num4 wr (w.heap.size + 1) m ∧ Pend wr (w.heap.size + 1 + 1) ∧ Below w.heap.size w wr ∧ w.heap.size + 1 + 1 + 1 < wr.heap.size
theorem ModAt.call {w wr w1 : World} {V m x : Nat} (h : ModAt w wr V m x) (hb : Below wr.heap.size wr w1) : ModAt w w1 V m x := by
  obtain ⟨h1, h2, h3, h4, h5, h6, h7⟩ := h
  exact ⟨h1.call hb (by omega), fun j hj => (hb.frozen (p := ⟨_, j, none⟩) (by simp; omega)).trans (h2 j hj), h3.call hb (by omega), h4.call hb (by omega), h5.call hb, below_call0 h6 hb, Nat.lt_of_lt_of_le h7 hb.size⟩
theorem ModAt.put {w wr : World} {V m x : Nat} (n : Nat) (h : ModAt w wr V m x) : ModAt w ((((wr.setCell ⟨w.heap.size + 1 + 1 + 1, 0, none⟩ (.int .u64 (limb n 0 : Nat))).setCell ⟨w.heap.size + 1 + 1 + 1, 1, none⟩ (.int .u64 (limb n 1 : Nat))).setCell ⟨w.heap.size + 1 + 1 + 1, 2, none⟩ (.int .u64 (limb n 2 : Nat))).setCell ⟨w.heap.size + 1 + 1 + 1, 3, none⟩ (.int .u64 (limb n 3 : Nat))) V m n := by
  obtain ⟨h1, h2, h3, h4, h5, h6, h7⟩ := h
  refine ⟨Num4.over h1, ?_, ?_, ?_, ?_, ?_, ?_⟩
  · intro j hj
    rw [World.frozen?_setCell, World.frozen?_setCell, World.frozen?_setCell, World.frozen?_setCell]
    exact h2 j hj
  · exact (((h3.set (by simp; omega)).set (by simp; omega)).set (by simp; omega)).set (by simp; omega)
  · exact (((h4.set (by simp; omega)).set (by simp; omega)).set (by simp; omega)).set (by simp; omega)
  · exact (((h5.set (by simp)).set (by simp)).set (by simp)).set (by simp)
  · exact (((h6.setCell (by simp; omega) _).setCell (by simp; omega) _).setCell (by simp; omega) _).setCell (by simp; omega) _
  · rw [World.size_setCell, World.size_setCell, World.size_setCell, World.size_setCell]; exact h7
theorem ModAt.bit {w wr : World} {V m s y : Nat} (h : ModAt w wr V m s) (e1 : limb y 1 = limb s 1) (e2 : limb y 2 = limb s 2) (e3 : limb y 3 = limb s 3) : ModAt w (wr.setCell ⟨w.heap.size + 1 + 1 + 1, 0, none⟩ (.int .u64 (limb y 0 : Nat))) V m y := by
  obtain ⟨h1, h2, h3, h4, h5, h6, h7⟩ := h
  obtain ⟨f0, f1, f2, f3⟩ := h1.facts
  refine ⟨?_, ?_, h3.set (by simp; omega), h4.set (by simp; omega), h5.set (by simp), h6.setCell (by simp; omega) _, ?_⟩
  · refine limbs4 _ ?_ ?_ ?_ ?_ <;> simp [go_sem, f0, f1, f2, f3, e1, e2, e3]
  · intro j hj
    rw [World.frozen?_setCell]
    exact h2 j hj
  · rw [World.size_setCell]; exact h7
theorem ModAt.drew {w wr : World} {V m x : Nat} (h : ModAt w wr V m x) : ModAt w wr.drew V m x := by
  obtain ⟨h1, h2, h3, h4, h5, h6, h7⟩ := h
  exact ⟨h1.drew, h2, fun j hj => h3 j hj, h4.drew, h5.drew, h6.drew, h7⟩

set_option maxHeartbeats 2000000 in
theorem mod_any (V m : Nat) (hV : V / 2 ^ 512 = 0) (h0 : 0 < m) (hm : m < R256) (w : World) :
    Calls Try.prog 24 #[.agg #[.int .u64 (limb (V) 0 : Nat), .int .u64 (limb (V) 1 : Nat), .int .u64 (limb (V) 2 : Nat), .int .u64 (limb (V) 3 : Nat), .int .u64 (limb (V) 4 : Nat), .int .u64 (limb (V) 5 : Nat), .int .u64 (limb (V) 6 : Nat), .int .u64 (limb (V) 7 : Nat)], .agg #[.int .u64 (limb (m) 0 : Nat), .int .u64 (limb (m) 1 : Nat), .int .u64 (limb (m) 2 : Nat), .int .u64 (limb (m) 3 : Nat)]] w fun e w' => e = .returned (.tuple #[.agg #[.int .u64 (limb (V % m) 0 : Nat), .int .u64 (limb (V % m) 1 : Nat), .int .u64 (limb (V % m) 2 : Nat), .int .u64 (limb (V % m) 3 : Nat)], .int .i64 0]) ∧ Below w.heap.size w w' := by
  have q : eq4 (limb m 0 : Nat) (limb m 1 : Nat) (limb m 2 : Nat) (limb m 3 : Nat) 0 0 0 0 = false := by
    have g := eq4_num m 0 hm (by decide)
    rw [show limb 0 0 = 0 from by simp [limb], show limb 0 1 = 0 from by simp [limb], show limb 0 2 = 0 from by simp [limb], show limb 0 3 = 0 from by simp [limb]] at g
    exact g.trans (decide_eq_false (by omega))
  have H512 : Hid (V / 2 ^ 512 % m = 0) := by show _ = _; rw [hV]; exact Nat.zero_mod m
  have H0 : Hid (V / 2 ^ 0 % m = V % m) := by show _ = _; rw [Nat.pow_zero, Nat.div_one]
  have HS : Hid (∀ q, V / 2 ^ q % m = (2 * (V / 2 ^ (q + 1) % m) + bitN V q) % m) := fun q => mod_step V q m
  clear hV
  go_enter Try.func24, Try.ntmps24
  go_wp2_with fail
  go_loopw [7] (fun i wr => ∃ k : Nat, k ≤ 512 ∧ i = .int .i64 ((k : Int) - 1) ∧ ModAt w wr V m (V / 2 ^ k % m)) (fun i _ => (intOf i + 1).toNat)
  case atStart =>
    refine ⟨512, Nat.le_refl _, rfl, ?_⟩
    rw [H512.out]
    refine ⟨?_, ?_, ?_, ?_, ?_, by ((repeat' (first | with_reducible exact Below.refl _ _ | with_reducible refine Below.setCell ?_ ?_ _ | with_reducible refine below_alloc0 ?_ _ | with_reducible refine below_drewN ?_ _ | with_reducible refine Below.drew ?_ | refine below_call0 ?_ (by assumption))) <;> (first | omega | (simp; done) | (simp; omega))), by simp⟩
    · refine limbs4 _ ?_ ?_ ?_ ?_ <;> simp [go_sem, limb]
    · intro j _
      simp [go_sem]
    · intro j hj
      match j, hj with
      | 0, _ | 1, _ | 2, _ | 3, _ | 4, _ | 5, _ | 6, _ | 7, _ => simp [go_sem]
      | n + 8, h => exact absurd h (by omega)
    · ((repeat' (first | assumption | (refine Num4.new' ?_; first | omega | (simp; done)) | refine Num4.set ?_ ?_ | refine Num4.alloc ?_ ?_ | refine Num4.drewN ?_ | refine Num4.call ?_ (by assumption) ?_)) <;> (first | omega | (simp; done) | (simp; omega)))
    · exact Pend.alloc (by have P := Pend.new ((w.alloc (.cells #[.int .u64 (limb V 0 : Nat), .int .u64 (limb V 1 : Nat), .int .u64 (limb V 2 : Nat), .int .u64 (limb V 3 : Nat), .int .u64 (limb V 4 : Nat), .int .u64 (limb V 5 : Nat), .int .u64 (limb V 6 : Nat), .int .u64 (limb V 7 : Nat)] 34)).alloc (.cells #[.int .u64 (limb m 0 : Nat), .int .u64 (limb m 1 : Nat), .int .u64 (limb m 2 : Nat), .int .u64 (limb m 3 : Nat)] 24)) 24; simp only [World.size_alloc] at P; exact P)
  case round =>
    obtain ⟨k, hk, rfl, hM⟩ := hrel
    by_cases hk0 : k = 0
    · subst hk0
      rw [H0.out] at hM
      obtain ⟨h1, h2, h3, h4, h5, h6, h7⟩ := hM
      obtain ⟨g0, g1, g2, g3⟩ := h1.facts
      obtain ⟨⟨p0, p1, p2, p3⟩, ⟨f0, f1, f2, f3⟩, pz⟩ := h5.facts
      clear h1 h2 h3 h4 h5
      go_wp2
      refine bodyPost_ret (v := .tuple #[.agg #[.int .u64 (limb (V % m) 0 : Nat), .int .u64 (limb (V % m) 1 : Nat), .int .u64 (limb (V % m) 2 : Nat), .int .u64 (limb (V % m) 3 : Nat)], .int .i64 0]) ?_ rfl ⟨rfl, ?_⟩
      · simp [results, Try.results24, go_sem, p0, p1, p2, p3]
      · ((repeat' (first | with_reducible exact Below.refl _ _ | with_reducible refine Below.setCell ?_ ?_ _ | with_reducible refine below_alloc0 ?_ _ | with_reducible refine below_drewN ?_ _ | with_reducible refine Below.drew ?_ | refine below_call0 ?_ (by assumption))) <;> (first | omega | (simp; done) | (simp; omega)))
    · obtain ⟨t, rfl⟩ : ∃ t, k = t + 1 := ⟨k - 1, by omega⟩
      have e : ((t + 1 : Nat) : Int) - 1 = (t : Int) := by omega
      rw [e]
      clear e
      have hstep := HS.out t
      have hxl : V / 2 ^ (t + 1) % m < m := Nat.mod_lt _ h0
      obtain ⟨x, hx⟩ : ∃ x, x = V / 2 ^ (t + 1) % m := ⟨_, rfl⟩
      rw [← hx] at hstep hM hxl
      have hxR : x < R256 := by omega
      obtain ⟨d1, d2, d3⟩ := double_even x hxR
      have K1 := fun w => add_any x x hxR hxR w
      have sl := addN_lt x x
      obtain ⟨s, hs⟩ : ∃ s, s = addN x x := ⟨_, rfl⟩
      obtain ⟨c, hc⟩ : ∃ c, c = addK x x := ⟨_, rfl⟩
      rw [← hs, ← hc] at K1
      rw [← hs] at d1 sl
      rw [← hs, ← hc] at d2
      rw [← hc] at d3
      obtain ⟨b, hb⟩ : ∃ b, b = bitN V t := ⟨_, rfl⟩
      have bl : b < 2 := by rw [hb]; exact bitN_lt V t
      obtain ⟨yR, e0, y0, y1, y2, y3⟩ := put_bit s b sl d1 bl
      have K2 := fun w => lessOnce_any c (s + b) m d3 yR hm (by omega) w
      have hres : (c * R256 + (s + b)) % m = V / 2 ^ t % m := by rw [hstep, ← hb]; congr 1; omega
      rw [hres] at K2
      have HB : Hid _ := And.intro hb (And.intro bl (And.intro e0 (And.intro y0 (And.intro y1 (And.intro y2 y3)))))
      have HK1 : Hid _ := K1
      have HK2 : Hid _ := K2
      obtain ⟨r, hr⟩ : ∃ r, r = V / 2 ^ t % m := ⟨_, rfl⟩
      rw [← hr] at HK2
      have HR : Hid (r = V / 2 ^ t % m) := hr
      clear K1 K2 hres hb bl yR e0 y0 y1 y2 y3 d1 d2 d3 sl hs hc hx hstep hxl hxR HS H512 H0 hr
      obtain ⟨g0, g1, g2, g3⟩ := hM.1.facts
      go_wp2_with fail
      refine (HK1.out _).mono ?_
      rintro e w1 ⟨rfl, hb1⟩
      have M1 := hM.call hb1
      obtain ⟨c0, c1, c2, c3⟩ := M1.1.facts
      have f0 := M1.2.1 0 (by omega)
      have f1 := M1.2.1 1 (by omega)
      have f2 := M1.2.1 2 (by omega)
      have f3 := M1.2.1 3 (by omega)
      have M2 := M1.put s
      clear g0 g1 g2 g3 hM hb1
      go_wp2_with fail
      obtain ⟨Y, hY⟩ : ∃ Y, Y = (((w1.setCell ⟨w.heap.size + 1 + 1 + 1, 0, none⟩ (.int .u64 (limb s 0 : Nat))).setCell ⟨w.heap.size + 1 + 1 + 1, 1, none⟩ (.int .u64 (limb s 1 : Nat))).setCell ⟨w.heap.size + 1 + 1 + 1, 2, none⟩ (.int .u64 (limb s 2 : Nat))).setCell ⟨w.heap.size + 1 + 1 + 1, 3, none⟩ (.int .u64 (limb s 3 : Nat)) := ⟨_, rfl⟩
      rw [← hY]
      rw [← hY] at M2
      clear hY M1 c0 c1 c2 c3 f0 f1 f2 f3
      go_cut [33] (fun _ wx => ModAt w wx V m (s + b))
      case first =>
        obtain ⟨i, hi⟩ : ∃ i, i = t / 64 := ⟨_, rfl⟩
        obtain ⟨j, hj⟩ : ∃ j, j = t % 64 := ⟨_, rfl⟩
        have e1 : (t : Int).tdiv 64 = (i : Nat) := by rw [Int.tdiv_eq_ediv_of_nonneg (by omega)]; omega
        have e2 : (t : Int) / 64 = (i : Nat) := by omega
        have e3 : (t : Int).tmod 64 = (j : Nat) := by rw [Int.tmod_eq_emod_of_nonneg (by omega)]; omega
        have e4 : (t : Int) % 64 = (j : Nat) := by omega
        have r6 : (j : Int) < 64 := by omega
        have i8 : i < 8 := by omega
        have eb : bits .and .u64 ((limb V i : Int) / 2 ^ j) 1 = ((b : Nat) : Int) := by rw [bit_eq V t i j ⟨hi, hj⟩, HB.out.1]
        have eo : bits .or .u64 (limb s 0 : Int) ((b : Nat) : Int) = ((limb (s + b) 0 : Nat) : Int) := by
          have l0 := limb_lt s 0
          have bl := HB.out.2.1
          rw [bits_or_u64_nat _ _ l0 (by omega), or_even _ _ HB.out.2.2.1 bl, HB.out.2.2.2.1]
        obtain ⟨g0, _, _, _⟩ := M2.1.facts
        have gf := M2.2.1 0 (by omega)
        have gv := M2.2.2.1 i i8
        have parts : i = 0 ∨ i = 1 ∨ i = 2 ∨ i = 3 ∨ i = 4 ∨ i = 5 ∨ i = 6 ∨ i = 7 := by omega
        clear hi hj i8
        rcases parts with rfl | rfl | rfl | rfl | rfl | rfl | rfl | rfl
        all_goals
          go_region
          all_goals (go_wp2_with fail; go_meet)
          all_goals exact (M2.bit HB.out.2.2.2.2.1 HB.out.2.2.2.2.2.1 HB.out.2.2.2.2.2.2).drew
      case rest =>
        obtain ⟨g0, g1, g2, g3⟩ := hcut.1.facts
        obtain ⟨m0, m1, m2, m3⟩ := hcut.2.2.2.1.facts
        clear M2 HB HK1
        go_wp2_with fail
        refine (HK2.out _).mono ?_
        rintro e w2 ⟨rfl, hb2⟩
        have M3 := hcut.call hb2
        obtain ⟨c0, c1, c2, c3⟩ := M3.1.facts
        have f0 := M3.2.1 0 (by omega)
        have f1 := M3.2.1 1 (by omega)
        have f2 := M3.2.1 2 (by omega)
        have f3 := M3.2.1 3 (by omega)
        have M4 := M3.put r
        clear g0 g1 g2 g3 m0 m1 m2 m3 hcut hb2 M3
        go_wp2
        go_roundw
        case rel =>
          have M5 := M4
          rw [HR.out] at M5
          first | exact ⟨t, by omega, rfl, M4⟩ | exact ⟨t, by omega, rfl, M5⟩ | (refine ⟨t, by omega, rfl, ?_⟩; rw [← HR.out]; exact M4)
        case measure => simp [intOf]
end Go.Proofs.Ytaigpginoakdfaa
