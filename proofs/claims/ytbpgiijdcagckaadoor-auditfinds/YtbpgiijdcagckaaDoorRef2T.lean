/- wardmoteref02.Times: the product of two numbers, as eight limbs. -/
import Derived.Test.YtbpgiijdcagckaaDoorRef2A
import Derived.Test.YtbpgiijdcagckaaDoorLbA
namespace Go.Proofs.YtbpgiijdcagckaaDoor
open Go.RowKit

/-- The eight limbs behind i rows. -/
def tst (a b : Nat) : Nat → Nat → Nat
  | 0, _ => 0
  | i + 1, j => if i ≤ j ∧ j ≤ i + 4 then rowL (limb a i) (limb b 0) (limb b 1) (limb b 2) (limb b 3) (tst a b i i) (tst a b i (i + 1)) (tst a b i (i + 2)) (tst a b i (i + 3)) (j - i) else tst a b i j
theorem row_all_lt (d b w0 w1 w2 w3 j : Nat) (hd : d < M64) (g0 : w0 < M64) (g1 : w1 < M64) (g2 : w2 < M64) (g3 : w3 < M64) : rowL d (limb b 0) (limb b 1) (limb b 2) (limb b 3) w0 w1 w2 w3 j < M64 := by
  obtain ⟨h0, h1, h2, h3, h4⟩ := row_lt d (limb b 0) (limb b 1) (limb b 2) (limb b 3) w0 w1 w2 w3 hd (limb_lt _ _) (limb_lt _ _) (limb_lt _ _) (limb_lt _ _) g0 g1 g2 g3
  match j with
  | 0 => exact h0
  | 1 => exact h1
  | 2 => exact h2
  | 3 => exact h3
  | _ + 4 => exact h4
theorem tst_lt (a b : Nat) : ∀ i j, tst a b i j < M64
  | 0, _ => M64_pos
  | i + 1, j => by
    rw [tst]
    split
    · exact row_all_lt _ _ _ _ _ _ _ (limb_lt _ _) (tst_lt a b i _) (tst_lt a b i _) (tst_lt a b i _) (tst_lt a b i _)
    · exact tst_lt a b i j
theorem tst_high (a b : Nat) : ∀ i j, i + 4 ≤ j → tst a b i j = 0
  | 0, _, _ => rfl
  | i + 1, j, h => by
    rw [tst, if_neg (by omega)]
    exact tst_high a b i j (by omega)
/-- A limb of a that is 0 changes nothing. -/
theorem tst_zero (a b i : Nat) (h : limb a i = 0) (j : Nat) : tst a b (i + 1) j = tst a b i j := by
  rw [tst, h]
  by_cases hj : i ≤ j ∧ j ≤ i + 4
  · rw [if_pos hj]
    obtain ⟨e0, e1, e2, e3, e4⟩ := row_zero (limb b 0) (limb b 1) (limb b 2) (limb b 3) (tst a b i i) (tst a b i (i + 1)) (tst a b i (i + 2)) (tst a b i (i + 3)) (tst_lt _ _ _ _) (tst_lt _ _ _ _) (tst_lt _ _ _ _) (tst_lt _ _ _ _)
    have : j = i ∨ j = i + 1 ∨ j = i + 2 ∨ j = i + 3 ∨ j = i + 4 := by omega
    rcases this with rfl | rfl | rfl | rfl | rfl
    · rw [Nat.sub_self, e0]
    · rw [Nat.add_sub_cancel_left, e1]
    · rw [Nat.add_sub_cancel_left, e2]
    · rw [Nat.add_sub_cancel_left, e3]
    · rw [Nat.add_sub_cancel_left, e4, tst_high _ _ _ _ (by omega)]
  · rw [if_neg hj]
/-- What stands at place j inside row i, k places done. -/
def trow (a b i k j : Nat) : Nat := if i ≤ j ∧ j < i + k then tst a b (i + 1) j else tst a b i j
/-- The carry there. -/
def tcar (a b i : Nat) : Nat → Nat
  | 0 => 0
  | k + 1 => maH (limb a i) (limb b k) (tst a b i (i + k)) (tcar a b i k)
theorem tcar_lt (a b i : Nat) : ∀ k, tcar a b i k < M64
  | 0 => M64_pos
  | k + 1 => maH_lt _ _ _ _ (limb_lt _ _) (limb_lt _ _) (tst_lt _ _ _ _) (tcar_lt a b i k)
theorem trow_step (a b i k : Nat) (hk : k < 4) : maL (limb a i) (limb b k) (tst a b i (i + k)) (tcar a b i k) = tst a b (i + 1) (i + k) := by
  rw [tst, if_pos (by omega), Nat.add_sub_cancel_left]
  have : k = 0 ∨ k = 1 ∨ k = 2 ∨ k = 3 := by omega
  rcases this with rfl | rfl | rfl | rfl <;> rfl
theorem tcar_four (a b i : Nat) : tcar a b i 4 = tst a b (i + 1) (i + 4) := by
  rw [tst, if_pos (by omega), Nat.add_sub_cancel_left]
  rfl
theorem trow_at (a b i k : Nat) : trow a b i k (i + k) = tst a b i (i + k) := by unfold trow; rw [if_neg (by omega)]
theorem trow_next (a b i k j : Nat) (h : j ≠ i + k) : trow a b i (k + 1) j = trow a b i k j := by
  unfold trow
  by_cases h1 : i ≤ j ∧ j < i + k
  · rw [if_pos h1, if_pos (by omega)]
  · rw [if_neg h1, if_neg (by omega)]
theorem trow_self (a b i k : Nat) : trow a b i (k + 1) (i + k) = tst a b (i + 1) (i + k) := by unfold trow; rw [if_pos (by omega)]
theorem trow_none (a b i j : Nat) : trow a b i 0 j = tst a b i j := by unfold trow; rw [if_neg (by omega)]
theorem trow_done (a b i j : Nat) (h : j ≠ i + 4) : trow a b i 4 j = tst a b (i + 1) j := by
  unfold trow
  by_cases h1 : i ≤ j ∧ j < i + 4
  · rw [if_pos h1]
  · rw [if_neg h1, tst, if_neg (by omega)]
theorem tst_all (a b : Nat) (ha : a < R256) (hb : b < R256) : ∀ j, j < 8 → tst a b 4 j = limb (a * b) j := by
  obtain ⟨_, l0, l1, l2, l3, l4, l5, l6, l7⟩ := mul_limbs a b ha hb (rowL (limb a 0) (limb b 0) (limb b 1) (limb b 2) (limb b 3) 0 0 0 0) _ _ _ rfl rfl rfl rfl
  intro j hj
  match j, hj with
  | 0, _ => exact l0.symm
  | 1, _ => exact l1.symm
  | 2, _ => exact l2.symm
  | 3, _ => exact l3.symm
  | 4, _ => exact l4.symm
  | 5, _ => exact l5.symm
  | 6, _ => exact l6.symm
  | 7, _ => exact l7.symm

/-- Eight limbs in a block that may be written. -/
def Row8 (w : World) (p : Nat) (f : Nat → Nat) : Prop := (∀ j, j < 8 → w.cell? ⟨p, j, none⟩ = some (.int .u64 (f j : Nat))) ∧ (∀ j, j < 8 → w.frozen? ⟨p, j, none⟩ = false) ∧ p < w.heap.size
theorem Row8.drewN {W : World} {p k : Nat} {f : Nat → Nat} (h : Row8 W p f) : Row8 (W.drewN k) p f := h
theorem Row8.facts {w : World} {p : Nat} {f : Nat → Nat} (h : Row8 w p f) : (w.cell? ⟨p, 0, none⟩ = some (.int .u64 (f 0 : Nat)) ∧ w.cell? ⟨p, 1, none⟩ = some (.int .u64 (f 1 : Nat)) ∧ w.cell? ⟨p, 2, none⟩ = some (.int .u64 (f 2 : Nat)) ∧ w.cell? ⟨p, 3, none⟩ = some (.int .u64 (f 3 : Nat)) ∧ w.cell? ⟨p, 4, none⟩ = some (.int .u64 (f 4 : Nat)) ∧ w.cell? ⟨p, 5, none⟩ = some (.int .u64 (f 5 : Nat)) ∧ w.cell? ⟨p, 6, none⟩ = some (.int .u64 (f 6 : Nat)) ∧ w.cell? ⟨p, 7, none⟩ = some (.int .u64 (f 7 : Nat))) ∧ (w.frozen? ⟨p, 0, none⟩ = false ∧ w.frozen? ⟨p, 1, none⟩ = false ∧ w.frozen? ⟨p, 2, none⟩ = false ∧ w.frozen? ⟨p, 3, none⟩ = false ∧ w.frozen? ⟨p, 4, none⟩ = false ∧ w.frozen? ⟨p, 5, none⟩ = false ∧ w.frozen? ⟨p, 6, none⟩ = false ∧ w.frozen? ⟨p, 7, none⟩ = false) ∧ p < w.heap.size :=
  ⟨⟨h.1 0 (by omega), h.1 1 (by omega), h.1 2 (by omega), h.1 3 (by omega), h.1 4 (by omega), h.1 5 (by omega), h.1 6 (by omega), h.1 7 (by omega)⟩, ⟨h.2.1 0 (by omega), h.2.1 1 (by omega), h.2.1 2 (by omega), h.2.1 3 (by omega), h.2.1 4 (by omega), h.2.1 5 (by omega), h.2.1 6 (by omega), h.2.1 7 (by omega)⟩, h.2.2⟩
theorem Row8.put {W : World} {p n v : Nat} {f g : Nat → Nat} (h : Row8 W p f) (hn : n < 8) (hg : ∀ j, j < 8 → j ≠ n → g j = f j) (hv : g n = v) : Row8 (W.setCell ⟨p, n, none⟩ (.int .u64 (v : Nat))) p g := by
  refine ⟨fun j hj => ?_, fun j hj => by rw [World.frozen?_setCell]; exact h.2.1 j hj, by rw [World.size_setCell]; exact h.2.2⟩
  by_cases e : j = n
  · subst e
    rw [World.cell?_setCell_same _ _ _ (h.1 j hj), hv]
  · rw [World.cell?_setCell_other _ _ _ _ (by intro c; injection c with _ c2 _; exact e c2.symm), h.1 j hj, hg j hj e]
theorem Row8.set {W : World} {p : Nat} {f : Nat → Nat} {a : Addr} {v : Value} (h : Row8 W p f) (hne : a.block ≠ p) : Row8 (W.setCell a v) p f :=
  ⟨fun j hj => by rw [World.cell?_setCell_other _ _ _ _ (by intro c; apply hne; rw [c])]; exact h.1 j hj, fun j hj => by rw [World.frozen?_setCell]; exact h.2.1 j hj, by rw [World.size_setCell]; exact h.2.2⟩
theorem Row8.congr {W : World} {p : Nat} {f g : Nat → Nat} (h : Row8 W p f) (hg : ∀ j, j < 8 → f j = g j) : Row8 W p g := ⟨fun j hj => by rw [h.1 j hj, hg j hj], h.2⟩
theorem eightR (P : Nat → Prop) (h0 : P 0) (h1 : P 1) (h2 : P 2) (h3 : P 3) (h4 : P 4) (h5 : P 5) (h6 : P 6) (h7 : P 7) : ∀ j, j < 8 → P j := by
  intro j hj
  match j, hj with
  | 0, _ => exact h0
  | 1, _ => exact h1
  | 2, _ => exact h2
  | 3, _ => exact h3
  | 4, _ => exact h4
  | 5, _ => exact h5
  | 6, _ => exact h6
  | 7, _ => exact h7
theorem Row8.new (W : World) (t : TypeId) : Row8 (W.alloc (.cells #[.int .u64 0, .int .u64 0, .int .u64 0, .int .u64 0, .int .u64 0, .int .u64 0, .int .u64 0, .int .u64 0] t)) W.heap.size (fun _ => 0) :=
  ⟨eightR _ (by simp) (by simp) (by simp) (by simp) (by simp) (by simp) (by simp) (by simp), fun j _ => by simp, by simp⟩
theorem Row8.alloc {W : World} {p : Nat} {f : Nat → Nat} {o : Obj} (h : Row8 W p f) : Row8 (W.alloc o) p f :=
  ⟨fun j hj => (World.cell?_alloc_lt W o ⟨p, j, none⟩ h.2.2).trans (h.1 j hj), fun j hj => ((Below.refl W.heap.size W).alloc (Nat.le_refl _) o).frozen (p := ⟨p, j, none⟩) h.2.2 |>.trans (h.2.1 j hj), Nat.lt_of_lt_of_le h.2.2 (by simp)⟩

/-- What both loops keep. -/
def TmAt (w wx : World) (a b : Nat) (f : Nat → Nat) : Prop := Num4 wx w.heap.size a ∧ Num4 wx (w.heap.size + 1) b ∧ Row8 wx (w.heap.size + 1 + 1) (fun _ => 0) ∧ Row8 wx (w.heap.size + 1 + 1 + 1) f ∧ Below w.heap.size w wx
theorem TmAt.put {w W : World} {a b n v : Nat} {f g : Nat → Nat} (h : TmAt w W a b f) (hn : n < 8) (hg : ∀ j, j < 8 → j ≠ n → g j = f j) (hv : g n = v) : TmAt w (W.setCell ⟨w.heap.size + 1 + 1 + 1, n, none⟩ (.int .u64 (v : Nat))) a b g :=
  ⟨h.1.set (show w.heap.size + 1 + 1 + 1 ≠ w.heap.size by omega), h.2.1.set (show w.heap.size + 1 + 1 + 1 ≠ w.heap.size + 1 by omega), h.2.2.1.set (show w.heap.size + 1 + 1 + 1 ≠ w.heap.size + 1 + 1 by omega), h.2.2.2.1.put hn hg hv, h.2.2.2.2.setCell (show w.heap.size ≤ w.heap.size + 1 + 1 + 1 by omega) _⟩
theorem TmAt.drewN {w W : World} {a b k : Nat} {f : Nat → Nat} (h : TmAt w W a b f) : TmAt w (W.drewN k) a b f := ⟨h.1, h.2.1, h.2.2.1, h.2.2.2.1, below_drewN h.2.2.2.2 _⟩
theorem TmAt.congr {w W : World} {a b : Nat} {f g : Nat → Nat} (h : TmAt w W a b f) (hg : ∀ j, j < 8 → f j = g j) : TmAt w W a b g := ⟨h.1, h.2.1, h.2.2.1, h.2.2.2.1.congr hg, h.2.2.2.2⟩

set_option maxRecDepth 100000 in
set_option maxHeartbeats 4000000 in
theorem times2_any (a b : Nat) (ha : a < R256) (hb : b < R256) (w : World) :
    Calls Tryd.prog 32 #[.agg #[.int .u64 (limb (a) 0 : Nat), .int .u64 (limb (a) 1 : Nat), .int .u64 (limb (a) 2 : Nat), .int .u64 (limb (a) 3 : Nat)], .agg #[.int .u64 (limb (b) 0 : Nat), .int .u64 (limb (b) 1 : Nat), .int .u64 (limb (b) 2 : Nat), .int .u64 (limb (b) 3 : Nat)]] w fun e w' => e = .returned (.agg #[.int .u64 (limb (a * b) 0 : Nat), .int .u64 (limb (a * b) 1 : Nat), .int .u64 (limb (a * b) 2 : Nat), .int .u64 (limb (a * b) 3 : Nat), .int .u64 (limb (a * b) 4 : Nat), .int .u64 (limb (a * b) 5 : Nat), .int .u64 (limb (a * b) 6 : Nat), .int .u64 (limb (a * b) 7 : Nat)]) ∧ Below w.heap.size w w' := by
  have HT : Hid _ := tst_all a b ha hb
  obtain ⟨V, hV⟩ : ∃ V, V = a * b := ⟨_, rfl⟩
  rw [← hV] at HT
  rw [← hV]
  clear hV ha hb
  go_enter Tryd.func32, Tryd.ntmps32
  go_wp2_with fail
  go_loopw [6] (fun v wr => ∃ i : Nat, i ≤ 4 ∧ v = .int .i64 i ∧ TmAt w wr a b (tst a b i))
    (fun v _ => 4 - (intOf v).toNat)
  case atStart =>
    refine ⟨0, by omega, rfl, by ((repeat' (first | assumption | (refine Num4.new' ?_; first | omega | (simp; done)) | refine Num4.set ?_ ?_ | refine Num4.alloc ?_ ?_ | refine Num4.drewN ?_ | refine Num4.call ?_ (by assumption) ?_)) <;> (first | omega | (simp; done) | (simp; omega))), by ((repeat' (first | assumption | (refine Num4.new' ?_; first | omega | (simp; done)) | refine Num4.set ?_ ?_ | refine Num4.alloc ?_ ?_ | refine Num4.drewN ?_ | refine Num4.call ?_ (by assumption) ?_)) <;> (first | omega | (simp; done) | (simp; omega))), ?_, ?_, by ((repeat' (first | with_reducible exact Below.refl _ _ | with_reducible refine Below.setCell ?_ ?_ _ | with_reducible refine below_alloc0 ?_ _ | with_reducible refine below_drewN ?_ _ | with_reducible refine Below.drew ?_ | refine below_call0 ?_ (by assumption))) <;> (first | omega | (simp; done) | (simp; omega)))⟩
    · have h := Row8.new ((w.alloc (.cells #[.int .u64 (limb a 0 : Nat), .int .u64 (limb a 1 : Nat), .int .u64 (limb a 2 : Nat), .int .u64 (limb a 3 : Nat)] 27)).alloc (.cells #[.int .u64 (limb b 0 : Nat), .int .u64 (limb b 1 : Nat), .int .u64 (limb b 2 : Nat), .int .u64 (limb b 3 : Nat)] 27)) 85
      simp only [World.size_alloc] at h
      exact h.alloc
    · have h := Row8.new (((w.alloc (.cells #[.int .u64 (limb a 0 : Nat), .int .u64 (limb a 1 : Nat), .int .u64 (limb a 2 : Nat), .int .u64 (limb a 3 : Nat)] 27)).alloc (.cells #[.int .u64 (limb b 0 : Nat), .int .u64 (limb b 1 : Nat), .int .u64 (limb b 2 : Nat), .int .u64 (limb b 3 : Nat)] 27)).alloc (.cells #[.int .u64 0, .int .u64 0, .int .u64 0, .int .u64 0, .int .u64 0, .int .u64 0, .int .u64 0, .int .u64 0] 85)) 85
      simp only [World.size_alloc] at h
      exact h
  case round =>
    obtain ⟨i, hi, rfl, hT⟩ := hrel
    by_cases hi4 : i < 4
    · have hi0 : (0 : Int) ≤ (i : Int) := by omega
      have hi5 : (i : Int) < 4 := by omega
      have ga := hT.1 i hi4
      by_cases hz : limb a i = 0
      · have HN : Hid (TmAt w wr a b (tst a b (i + 1))) := hT.congr fun j _ => (tst_zero a b i hz j).symm
        rw [hz] at ga
        clear hT hz
        go_wp2
        go_roundw
        case rel => exact ⟨i + 1, by omega, by go_num, HN.out⟩
        case measure => simp [intOf]; omega
      · have hz' : ((limb a i : Int) == 0) = false := by simpa using hz
        have HN : Hid (TmAt w wr a b (trow a b i 0)) := hT.congr fun j _ => (trow_none a b i j).symm
        clear hT
        go_wp2_with fail
        go_loopw [7, 8] (fun c v wq => ∃ k : Nat, k ≤ 4 ∧ v = .int .i64 k ∧ c = .int .u64 (tcar a b i k : Nat) ∧ TmAt w wq a b (trow a b i k))
          (fun _ v _ => 4 - (intOf v).toNat)
        case atStart => exact ⟨0, by omega, rfl, rfl, HN.out⟩
        case round =>
          obtain ⟨k, hk, rfl, rfl, hQ⟩ := hrel
          clear HN
          by_cases hk4 : k < 4
          · have hk0 : (0 : Int) ≤ (k : Int) := by omega
            have hk5 : (k : Int) < 4 := by omega
            obtain ⟨n, hn⟩ : ∃ n, n = i + k := ⟨_, rfl⟩
            obtain ⟨lo, hlo⟩ : ∃ x, x = mulL (limb a i) (limb b k) := ⟨_, rfl⟩
            obtain ⟨hh, hhh⟩ : ∃ x, x = mulH (limb a i) (limb b k) := ⟨_, rfl⟩
            obtain ⟨o, ho⟩ : ∃ x, x = tst a b i (i + k) := ⟨_, rfl⟩
            obtain ⟨c, hc⟩ : ∃ x, x = tcar a b i k := ⟨_, rfl⟩
            obtain ⟨s, hs⟩ : ∃ x, x = addS lo o 0 := ⟨_, rfl⟩
            obtain ⟨c1, hc1⟩ : ∃ x, x = addC lo o 0 := ⟨_, rfl⟩
            obtain ⟨t, ht⟩ : ∃ x, x = addS s c 0 := ⟨_, rfl⟩
            obtain ⟨d, hd⟩ : ∃ x, x = addC s c 0 := ⟨_, rfl⟩
            have key := mulAdd_eq (limb a i) (limb b k) o c
            have lt := maH_lt (limb a i) (limb b k) o c (limb_lt _ _) (limb_lt _ _) (by rw [ho]; exact tst_lt _ _ _ _) (by rw [hc]; exact tcar_lt _ _ _ _)
            rw [← hlo, ← hhh, ← hs, ← hc1, ← ht, ← hd] at key
            obtain ⟨u, hu⟩ : ∃ u, u = hh + c1 := ⟨_, rfl⟩
            obtain ⟨v, hv⟩ : ∃ v, v = u + d := ⟨_, rfl⟩
            have lt2 : hh + c1 + d < 18446744073709551616 := by rw [key.2]; exact lt
            have w1 : IntKind.u64.wrap ((hh : Int) + (c1 : Int)) = (u : Nat) := by rw [addN', wrapN _ (by omega), hu]
            have w2 : IntKind.u64.wrap ((u : Int) + (d : Int)) = (v : Nat) := by rw [addN', wrapN _ (by omega), hv]
            have w3 : IntKind.i64.wrap ((i : Int) + (k : Int)) = (n : Nat) := by rw [IntKind.wrap_i64]; omega
            have vt : v = tcar a b i (k + 1) := by rw [hv, hu, key.2, ho, hc]; rfl
            have tt : t = tst a b (i + 1) (i + k) := by rw [key.1, ho, hc]; exact trow_step a b i k hk4
            have A1 : ∀ w', (callFunc 39 #[.int .u64 (lo : Nat), .int .u64 (o : Nat), .int .u64 0]).run Tryd.prog w' = .ok (.value (.tuple #[.int .u64 (s : Nat), .int .u64 (c1 : Nat)])) w' := fun w' => by rw [hs, hc1]; exact add64_0 _ _ w'
            have A2 : ∀ w', (callFunc 39 #[.int .u64 (s : Nat), .int .u64 (c : Nat), .int .u64 0]).run Tryd.prog w' = .ok (.value (.tuple #[.int .u64 (t : Nat), .int .u64 (d : Nat)])) w' := fun w' => by rw [ht, hd]; exact add64_0 _ _ w'
            have km := fun w' => mul64 (limb a i) (limb b k) (limb_lt _ _) (limb_lt _ _) w'
            rw [← hlo, ← hhh] at km
            have KM : Hid _ := km
            have ga' := hQ.1 i hi4
            have gb := hQ.2.1 k hk4
            have n8 : n < 8 := by omega
            have go : wr.cell? ⟨w.heap.size + 1 + 1 + 1, n, none⟩ = some (.int .u64 (o : Nat)) := by
              have g := hQ.2.2.2.1.1 n n8
              rw [hn, trow_at, ← ho] at g
              rw [hn]
              exact g
            have gf := hQ.2.2.2.1.2.1 n n8
            have hn0 : (0 : Int) ≤ (n : Int) := by omega
            have hn8 : (n : Int) < 8 := by omega
            have HQ : Hid (∀ j, TmAt w ((wr.drewN j).setCell ⟨w.heap.size + 1 + 1 + 1, n, none⟩ (.int .u64 (t : Nat))) a b (trow a b i (k + 1))) := fun j => hQ.drewN.put n8 (fun x _ hx => trow_next a b i k x (by omega)) (by rw [hn, trow_self, tt])
            have HV : Hid _ := vt
            rw [← hc]
            clear hn hlo hhh ho hc hs hc1 ht hd key lt hu hv lt2 vt tt km hQ n8 ga
            go_wp2_with fail
            go_quiet ((go_at_call 41; exact Calls.quiet_of_same (KM.out _)))
            go_wp2_with (first | simp only [A1] | simp only [A2])
            go_roundw
            case rel => first | exact ⟨k + 1, by omega, by go_num, by rw [← HV.out], HQ.out _⟩ | ((repeat apply Exists.intro); exact ⟨⟨k + 1, by omega, by go_num, by rw [← HV.out], HQ.out _⟩, rfl⟩)
            case measure => simp [intOf]; omega
          · obtain rfl : k = 4 := by omega
            obtain ⟨n, hn⟩ : ∃ n, n = i + 4 := ⟨_, rfl⟩
            obtain ⟨c, hc⟩ : ∃ c, c = tcar a b i 4 := ⟨_, rfl⟩
            have w3 : IntKind.i64.wrap ((i : Int) + 4) = (n : Nat) := by rw [IntKind.wrap_i64]; omega
            have n8 : n < 8 := by omega
            have go := hQ.2.2.2.1.1 n n8
            have gf := hQ.2.2.2.1.2.1 n n8
            have hn0 : (0 : Int) ≤ (n : Int) := by omega
            have hn8 : (n : Int) < 8 := by omega
            have HQ : Hid (TmAt w (wr.setCell ⟨w.heap.size + 1 + 1 + 1, n, none⟩ (.int .u64 (c : Nat))) a b (tst a b (i + 1))) := hQ.put n8 (fun x _ hx => (trow_done a b i x (by omega)).symm) (by rw [hn, hc, tcar_four])
            rw [← hc]
            clear hn hc hQ n8 ga
            go_wp2_with fail
            go_roundw
            case rel => first | exact ⟨i + 1, by omega, by go_num, HQ.out⟩ | ((repeat apply Exists.intro); exact ⟨⟨i + 1, by omega, by go_num, HQ.out⟩, rfl⟩)
            case measure => simp [intOf]; omega
    · obtain rfl : i = 4 := by omega
      have hR := hT.2.2.2.1.congr HT.out
      obtain ⟨⟨r0, r1, r2, r3, r4, r5, r6, r7⟩, _, _⟩ := hR.facts
      obtain ⟨⟨p0, p1, p2, p3, p4, p5, p6, p7⟩, ⟨f0, f1, f2, f3, f4, f5, f6, f7⟩, pz⟩ := hT.2.2.1.facts
      have WP := hT.2.2.2.2
      clear hT hR HT
      go_wp2
      refine bodyPost_ret (v := .agg #[.int .u64 (limb (V) 0 : Nat), .int .u64 (limb (V) 1 : Nat), .int .u64 (limb (V) 2 : Nat), .int .u64 (limb (V) 3 : Nat), .int .u64 (limb (V) 4 : Nat), .int .u64 (limb (V) 5 : Nat), .int .u64 (limb (V) 6 : Nat), .int .u64 (limb (V) 7 : Nat)]) ?_ rfl ⟨rfl, ?_⟩
      · simp [results, Tryd.results32, go_sem, p0, p1, p2, p3, p4, p5, p6, p7]
      · ((repeat' (first | with_reducible exact Below.refl _ _ | with_reducible refine Below.setCell ?_ ?_ _ | with_reducible refine below_alloc0 ?_ _ | with_reducible refine below_drewN ?_ _ | with_reducible refine Below.drew ?_ | refine below_call0 ?_ (by assumption))) <;> (first | omega | (simp; done) | (simp; omega)))
end Go.Proofs.YtbpgiijdcagckaaDoor
