/- wardmoteref02.Field.Reduce: the remainder of a wide number, by the reference. -/
import Derived.Test.YtbpgiijdcagckaaDoorRef2T
import Derived.Test.YtbpgiijdcagckaaDoorFdA
import Derived.Deep.DeepCutAuto
namespace Go.Proofs.YtbpgiijdcagckaaDoor
open Go.RowKit

/-- The gap to 2^256 is small: so few rounds are enough. -/
def FS (m : Nat) : Prop := R256 - m < 2 ^ 130
theorem FS_P : FS PP := by unfold FS; decide
theorem FS_Q : FS QQ := by unfold FS; decide
/-- What is left behind i rounds is below this. -/
def UB : Nat → Nat
  | 0 => R256 * R256
  | 1 => R256 * 2 ^ 131
  | 2 => R256 * 64
  | 3 => R256 + 2 ^ 136
  | _ + 4 => R256
theorem mul_lt_of {g G h H : Nat} (hg : g < G) (hh : h < H) : g * h ≤ G * H := Nat.mul_le_mul (Nat.le_of_lt hg) (Nat.le_of_lt hh)
theorem UB_step (i lo hi g : Nat) (hlo : lo < R256) (h : lo + R256 * hi < UB i) (h0 : hi ≠ 0) (hg : g < 2 ^ 130) : lo + hi * g < UB (i + 1) := by
  match i with
  | 0 =>
    have hh : hi < R256 := by
      rcases Nat.lt_or_ge hi R256 with q | q
      · exact q
      · have := Nat.mul_le_mul_left R256 q
        have e : UB 0 = R256 * R256 := rfl
        omega
    have p := mul_lt_of hh hg
    show lo + hi * g < R256 * 2 ^ 131
    have e : R256 * 2 ^ 130 + R256 ≤ R256 * 2 ^ 131 := by decide
    omega
  | 1 =>
    have hh : hi < 2 ^ 131 := by
      have e : UB 1 = R256 * 2 ^ 131 := rfl
      rw [e] at h
      exact Nat.lt_of_mul_lt_mul_left (a := R256) (by omega)
    have p := mul_lt_of hh hg
    show lo + hi * g < R256 * 64
    have e : 2 ^ 131 * 2 ^ 130 + R256 ≤ R256 * 64 := by decide
    omega
  | 2 =>
    have hh : hi < 64 := by
      have e : UB 2 = R256 * 64 := rfl
      rw [e] at h
      exact Nat.lt_of_mul_lt_mul_left (a := R256) (by omega)
    have p := mul_lt_of hh hg
    show lo + hi * g < R256 + 2 ^ 136
    have e : 64 * 2 ^ 130 = 2 ^ 136 := by decide
    omega
  | 3 =>
    have e3 : UB 3 = R256 + 2 ^ 136 := rfl
    rw [e3] at h
    have h1 : hi = 1 := by
      rcases Nat.lt_or_ge hi 2 with q | q
      · omega
      · have := Nat.mul_le_mul_left R256 q
        have e : 2 ^ 136 < R256 := by decide
        omega
    subst h1
    show lo + 1 * g < R256
    have e : 2 ^ 136 + 2 ^ 130 < R256 := by decide
    omega
  | i + 4 =>
    have e : UB (i + 4) = R256 := rfl
    rw [e] at h
    have : R256 * 1 ≤ R256 * hi := Nat.mul_le_mul_left _ (by omega)
    omega
theorem UB_le (i : Nat) : UB i ≤ R256 * R256 := by
  match i with
  | 0 => exact Nat.le_refl _
  | 1 => show R256 * 2 ^ 131 ≤ R256 * R256; decide
  | 2 => show R256 * 64 ≤ R256 * R256; decide
  | 3 => show R256 + 2 ^ 136 ≤ R256 * R256; decide
  | i + 4 => show R256 ≤ R256 * R256; decide

/-- What the loops of the reference's Reduce keep. -/
def RdAt (w wx : World) (m lo hi : Nat) : Prop := FieldB wx w.heap.size m ∧ Pend wx (w.heap.size + 1 + 1) ∧ Own4 wx (w.heap.size + 1 + 1 + 1) lo ∧ Own4 wx (w.heap.size + 1 + 1 + 1 + 1) hi ∧ Below w.heap.size w wx
theorem RdAt.call {w W w1 : World} {m lo hi : Nat} (h : RdAt w W m lo hi) (hb : Below W.heap.size W w1) : RdAt w w1 m lo hi :=
  ⟨h.1.call hb, h.2.1.call hb, h.2.2.1.call hb, h.2.2.2.1.call hb, below_call0 h.2.2.2.2 hb⟩
theorem RdAt.alloc {w W : World} {m lo hi : Nat} {o : Obj} (h : RdAt w W m lo hi) : RdAt w (W.alloc o) m lo hi := h.call ((Below.refl _ _).alloc (Nat.le_refl _) o)
theorem FieldB.setB {W : World} {g m : Nat} {a : Addr} {v : Value} (h : FieldB W g m) (hne : a.block ≠ g) : FieldB (W.setCell a v) g m :=
  ⟨h.1.set hne, fun j hj => by rw [World.cell?_setCell_other _ _ _ _ (by intro c; apply hne; rw [c])]; exact h.2.1 j hj, by rw [World.size_setCell]; exact h.2.2⟩
theorem RdAt.putLo {w W : World} {m lo hi : Nat} (h : RdAt w W m lo hi) (k : Nat) : RdAt w ((((W.setCell ⟨w.heap.size + 1 + 1 + 1, 0, none⟩ (.int .u64 (limb k 0 : Nat))).setCell ⟨w.heap.size + 1 + 1 + 1, 1, none⟩ (.int .u64 (limb k 1 : Nat))).setCell ⟨w.heap.size + 1 + 1 + 1, 2, none⟩ (.int .u64 (limb k 2 : Nat))).setCell ⟨w.heap.size + 1 + 1 + 1, 3, none⟩ (.int .u64 (limb k 3 : Nat))) m k hi := by
  have n1 : w.heap.size + 1 + 1 + 1 ≠ w.heap.size := by omega
  have n2 : w.heap.size + 1 + 1 + 1 ≠ w.heap.size + 1 + 1 := by omega
  have n3 : w.heap.size + 1 + 1 + 1 ≠ w.heap.size + 1 + 1 + 1 + 1 := by omega
  have n5 : w.heap.size ≤ w.heap.size + 1 + 1 + 1 := by omega
  exact ⟨(((h.1.setB n1).setB n1).setB n1).setB n1, (((h.2.1.set n2).set n2).set n2).set n2, h.2.2.1.put, (((h.2.2.2.1.set n3).set n3).set n3).set n3, (((h.2.2.2.2.setCell n5 _).setCell n5 _).setCell n5 _).setCell n5 _⟩
theorem RdAt.putHi {w W : World} {m lo hi : Nat} (h : RdAt w W m lo hi) (k : Nat) : RdAt w ((((W.setCell ⟨w.heap.size + 1 + 1 + 1 + 1, 0, none⟩ (.int .u64 (limb k 0 : Nat))).setCell ⟨w.heap.size + 1 + 1 + 1 + 1, 1, none⟩ (.int .u64 (limb k 1 : Nat))).setCell ⟨w.heap.size + 1 + 1 + 1 + 1, 2, none⟩ (.int .u64 (limb k 2 : Nat))).setCell ⟨w.heap.size + 1 + 1 + 1 + 1, 3, none⟩ (.int .u64 (limb k 3 : Nat))) m lo k := by
  have n1 : w.heap.size + 1 + 1 + 1 + 1 ≠ w.heap.size := by omega
  have n2 : w.heap.size + 1 + 1 + 1 + 1 ≠ w.heap.size + 1 + 1 := by omega
  have n3 : w.heap.size + 1 + 1 + 1 + 1 ≠ w.heap.size + 1 + 1 + 1 := by omega
  have n5 : w.heap.size ≤ w.heap.size + 1 + 1 + 1 + 1 := by omega
  exact ⟨(((h.1.setB n1).setB n1).setB n1).setB n1, (((h.2.1.set n2).set n2).set n2).set n2, (((h.2.2.1.set n3).set n3).set n3).set n3, h.2.2.2.1.put, (((h.2.2.2.2.setCell n5 _).setCell n5 _).setCell n5 _).setCell n5 _⟩
def cellNat (w : World) (b j : Nat) : Nat := match w.cell? ⟨b, j, none⟩ with
  | some (.int _ n) => n.toNat
  | _ => 0
def numAt (w : World) (b : Nat) : Nat := join4 (cellNat w b 0) (cellNat w b 1) (cellNat w b 2) (cellNat w b 3)
theorem numAt_eq {w : World} {b n : Nat} (h : Num4 w b n) (hn : n < R256) : numAt w b = n := by
  obtain ⟨h0, h1, h2, h3⟩ := h.facts
  unfold numAt cellNat
  rw [h0, h1, h2, h3]
  exact join_limb n hn

theorem addK_val' (a b : Nat) : R256 * addK a b + addN a b = a + b := by unfold addK addN; rw [Nat.add_comm, Nat.mod_add_div]
theorem limb_some' (m : Nat) (hm : m < R256) (h0 : 0 < m) : ¬ (limb m 0 = 0 ∧ limb m 1 = 0 ∧ limb m 2 = 0 ∧ limb m 3 = 0) := by
  rintro ⟨e0, e1, e2, e3⟩
  have j := join_limb m hm
  rw [e0, e1, e2, e3] at j
  unfold join4 at j
  omega
set_option maxRecDepth 100000 in
set_option maxHeartbeats 4000000 in
theorem reduce2_any (m V : Nat) (hF : FM m) (hS : FS m) (hV : V < R256 * R256) (w : World) :
    Calls Tryd.prog 31 #[.agg #[.int .u64 (limb m 0 : Nat), .int .u64 (limb m 1 : Nat), .int .u64 (limb m 2 : Nat), .int .u64 (limb m 3 : Nat), .int .u64 (limb (R256 - m) 0 : Nat), .int .u64 (limb (R256 - m) 1 : Nat), .int .u64 (limb (R256 - m) 2 : Nat), .int .u64 (limb (R256 - m) 3 : Nat)], .agg #[.int .u64 (limb (V) 0 : Nat), .int .u64 (limb (V) 1 : Nat), .int .u64 (limb (V) 2 : Nat), .int .u64 (limb (V) 3 : Nat), .int .u64 (limb (V) 4 : Nat), .int .u64 (limb (V) 5 : Nat), .int .u64 (limb (V) 6 : Nat), .int .u64 (limb (V) 7 : Nat)]] w fun e w' => e = .returned (.agg #[.int .u64 (limb (V % m) 0 : Nat), .int .u64 (limb (V % m) 1 : Nat), .int .u64 (limb (V % m) 2 : Nat), .int .u64 (limb (V % m) 3 : Nat)]) ∧ Below w.heap.size w w' := by
  obtain ⟨r, hr⟩ : ∃ r, r = V % m := ⟨_, rfl⟩
  rw [← hr]
  obtain ⟨G, hG⟩ : ∃ G, G = R256 - m := ⟨_, rfl⟩
  have mR := hF.2.1
  have m1 := hF.pos
  have m2 := hF.1
  have HG : Hid (G = R256 - m ∧ G < 2 ^ 130 ∧ G < R256) := ⟨hG, by rw [hG]; exact hS, by omega⟩
  have HVV : Hid _ := And.intro hr hV
  have HFB : Hid (∀ W t, FieldB ((W : World).alloc (.cells #[.int .u64 (limb m 0 : Nat), .int .u64 (limb m 1 : Nat), .int .u64 (limb m 2 : Nat), .int .u64 (limb m 3 : Nat), .int .u64 (limb (R256 - m) 0 : Nat), .int .u64 (limb (R256 - m) 1 : Nat), .int .u64 (limb (R256 - m) 2 : Nat), .int .u64 (limb (R256 - m) 3 : Nat)] t)) W.heap.size m) := fun W t => ⟨by refine limbs4 _ ?_ ?_ ?_ ?_ <;> simp [go_sem], by refine limbs4 _ ?_ ?_ ?_ ?_ <;> simp [go_sem], by simp⟩
  rw [← hG] at HFB
  rw [← hG]
  clear hr hG hS hF hV
  go_enter Tryd.func31, Tryd.ntmps31
  go_wp2_with fail
  go_loopw [7] (fun v wr => ∃ i lo hi : Nat, (i ≤ 8 ∧ lo < R256 ∧ hi < R256 ∧ (lo + R256 * hi) % m = r ∧ lo + R256 * hi < UB i) ∧ v = .int .i64 i ∧ RdAt w wr m lo hi)
    (fun v _ => 8 - (intOf v).toNat)
  case atStart =>
    refine ⟨0, V % R256, V / R256, ⟨by omega, Nat.mod_lt _ (by decide), Nat.div_lt_of_lt_mul HVV.out.2, by rw [Nat.mod_add_div, HVV.out.1], by rw [Nat.mod_add_div]; exact HVV.out.2⟩, rfl, ?_, ?_, ?_, ?_, by ((repeat' (first | with_reducible exact Below.refl _ _ | with_reducible refine Below.setCell ?_ ?_ _ | with_reducible refine below_alloc0 ?_ _ | with_reducible refine below_drewN ?_ _ | with_reducible refine Below.drew ?_ | refine below_call0 ?_ (by assumption))) <;> (first | omega | (simp; done) | (simp; omega)))⟩
    · exact FieldB.alloc (FieldB.alloc (FieldB.alloc (FieldB.alloc (HFB.out w _))))
    · have h := Pend.new ((w.alloc (.cells #[.int .u64 (limb m 0 : Nat), .int .u64 (limb m 1 : Nat), .int .u64 (limb m 2 : Nat), .int .u64 (limb m 3 : Nat), .int .u64 (limb (G) 0 : Nat), .int .u64 (limb (G) 1 : Nat), .int .u64 (limb (G) 2 : Nat), .int .u64 (limb (G) 3 : Nat)] 69)).alloc (.cells #[.int .u64 (limb V 0 : Nat), .int .u64 (limb V 1 : Nat), .int .u64 (limb V 2 : Nat), .int .u64 (limb V 3 : Nat), .int .u64 (limb V 4 : Nat), .int .u64 (limb V 5 : Nat), .int .u64 (limb V 6 : Nat), .int .u64 (limb V 7 : Nat)] 85)) 27
      simp only [World.size_alloc] at h
      exact h.alloc.alloc
    · have h := Own4.new (((w.alloc (.cells #[.int .u64 (limb m 0 : Nat), .int .u64 (limb m 1 : Nat), .int .u64 (limb m 2 : Nat), .int .u64 (limb m 3 : Nat), .int .u64 (limb (G) 0 : Nat), .int .u64 (limb (G) 1 : Nat), .int .u64 (limb (G) 2 : Nat), .int .u64 (limb (G) 3 : Nat)] 69)).alloc (.cells #[.int .u64 (limb V 0 : Nat), .int .u64 (limb V 1 : Nat), .int .u64 (limb V 2 : Nat), .int .u64 (limb V 3 : Nat), .int .u64 (limb V 4 : Nat), .int .u64 (limb V 5 : Nat), .int .u64 (limb V 6 : Nat), .int .u64 (limb V 7 : Nat)] 85)).alloc (.cells #[.int .u64 0, .int .u64 0, .int .u64 0, .int .u64 0] 27)) (V % R256) 27
      rw [limb_mod _ _ (by omega), limb_mod _ _ (by omega), limb_mod _ _ (by omega), limb_mod _ _ (by omega)] at h
      simp only [World.size_alloc] at h
      exact h.alloc
    · have h := Own4.new ((((w.alloc (.cells #[.int .u64 (limb m 0 : Nat), .int .u64 (limb m 1 : Nat), .int .u64 (limb m 2 : Nat), .int .u64 (limb m 3 : Nat), .int .u64 (limb (G) 0 : Nat), .int .u64 (limb (G) 1 : Nat), .int .u64 (limb (G) 2 : Nat), .int .u64 (limb (G) 3 : Nat)] 69)).alloc (.cells #[.int .u64 (limb V 0 : Nat), .int .u64 (limb V 1 : Nat), .int .u64 (limb V 2 : Nat), .int .u64 (limb V 3 : Nat), .int .u64 (limb V 4 : Nat), .int .u64 (limb V 5 : Nat), .int .u64 (limb V 6 : Nat), .int .u64 (limb V 7 : Nat)] 85)).alloc (.cells #[.int .u64 0, .int .u64 0, .int .u64 0, .int .u64 0] 27)).alloc (.cells #[.int .u64 (limb V 0 : Nat), .int .u64 (limb V 1 : Nat), .int .u64 (limb V 2 : Nat), .int .u64 (limb V 3 : Nat)] 27)) (V / R256) 27
      rw [limb_div, limb_div, limb_div, limb_div] at h
      simp only [World.size_alloc] at h
      exact h
  case round =>
    obtain ⟨i, lo, hi, ⟨hi8, loR, hiR, hval, hub⟩, rfl, hR⟩ := hrel
    by_cases hz : hi = 0
    · subst hz
      rw [Nat.mul_zero, Nat.add_zero] at hval
      have HR : Hid (RdAt w wr m lo 0) := hR
      have HL : Hid _ := And.intro loR hval
      obtain ⟨⟨o0, o1, o2, o3⟩, _, oz⟩ := hR.2.2.2.1.facts
      rw [limb_nought] at o0 o1 o2 o3
      have parts : i < 8 ∨ i = 8 := by omega
      clear hR loR hiR hval hub HFB HVV hi8
      have hd : i < 8 → decide ((i : Int) < 8) = true := fun h => by simp; omega
      have hd2 : i = 8 → decide ((i : Int) < 8) = false := fun h => by simp; omega
      have parts2 : decide ((i : Int) < 8) = true ∨ decide ((i : Int) < 8) = false := by rcases parts with h | h; exact .inl (hd h); exact .inr (hd2 h)
      clear parts hd hd2
      rcases parts2 with hdd | hdd
      all_goals
        go_wp2_with fail
        go_loopw [] (fun wr => ∃ x : Nat, (x < R256 ∧ x % m = r) ∧ RdAt w wr m x 0) (fun wr => numAt wr (w.heap.size + 1 + 1 + 1))
        case atStart => exact ⟨lo, HL.out, HR.out⟩
        case round =>
          obtain ⟨x, ⟨xR, xr⟩, hX⟩ := hrel
          clear HR HL o0 o1 o2 o3 oz
          obtain ⟨⟨a0, a1, a2, a3⟩, _, az⟩ := hX.2.2.1.facts
          obtain ⟨b0, b1, b2, b3⟩ := hX.1.1.facts
          have bz := hX.1.2.2
          have HX : Hid (RdAt w wr m x 0) := hX
          by_cases hxm : x < m
          · have kl : ∀ w, Calls Tryd.prog 28 #[.agg #[.int .u64 (limb (x) 0 : Nat), .int .u64 (limb (x) 1 : Nat), .int .u64 (limb (x) 2 : Nat), .int .u64 (limb (x) 3 : Nat)], .agg #[.int .u64 (limb (m) 0 : Nat), .int .u64 (limb (m) 1 : Nat), .int .u64 (limb (m) 2 : Nat), .int .u64 (limb (m) 3 : Nat)]] w fun e w' => e = .returned (.bool true) ∧ Below w.heap.size w w' := fun w => by
              have k := less_ref x m xR mR w
              rw [decide_eq_true hxm] at k
              exact k
            have KL : Hid _ := kl
            rw [Nat.mod_eq_of_lt hxm] at xr
            subst xr
            clear kl hX hxm
            go_wp2_with fail
            refine (KL.out _).mono ?_
            rintro e w2 ⟨rfl, hq2⟩
            have X2 : RdAt w w2 m x 0 := RdAt.call HX.out hq2
            obtain ⟨⟨p0, p1, p2, p3⟩, ⟨f0, f1, f2, f3⟩, pz⟩ := X2.2.1.facts
            obtain ⟨⟨c0, c1, c2, c3⟩, _, cz⟩ := X2.2.2.1.facts
            have W2 := X2.2.2.2.2
            clear hq2 X2 HX KL a0 a1 a2 a3 b0 b1 b2 b3 bz az
            go_wp2
            refine bodyPost_ret (v := .agg #[.int .u64 (limb (x) 0 : Nat), .int .u64 (limb (x) 1 : Nat), .int .u64 (limb (x) 2 : Nat), .int .u64 (limb (x) 3 : Nat)]) ?_ rfl ⟨rfl, ?_⟩
            · simp [results, Tryd.results31, go_sem, p0, p1, p2, p3]
            · ((repeat' (first | with_reducible exact Below.refl _ _ | with_reducible refine Below.setCell ?_ ?_ _ | with_reducible refine below_alloc0 ?_ _ | with_reducible refine below_drewN ?_ _ | with_reducible refine Below.drew ?_ | refine below_call0 ?_ (by assumption))) <;> (first | omega | (simp; done) | (simp; omega)))
          · have kl : ∀ w, Calls Tryd.prog 28 #[.agg #[.int .u64 (limb (x) 0 : Nat), .int .u64 (limb (x) 1 : Nat), .int .u64 (limb (x) 2 : Nat), .int .u64 (limb (x) 3 : Nat)], .agg #[.int .u64 (limb (m) 0 : Nat), .int .u64 (limb (m) 1 : Nat), .int .u64 (limb (m) 2 : Nat), .int .u64 (limb (m) 3 : Nat)]] w fun e w' => e = .returned (.bool false) ∧ Below w.heap.size w w' := fun w => by
              have k := less_ref x m xR mR w
              rw [decide_eq_false hxm] at k
              exact k
            obtain ⟨y, hy⟩ : ∃ y, y = x - m := ⟨_, rfl⟩
            have km : ∀ w, Calls Tryd.prog 30 #[.agg #[.int .u64 (limb (x) 0 : Nat), .int .u64 (limb (x) 1 : Nat), .int .u64 (limb (x) 2 : Nat), .int .u64 (limb (x) 3 : Nat)], .agg #[.int .u64 (limb (m) 0 : Nat), .int .u64 (limb (m) 1 : Nat), .int .u64 (limb (m) 2 : Nat), .int .u64 (limb (m) 3 : Nat)]] w fun e w' => e = .returned (.agg #[.int .u64 (limb (y) 0 : Nat), .int .u64 (limb (y) 1 : Nat), .int .u64 (limb (y) 2 : Nat), .int .u64 (limb (y) 3 : Nat)]) ∧ Below w.heap.size w w' := fun w => by
              have k := minus2_any x m xR mR w
              rw [show subN x m = y from by rw [hy]; unfold subN; rw [show x + R256 - m = (x - m) + R256 from by omega, Nat.add_mod_right, Nat.mod_eq_of_lt (by omega)]] at k
              exact k
            have KL : Hid _ := kl
            have KM : Hid _ := km
            have HY : Hid (y < R256 ∧ y % m = r ∧ y < x) := ⟨by omega, by rw [hy, ← xr, ← Nat.mod_eq_sub_mod (by omega)], by omega⟩
            clear kl km hX hxm hy xr
            go_wp2_with fail
            refine (KL.out _).mono ?_
            rintro e w2 ⟨rfl, hq2⟩
            have X2 : RdAt w w2 m x 0 := RdAt.call HX.out hq2
            have HX2 : Hid (RdAt w w2 m x 0) := X2
            obtain ⟨⟨c0, c1, c2, c3⟩, _, cz⟩ := X2.2.2.1.facts
            obtain ⟨d0, d1, d2, d3⟩ := X2.1.1.facts
            have dz := X2.1.2.2
            clear hq2 X2 KL a0 a1 a2 a3 b0 b1 b2 b3 bz az
            go_wp2_with fail
            refine (KM.out _).mono ?_
            rintro e w3 ⟨rfl, hq3⟩
            have X3 : RdAt w w3 m x 0 := RdAt.call HX2.out hq3
            obtain ⟨⟨e0, e1, e2, e3⟩, ⟨f0, f1, f2, f3⟩, ez⟩ := X3.2.2.1.facts
            have HX4 : Hid (RdAt w _ m y 0) := X3.putLo y
            clear hq3 X3 HX2 KM c0 c1 c2 c3 cz d0 d1 d2 d3 dz
            go_wp2_with fail
            go_roundw
            case rel => first | exact ⟨y, ⟨HY.out.1, HY.out.2.1⟩, HX4.out⟩ | ((repeat apply Exists.intro); exact ⟨⟨y, ⟨HY.out.1, HY.out.2.1⟩, HX4.out⟩, rfl⟩)
            case measure =>
              have h1 := numAt_eq HX4.out.2.2.1.1 HY.out.1
              have h2 := numAt_eq (RdAt.call HX.out (Below.refl _ _)).2.2.1.1 xR
              rw [h1, h2]
              exact HY.out.2.2
    · have hlt : i < 8 := by
        rcases Nat.lt_or_ge i 8 with q | q
        · exact q
        · obtain rfl : i = 8 := by omega
          have e : UB 8 = R256 := rfl
          rw [e] at hub
          have : R256 * 1 ≤ R256 * hi := Nat.mul_le_mul_left _ (by omega)
          omega
      obtain ⟨P, hP⟩ : ∃ P, P = G * hi := ⟨_, rfl⟩
      obtain ⟨Pl, hPl⟩ : ∃ Pl, Pl = P % R256 := ⟨_, rfl⟩
      obtain ⟨Ph, hPh⟩ : ∃ Ph, Ph = P / R256 := ⟨_, rfl⟩
      obtain ⟨lo2, hlo2⟩ : ∃ x, x = addN lo Pl := ⟨_, rfl⟩
      obtain ⟨k, hk⟩ : ∃ k, k = addK lo Pl := ⟨_, rfl⟩
      have PlR : Pl < R256 := by rw [hPl]; exact Nat.mod_lt _ (by decide)
      have k1 : k ≤ 1 := by rw [hk]; exact addK_le lo Pl loR PlR
      have lo2R : lo2 < R256 := by rw [hlo2]; exact addN_lt _ _
      have e1 : R256 * k + lo2 = lo + Pl := by rw [hk, hlo2]; exact addK_val' lo Pl
      have e2 : P = Pl + R256 * Ph := by rw [hPl, hPh, Nat.mod_add_div]
      have tot : lo2 + R256 * (Ph + k) = lo + hi * G := by
        rw [Nat.mul_comm hi G, ← hP, Nat.mul_add]
        omega
      have ub2 := UB_step i lo hi G loR hub hz HG.out.2.1
      rw [← tot] at ub2
      have hi2R : Ph + k < R256 := by
        have l := UB_le (i + 1)
        exact Nat.lt_of_mul_lt_mul_left (a := R256) (by omega)
      have HV : Hid ((lo2 + R256 * (Ph + k)) % m = r ∧ lo2 + R256 * (Ph + k) < UB (i + 1)) := ⟨by rw [tot, HG.out.1, fold_mod lo hi m mR]; exact hval, ub2⟩
      have kt : ∀ w, Calls Tryd.prog 32 #[.agg #[.int .u64 (limb (G) 0 : Nat), .int .u64 (limb (G) 1 : Nat), .int .u64 (limb (G) 2 : Nat), .int .u64 (limb (G) 3 : Nat)], .agg #[.int .u64 (limb (hi) 0 : Nat), .int .u64 (limb (hi) 1 : Nat), .int .u64 (limb (hi) 2 : Nat), .int .u64 (limb (hi) 3 : Nat)]] w fun e w' => e = .returned (.agg #[.int .u64 (limb (P) 0 : Nat), .int .u64 (limb (P) 1 : Nat), .int .u64 (limb (P) 2 : Nat), .int .u64 (limb (P) 3 : Nat), .int .u64 (limb (P) 4 : Nat), .int .u64 (limb (P) 5 : Nat), .int .u64 (limb (P) 6 : Nat), .int .u64 (limb (P) 7 : Nat)]) ∧ Below w.heap.size w w' := fun w => by
        rw [hP]
        exact times2_any G hi HG.out.2.2 hiR w
      have kp : ∀ w, Calls Tryd.prog 29 #[.agg #[.int .u64 (limb (lo) 0 : Nat), .int .u64 (limb (lo) 1 : Nat), .int .u64 (limb (lo) 2 : Nat), .int .u64 (limb (lo) 3 : Nat)], .agg #[.int .u64 (limb (P) 0 : Nat), .int .u64 (limb (P) 1 : Nat), .int .u64 (limb (P) 2 : Nat), .int .u64 (limb (P) 3 : Nat)]] w fun e w' => e = .returned (.tuple #[.agg #[.int .u64 (limb (lo2) 0 : Nat), .int .u64 (limb (lo2) 1 : Nat), .int .u64 (limb (lo2) 2 : Nat), .int .u64 (limb (lo2) 3 : Nat)], .bool (decide (k = 1))]) ∧ Below w.heap.size w w' := fun w => by
        have h := plus2_any lo Pl loR PlR w
        rw [← hlo2, ← hk, hPl, limb_mod _ _ (by omega), limb_mod _ _ (by omega), limb_mod _ _ (by omega), limb_mod _ _ (by omega)] at h
        exact h
      have lh : limb P 4 = limb Ph 0 ∧ limb P 5 = limb Ph 1 ∧ limb P 6 = limb Ph 2 ∧ limb P 7 = limb Ph 3 := by
        rw [hPh, limb_div, limb_div, limb_div, limb_div]
        exact ⟨rfl, rfl, rfl, rfl⟩
      have hsome := limb_some' hi hiR (by omega)
      have tests : ((limb hi 0 : Int) == 0) = false ∨ ((limb hi 0 : Int) == 0) = true ∧ ((limb hi 1 : Int) == 0) = false ∨ ((limb hi 0 : Int) == 0) = true ∧ ((limb hi 1 : Int) == 0) = true ∧ ((limb hi 2 : Int) == 0) = false ∨ ((limb hi 0 : Int) == 0) = true ∧ ((limb hi 1 : Int) == 0) = true ∧ ((limb hi 2 : Int) == 0) = true ∧ ((limb hi 3 : Int) == 0) = false := by
        simp only [beq_eq_false_iff_ne, beq_iff_eq, ne_eq]
        omega
      have KT : Hid _ := kt
      have KP : Hid _ := kp
      have HLH : Hid _ := lh
      have HR : Hid (RdAt w wr m lo hi) := hR
      have hlt' : (i : Int) < 8 := by omega
      obtain ⟨⟨o0, o1, o2, o3⟩, _, oz⟩ := hR.2.2.2.1.facts
      have HB : Hid _ := And.intro lo2R (And.intro hi2R k1)
      clear kt kp lh hsome hR hP hPl hPh hlo2 hk PlR lo2R e1 e2 tot ub2 hval hub hz loR hiR HFB HVV hi8 k1 hi2R
      have hdd : decide ((i : Int) < 8) = true := by simp; omega
      obtain ⟨g0, g1, g2, g3⟩ := HR.out.1.gap
      rw [← HG.out.1] at g0 g1 g2 g3
      have gz := HR.out.1.2.2
      refine wp_seq_k ?_
      intro K0 hK0
      have HK0 : Hid _ := hK0
      clear hK0
      go_wp2_with fail
      refine HK0.out _ _ ?_
      clear HK0 K0
      refine wp_seq_k ?_
      intro K1 hK1
      apply wp_block
      refine wp_seq_k ?_
      intro K2 hK2
      refine wp_seq_k ?_
      intro K3 hK3
      have HK1 : Hid _ := hK1
      have HK2 : Hid _ := hK2
      have HK3 : Hid _ := hK3
      clear hK1 hK2 hK3
      go_cut [52] (fun v wx => v = .bool false ∧ wx = wr)
      case first =>
        rcases tests with t0 | ⟨t0, t1⟩ | ⟨t0, t1, t2⟩ | ⟨t0, t1, t2, t3⟩
        all_goals
          go_wp2_with fail
          go_meet
          exact ⟨rfl, rfl⟩
      case rest =>
        obtain ⟨rfl, hwc⟩ := hcut
        subst hwc
        clear tests
        refine HK3.out _ _ ?_
        clear HK3 K3
        go_wp2_with fail
        refine HK2.out _ _ ?_
        clear HK2 K2
        go_wp2_with fail
        refine (KT.out _).mono ?_
        rintro e w1 ⟨rfl, hq1⟩
        have R1 : RdAt w w1 m lo hi := RdAt.call HR.out hq1
        obtain ⟨⟨a0, a1, a2, a3⟩, _, az⟩ := R1.2.2.1.facts
        have HR1 : Hid (RdAt w w1 m lo hi) := R1
        clear hq1 R1 KT g0 g1 g2 g3 gz o0 o1 o2 o3 oz HR
        go_wp2_with fail
        refine (KP.out _).mono ?_
        rintro e w2 ⟨rfl, hq2⟩
        have R2 : RdAt w w2 m lo hi := RdAt.call (RdAt.alloc HR1.out) hq2
        have q4 : w2.cell? ⟨w1.heap.size, 4, none⟩ = some (.int .u64 (limb P 4 : Nat)) := (Below.cell (p := ⟨w1.heap.size, 4, none⟩) hq2 (by simp)).trans (by simp [go_sem])
        have q5 : w2.cell? ⟨w1.heap.size, 5, none⟩ = some (.int .u64 (limb P 5 : Nat)) := (Below.cell (p := ⟨w1.heap.size, 5, none⟩) hq2 (by simp)).trans (by simp [go_sem])
        have q6 : w2.cell? ⟨w1.heap.size, 6, none⟩ = some (.int .u64 (limb P 6 : Nat)) := (Below.cell (p := ⟨w1.heap.size, 6, none⟩) hq2 (by simp)).trans (by simp [go_sem])
        have q7 : w2.cell? ⟨w1.heap.size, 7, none⟩ = some (.int .u64 (limb P 7 : Nat)) := (Below.cell (p := ⟨w1.heap.size, 7, none⟩) hq2 (by simp)).trans (by simp [go_sem])
        have z2 := hq2.size
        simp only [World.size_alloc] at z2
        have z3 : w1.heap.size < w2.heap.size := by omega
        obtain ⟨e4, e5, e6, e7⟩ := HLH.out
        rw [e4] at q4
        rw [e5] at q5
        rw [e6] at q6
        rw [e7] at q7
        obtain ⟨⟨a0', a1', a2', a3'⟩, ⟨f0, f1, f2, f3⟩, az'⟩ := R2.2.2.1.facts
        obtain ⟨⟨b0, b1, b2, b3⟩, ⟨d0, d1, d2, d3⟩, bz⟩ := R2.2.2.2.1.facts
        have HR2 : Hid (RdAt w w2 m lo hi) := R2
        have ne1 : w1.heap.size ≠ w.heap.size + 1 + 1 + 1 := by have := HR1.out.2.2.1.2.2; omega
        have ne2 : w1.heap.size ≠ w.heap.size + 1 + 1 + 1 + 1 := by have := HR1.out.2.2.2.1.2.2; omega
        clear hq2 R2 KP a0 a1 a2 a3 az HR1 HLH z2 e4 e5 e6 e7
        have kk : k = 0 ∨ k = 1 := by have := HB.out.2.2; omega
        rcases kk with rfl | rfl
        · rw [Nat.add_zero] at HV HB
          go_wp2_with fail
          refine HK1.out _ _ ?_
          clear HK1 K1
          go_wp2_with fail
          go_roundw
          case rel => first | exact ⟨i + 1, lo2, Ph, ⟨by omega, HB.out.1, HB.out.2.1, HV.out.1, HV.out.2⟩, by go_num, by first | exact ((RdAt.putLo HR2.out lo2).putHi Ph).alloc | exact ((RdAt.putLo HR2.out lo2).alloc).putHi Ph⟩ | ((repeat apply Exists.intro); exact ⟨⟨i + 1, lo2, Ph, ⟨by omega, HB.out.1, HB.out.2.1, HV.out.1, HV.out.2⟩, by go_num, by first | exact ((RdAt.putLo HR2.out lo2).putHi Ph).alloc | exact ((RdAt.putLo HR2.out lo2).alloc).putHi Ph⟩, rfl⟩)
          case measure => simp [intOf]; omega
        · obtain ⟨bb, hbb⟩ : ∃ bb : Bool, bb = decide (addK Ph 1 = 1) := ⟨_, rfl⟩
          obtain ⟨P1, hP1⟩ : ∃ P1, P1 = Ph + 1 := ⟨_, rfl⟩
          rw [← hP1] at HV HB
          have kq : ∀ w, Calls Tryd.prog 29 #[.agg #[.int .u64 (limb (Ph) 0 : Nat), .int .u64 (limb (Ph) 1 : Nat), .int .u64 (limb (Ph) 2 : Nat), .int .u64 (limb (Ph) 3 : Nat)], .agg #[.int .u64 1, .int .u64 0, .int .u64 0, .int .u64 0]] w fun e w' => e = .returned (.tuple #[.agg #[.int .u64 (limb (P1) 0 : Nat), .int .u64 (limb (P1) 1 : Nat), .int .u64 (limb (P1) 2 : Nat), .int .u64 (limb (P1) 3 : Nat)], .bool bb]) ∧ Below w.heap.size w w' := fun w => by
            have h := plus2_any Ph 1 (by have := HB.out.2.1; omega) (by decide) w
            rw [show addN Ph 1 = P1 from by rw [hP1]; unfold addN; exact Nat.mod_eq_of_lt (by have := HB.out.2.1; omega), ← hbb, limb_one.1, limb_one.2.1, limb_one.2.2.1, limb_one.2.2.2] at h
            exact h
          have KQ : Hid _ := kq
          clear kq hbb hP1
          go_wp2_with fail
          refine (KQ.out _).mono ?_
          rintro e w3 ⟨rfl, hq3⟩
          have R3 : RdAt w w3 m lo2 Ph := by
            first
            | exact RdAt.call (((RdAt.putLo HR2.out lo2).putHi Ph).alloc) hq3
            | exact RdAt.call (((RdAt.putLo HR2.out lo2).alloc).putHi Ph) hq3
          obtain ⟨⟨h0, h1, h2, h3⟩, ⟨v0, v1, v2, v3⟩, hz⟩ := R3.2.2.2.1.facts
          have HR3 : Hid (RdAt w w3 m lo2 Ph) := R3
          clear hq3 R3 KQ HR2 q4 q5 q6 q7 a0' a1' a2' a3' f0 f1 f2 f3 az' b0 b1 b2 b3 d0 d1 d2 d3 bz
          go_wp2_with fail
          refine HK1.out _ _ ?_
          clear HK1 K1
          go_wp2_with fail
          go_roundw
          case rel => first | exact ⟨i + 1, lo2, P1, ⟨by omega, HB.out.1, HB.out.2.1, HV.out.1, HV.out.2⟩, by go_num, by first | exact (RdAt.putHi HR3.out P1).alloc | exact (RdAt.alloc HR3.out).putHi P1⟩ | ((repeat apply Exists.intro); exact ⟨⟨i + 1, lo2, P1, ⟨by omega, HB.out.1, HB.out.2.1, HV.out.1, HV.out.2⟩, by go_num, by first | exact (RdAt.putHi HR3.out P1).alloc | exact (RdAt.alloc HR3.out).putHi P1⟩, rfl⟩)
          case measure => simp [intOf]; omega
end Go.Proofs.YtbpgiijdcagckaaDoor
