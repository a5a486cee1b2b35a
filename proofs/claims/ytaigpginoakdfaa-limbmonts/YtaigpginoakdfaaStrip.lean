/- limb.Mont.strip: a wide number, less R once. -/
import Derived.Test.YtaigpginoakdfaaStripN
import Derived.Test.YtaigpginoakdfaaMulA
import Derived.Test.YtaigpginoakdfaaMod
import Derived.Test.YtaigpginoakdfaaHeldN
import Derived.Deep.DeepCutAuto
import Derived.Deep.RegionHeld3
namespace Go.Proofs.Ytaigpginoakdfaa
open Go.RowKit

/-- A block that is Montgomery's way for m: s is R^2 mod m, c what cancels. -/
def MontB (w : World) (g m s c : Nat) : Prop := Num4 w g m ∧ (∀ j, j < 4 → w.cell? ⟨g, 4 + j, none⟩ = some (.int .u64 (limb s j : Nat))) ∧ w.cell? ⟨g, 8, none⟩ = some (.int .u64 c) ∧ g < w.heap.size
theorem MontB.call {W w1 : World} {g m s c : Nat} (h : MontB W g m s c) (hb : Below W.heap.size W w1) : MontB w1 g m s c :=
  ⟨h.1.call hb h.2.2.2, fun j hj => (hb.cell (p := ⟨g, 4 + j, none⟩) h.2.2.2).trans (h.2.1 j hj), (hb.cell (p := ⟨g, 8, none⟩) h.2.2.2).trans h.2.2.1, Nat.lt_of_lt_of_le h.2.2.2 hb.size⟩
theorem Num8.facts {w : World} {b n : Nat} (h : Num8 w b n) : w.cell? ⟨b, 0, none⟩ = some (.int .u64 (limb n 0 : Nat)) ∧ w.cell? ⟨b, 1, none⟩ = some (.int .u64 (limb n 1 : Nat)) ∧ w.cell? ⟨b, 2, none⟩ = some (.int .u64 (limb n 2 : Nat)) ∧ w.cell? ⟨b, 3, none⟩ = some (.int .u64 (limb n 3 : Nat)) ∧ w.cell? ⟨b, 4, none⟩ = some (.int .u64 (limb n 4 : Nat)) ∧ w.cell? ⟨b, 5, none⟩ = some (.int .u64 (limb n 5 : Nat)) ∧ w.cell? ⟨b, 6, none⟩ = some (.int .u64 (limb n 6 : Nat)) ∧ w.cell? ⟨b, 7, none⟩ = some (.int .u64 (limb n 7 : Nat)) :=
  ⟨h 0 (by omega), h 1 (by omega), h 2 (by omega), h 3 (by omega), h 4 (by omega), h 5 (by omega), h 6 (by omega), h 7 (by omega)⟩

/-- What the loop of strip holds in memory. -/
def StripW (w wr : World) (V l0 l1 l2 l3 : Nat) : Prop :=
  (wr.cell? ⟨w.heap.size + 1 + 1, 0, none⟩ = some (.int .u64 l0) ∧ wr.cell? ⟨w.heap.size + 1 + 1, 1, none⟩ = some (.int .u64 l1) ∧ wr.cell? ⟨w.heap.size + 1 + 1, 2, none⟩ = some (.int .u64 l2) ∧ wr.cell? ⟨w.heap.size + 1 + 1, 3, none⟩ = some (.int .u64 l3)) ∧
  (wr.frozen? ⟨w.heap.size + 1 + 1, 0, none⟩ = false ∧ wr.frozen? ⟨w.heap.size + 1 + 1, 1, none⟩ = false ∧ wr.frozen? ⟨w.heap.size + 1 + 1, 2, none⟩ = false ∧ wr.frozen? ⟨w.heap.size + 1 + 1, 3, none⟩ = false) ∧
  Num8 wr w.heap.size V ∧ Pend wr (w.heap.size + 1) ∧ Below w.heap.size w wr ∧ w.heap.size + 1 + 1 < wr.heap.size
theorem StripW.drew {w wr : World} {V l0 l1 l2 l3 : Nat} (h : StripW w wr V l0 l1 l2 l3) : StripW w wr.drew V l0 l1 l2 l3 := ⟨h.1, h.2.1, h.2.2.1, h.2.2.2.1, h.2.2.2.2.1.drew, h.2.2.2.2.2⟩
theorem StripW.put0 {w wr : World} {V l0 l1 l2 l3 : Nat} (h : StripW w wr V l0 l1 l2 l3) (x : Nat) : StripW w (wr.setCell ⟨w.heap.size + 1 + 1, 0, none⟩ (.int .u64 x)) V x l1 l2 l3 := by
  obtain ⟨⟨c0, c1, c2, c3⟩, ⟨f0, f1, f2, f3⟩, hn, hp, hb, hz⟩ := h
  refine ⟨?_, ?_, hn.set (by simp; omega), hp.set (by simp), hb.setCell (by simp; omega) _, by simpa using hz⟩
  · simp [go_sem, c0, c1, c2, c3]
  · simp [f0, f1, f2, f3]
theorem StripW.put1 {w wr : World} {V l0 l1 l2 l3 : Nat} (h : StripW w wr V l0 l1 l2 l3) (x : Nat) : StripW w (wr.setCell ⟨w.heap.size + 1 + 1, 1, none⟩ (.int .u64 x)) V l0 x l2 l3 := by
  obtain ⟨⟨c0, c1, c2, c3⟩, ⟨f0, f1, f2, f3⟩, hn, hp, hb, hz⟩ := h
  refine ⟨?_, ?_, hn.set (by simp; omega), hp.set (by simp), hb.setCell (by simp; omega) _, by simpa using hz⟩
  · simp [go_sem, c0, c1, c2, c3]
  · simp [f0, f1, f2, f3]
theorem StripW.put2 {w wr : World} {V l0 l1 l2 l3 : Nat} (h : StripW w wr V l0 l1 l2 l3) (x : Nat) : StripW w (wr.setCell ⟨w.heap.size + 1 + 1, 2, none⟩ (.int .u64 x)) V l0 l1 x l3 := by
  obtain ⟨⟨c0, c1, c2, c3⟩, ⟨f0, f1, f2, f3⟩, hn, hp, hb, hz⟩ := h
  refine ⟨?_, ?_, hn.set (by simp; omega), hp.set (by simp), hb.setCell (by simp; omega) _, by simpa using hz⟩
  · simp [go_sem, c0, c1, c2, c3]
  · simp [f0, f1, f2, f3]
theorem StripW.put3 {w wr : World} {V l0 l1 l2 l3 : Nat} (h : StripW w wr V l0 l1 l2 l3) (x : Nat) : StripW w (wr.setCell ⟨w.heap.size + 1 + 1, 3, none⟩ (.int .u64 x)) V l0 l1 l2 x := by
  obtain ⟨⟨c0, c1, c2, c3⟩, ⟨f0, f1, f2, f3⟩, hn, hp, hb, hz⟩ := h
  refine ⟨?_, ?_, hn.set (by simp; omega), hp.set (by simp), hb.setCell (by simp; omega) _, by simpa using hz⟩
  · simp [go_sem, c0, c1, c2, c3]
  · simp [f0, f1, f2, f3]

theorem limb_low (n k : Nat) (hk : k < 4) : limb (n % R256) k = limb n k := by
  unfold limb
  have e : R256 = M64 ^ k * M64 ^ (4 - k) := by rw [← Nat.pow_add, show k + (4 - k) = 4 from by omega]; decide
  rw [e, Nat.mod_mul_right_div_self]
  have e2 : M64 ^ (4 - k) = M64 * M64 ^ (3 - k) := by rw [← Nat.pow_succ', show (3 - k).succ = 4 - k from by omega]
  rw [e2, Nat.mod_mul_right_mod]
theorem Num8.new (W : World) (n : Nat) (t : TypeId) : Num8 (W.alloc (.cells #[.int .u64 (limb n 0 : Nat), .int .u64 (limb n 1 : Nat), .int .u64 (limb n 2 : Nat), .int .u64 (limb n 3 : Nat), .int .u64 (limb n 4 : Nat), .int .u64 (limb n 5 : Nat), .int .u64 (limb n 6 : Nat), .int .u64 (limb n 7 : Nat)] t)) W.heap.size n := by
  intro j hj
  have e : j = 0 ∨ j = 1 ∨ j = 2 ∨ j = 3 ∨ j = 4 ∨ j = 5 ∨ j = 6 ∨ j = 7 := by omega
  rcases e with rfl | rfl | rfl | rfl | rfl | rfl | rfl | rfl <;> simp [go_sem]

set_option maxHeartbeats 20000000 in
theorem strip_any (g m s c V : Nat) (hm : m < R256) (hodd : m % 2 = 1) (hc : (c * limb m 0 + 1) % M64 = 0) (hV : V < R256 * m) (w : World) (hM : MontB w g m s c) :
    Calls Try.prog 48 #[.pointer (some ⟨g, 0, none⟩), .agg #[.int .u64 (limb (V) 0 : Nat), .int .u64 (limb (V) 1 : Nat), .int .u64 (limb (V) 2 : Nat), .int .u64 (limb (V) 3 : Nat), .int .u64 (limb (V) 4 : Nat), .int .u64 (limb (V) 5 : Nat), .int .u64 (limb (V) 6 : Nat), .int .u64 (limb (V) 7 : Nat)]] w fun e w' => e = .returned (.agg #[.int .u64 (limb (redN m V) 0 : Nat), .int .u64 (limb (redN m V) 1 : Nat), .int .u64 (limb (redN m V) 2 : Nat), .int .u64 (limb (redN m V) 3 : Nat)]) ∧ Below w.heap.size w w' := by
  obtain ⟨res, hres⟩ : ∃ res, res = redN m V := ⟨_, rfl⟩
  rw [← hres]
  have HD : Hid (∀ low ov, StripAt m V 4 low ov → ov * R256 + low < 2 * m ∧ (ov * R256 + low) % m = res) := fun low ov h => by rw [hres]; exact h.done hm hodd hV
  have HA : Hid _ := And.intro hc (And.intro hm hM)
  have hg := hM.2.2.2
  clear hres hodd hV hc hm hM
  go_enter Try.func48, Try.ntmps48
  go_wp2_with fail
  go_loopw [6, 18] (fun o i wr => ∃ (k ov low : Nat), k ≤ 4 ∧ i = .int .i64 k ∧ o = .int .u64 ov ∧ StripAt m V k low ov ∧ StripW w wr V (limb low 0) (limb low 1) (limb low 2) (limb low 3))
    (fun _ i _ => 4 - (intOf i).toNat)
  case atStart =>
    refine ⟨0, 0, V % R256, by omega, rfl, rfl, StripAt.start m V, ?_⟩
    rw [limb_low V 0 (by omega), limb_low V 1 (by omega), limb_low V 2 (by omega), limb_low V 3 (by omega)]
    refine ⟨by simp [go_sem], by simp [go_sem], ?_, ?_, by ((repeat' (first | with_reducible exact Below.refl _ _ | with_reducible refine Below.setCell ?_ ?_ _ | with_reducible refine below_alloc0 ?_ _ | with_reducible refine below_drewN ?_ _ | with_reducible refine Below.drew ?_ | refine below_call0 ?_ (by assumption))) <;> (first | omega | (simp; done) | (simp; omega))), by simp⟩
    · exact Num8.alloc (Num8.alloc (Num8.new w V _) (by rw [World.size_alloc]; omega)) (by rw [World.size_alloc, World.size_alloc]; omega)
    · have h := (Pend.new (w.alloc (.cells #[.int .u64 (limb V 0 : Nat), .int .u64 (limb V 1 : Nat), .int .u64 (limb V 2 : Nat), .int .u64 (limb V 3 : Nat), .int .u64 (limb V 4 : Nat), .int .u64 (limb V 5 : Nat), .int .u64 (limb V 6 : Nat), .int .u64 (limb V 7 : Nat)] 34)) 24).alloc (o := .cells #[.int .u64 (limb V 0 : Nat), .int .u64 (limb V 1 : Nat), .int .u64 (limb V 2 : Nat), .int .u64 (limb V 3 : Nat)] 24)
      simp only [World.size_alloc] at h
      exact h
  case round =>
    obtain ⟨k, ov, low, hk, rfl, rfl, hT, hW⟩ := hrel
    by_cases hlt : k < 4
    · obtain ⟨⟨c0, c1, c2, c3⟩, ⟨f0, f1, f2, f3⟩, hn, hp, hb, hz⟩ := hW
      have HM : MontB wr g m s c := by
        have h := HA.out.2.2
        exact ⟨fun j hj => (hb.cell (p := ⟨g, j, none⟩) hg).trans (h.1 j hj), fun j hj => (hb.cell (p := ⟨g, 4 + j, none⟩) hg).trans (h.2.1 j hj), (hb.cell (p := ⟨g, 8, none⟩) hg).trans h.2.2.1, Nat.lt_of_lt_of_le hg hb.size⟩
      obtain ⟨m0, m1, m2, m3⟩ := HM.1.facts
      have m8 := HM.2.2.1
      obtain ⟨l0, h0⟩ : ∃ l0, l0 = limb low 0 := ⟨_, rfl⟩
      obtain ⟨l1, h1⟩ : ∃ l1, l1 = limb low 1 := ⟨_, rfl⟩
      obtain ⟨l2, h2⟩ : ∃ l2, l2 = limb low 2 := ⟨_, rfl⟩
      obtain ⟨l3, h3⟩ : ∃ l3, l3 = limb low 3 := ⟨_, rfl⟩
      obtain ⟨q, hq⟩ : ∃ q, q = l0 * c % M64 := ⟨_, rfl⟩
      obtain ⟨x, hx⟩ : ∃ x, x = rowL q (limb m 0) (limb m 1) (limb m 2) (limb m 3) l0 l1 l2 l3 := ⟨_, rfl⟩
      obtain ⟨n3, hn3⟩ : ∃ n3, n3 = addS (limb V (k + 4)) (x 4) ov := ⟨_, rfl⟩
      obtain ⟨o', ho'⟩ : ∃ o', o' = addC (limb V (k + 4)) (x 4) ov := ⟨_, rfl⟩
      have ql : q < M64 := by rw [hq]; exact Nat.mod_lt _ M64_pos
      have e1 : IntKind.u64.wrap ((l0 : Int) * (c : Int)) = (q : Nat) := by
        rw [← Int.natCast_mul, IntKind.wrap_u64, hq]
        unfold M64
        omega
      have KR : ∀ w', Num4 w' g m → Calls Try.prog 42 #[.int .u64 q, .pointer (some ⟨g, 0, none⟩), .int .u64 l0, .int .u64 l1, .int .u64 l2, .int .u64 l3] w' fun e w'' => e = .returned (.tuple #[.int .u64 (x 0), .int .u64 (x 1), .int .u64 (x 2), .int .u64 (x 3), .int .u64 (x 4)]) ∧ w'' = w' := fun w' h => by
        obtain ⟨g0, g1, g2, g3⟩ := h.facts
        rw [hx]
        exact addRow_any g q (limb m 0) (limb m 1) (limb m 2) (limb m 3) l0 l1 l2 l3 ql (limb_lt _ _) (limb_lt _ _) (limb_lt _ _) (limb_lt _ _) (by rw [h0]; exact limb_lt _ _) (by rw [h1]; exact limb_lt _ _) (by rw [h2]; exact limb_lt _ _) (by rw [h3]; exact limb_lt _ _) w' g0 g1 g2 g3
      obtain ⟨_, xl1, xl2, xl3, xl4⟩ := row_lt q (limb m 0) (limb m 1) (limb m 2) (limb m 3) l0 l1 l2 l3 ql (limb_lt _ _) (limb_lt _ _) (limb_lt _ _) (limb_lt _ _) (by rw [h0]; exact limb_lt _ _) (by rw [h1]; exact limb_lt _ _) (by rw [h2]; exact limb_lt _ _) (by rw [h3]; exact limb_lt _ _)
      have rv := row_val q (limb m 0) (limb m 1) (limb m 2) (limb m 3) l0 l1 l2 l3
      rw [← hx] at xl1 xl2 xl3 xl4 rv
      have rv2 : x 0 + M64 * (x 1 + M64 * (x 2 + M64 * (x 3 + M64 * x 4))) = q * m + low := by rw [rv, h0, h1, h2, h3, join_limb low hT.1, join_limb m HA.out.2.1]
      have r0 : x 0 = (q * limb m 0 + limb low 0) % M64 := by rw [hx, ← h0]; show maL _ _ _ _ = _; unfold maL; rw [Nat.add_zero]
      have ST := hT.step HA.out.1 q (x 0) (x 1) (x 2) (x 3) (x 4) n3 o' (by rw [hq, h0]) r0 rv2 xl1 xl2 xl3 xl4 hn3 ho'
      have n3l : n3 < M64 := by rw [hn3]; exact addS_lt _ _ _
      have HS : Hid _ := And.intro ST (And.intro xl1 (And.intro xl2 (And.intro xl3 n3l)))
      have ov1 := hT.2.1
      have HKR : Hid _ := KR
      have HM4 : Hid (Num4 wr.drew g m) := HM.1.drew
      have w4 : wr.cell? ⟨w.heap.size, k + 4, none⟩ = some (.int .u64 (limb V (k + 4) : Nat)) := hn (k + 4) (by omega)
      have HW : Hid (StripW w wr V l0 l1 l2 l3) := by rw [← h0] at c0; rw [← h1] at c1; rw [← h2] at c2; rw [← h3] at c3; exact ⟨⟨c0, c1, c2, c3⟩, ⟨f0, f1, f2, f3⟩, hn, hp, hb, hz⟩
      rw [← h0] at c0
      rw [← h1] at c1
      rw [← h2] at c2
      rw [← h3] at c3
      have HN : Hid _ := And.intro hn3 ho'
      have A64 : ∀ w', (callFunc 49 #[.int .u64 (limb V (k + 4)), .int .u64 (x 4), .int .u64 ov]).run Try.prog w' = .ok (.value (.tuple #[.int .u64 n3, .int .u64 o'])) w' := fun w' => by rw [hn3, ho']; exact add64 _ _ _ ov1 w'
      clear h0 h1 h2 h3 hq hx hn3 ho' ql KR xl1 xl2 xl3 xl4 rv rv2 r0 ST n3l HM hn hp hb hT
      obtain ⟨x0, hx0⟩ : ∃ x0, x0 = x 0 := ⟨_, rfl⟩
      have HS0 : Hid (wr.drew.cell? ⟨w.heap.size + 1 + 1, 0, none⟩ = some (.int .u64 l0) ∧ wr.drew.cell? ⟨w.heap.size + 1 + 1, 1, none⟩ = some (.int .u64 l1) ∧ wr.drew.cell? ⟨w.heap.size + 1 + 1, 2, none⟩ = some (.int .u64 l2) ∧ wr.drew.cell? ⟨w.heap.size + 1 + 1, 3, none⟩ = some (.int .u64 l3) ∧ wr.drew.cell? ⟨g, 8, none⟩ = some (.int .u64 c)) := ⟨c0, c1, c2, c3, m8⟩
      clear m0 m1 m2 m3
      go_wp2_with fail
      go_cut [8] (fun v wx => v = .int .u64 (x 4) ∧ StripW w wx V (x 1) (x 2) (x 3) l3)
      case first =>
        refine wp_region_N (fun w' => w'.cell? ⟨w.heap.size + 1 + 1, 0, none⟩ = some (.int .u64 l0) ∧ w'.cell? ⟨w.heap.size + 1 + 1, 1, none⟩ = some (.int .u64 l1) ∧ w'.cell? ⟨w.heap.size + 1 + 1, 2, none⟩ = some (.int .u64 l2) ∧ w'.cell? ⟨w.heap.size + 1 + 1, 3, none⟩ = some (.int .u64 l3) ∧ w'.cell? ⟨g, 8, none⟩ = some (.int .u64 c)) 26 32 rfl (by kernel_rfl) ?_
        refine wpAnyN_take (i := 0) (oi := ?o0) (v := ?v0) ?hi0 (by kernel_rfl) (by kernel_rfl) (by kernel_rfl) (by kernel_rfl) (by decide) (by kernel_rfl) ?hQ0 ?hy0 HS0.out ?more0
        case hi0 => rw [List.getElem?_toArray]; exact rfl
        case hQ0 => exact fun _ _ _ h => h
        case hy0 =>
          refine Or.inl ⟨by rfl, ?_⟩
          intro w' hSw
          obtain ⟨s0, s1, s2, s3, s8⟩ := hSw
          go_simp
          try with_reducible rfl
        simp only [Act.put, List.setIfInBounds_toArray, List.set_cons_zero, List.set_cons_succ]
        refine wpAnyN_take (i := 1) (oi := ?o1) (v := ?v1) ?hi1 (by kernel_rfl) (by kernel_rfl) (by kernel_rfl) (by kernel_rfl) (by decide) (by kernel_rfl) ?hQ1 ?hy1 HS0.out ?more1
        case hi1 => rw [List.getElem?_toArray]; exact rfl
        case hQ1 => exact fun _ _ _ h => h
        case hy1 =>
          refine Or.inl ⟨by rfl, ?_⟩
          intro w' hSw
          obtain ⟨s0, s1, s2, s3, s8⟩ := hSw
          go_simp
          try with_reducible rfl
        simp only [Act.put, List.setIfInBounds_toArray, List.set_cons_zero, List.set_cons_succ]
        refine wpAnyN_take (i := 2) (oi := ?o2) (v := ?v2) ?hi2 (by kernel_rfl) (by kernel_rfl) (by kernel_rfl) (by kernel_rfl) (by decide) (by kernel_rfl) ?hQ2 ?hy2 HS0.out ?more2
        case hi2 => rw [List.getElem?_toArray]; exact rfl
        case hQ2 => exact fun _ _ _ h => h
        case hy2 =>
          refine Or.inl ⟨by rfl, ?_⟩
          intro w' hSw
          obtain ⟨s0, s1, s2, s3, s8⟩ := hSw
          go_simp
          try with_reducible rfl
        simp only [Act.put, List.setIfInBounds_toArray, List.set_cons_zero, List.set_cons_succ]
        refine wpAnyN_take (i := 3) (oi := ?o3) (v := ?v3) ?hi3 (by kernel_rfl) (by kernel_rfl) (by kernel_rfl) (by kernel_rfl) (by decide) (by kernel_rfl) ?hQ3 ?hy3 HS0.out ?more3
        case hi3 => rw [List.getElem?_toArray]; exact rfl
        case hQ3 => exact fun _ _ _ h => h
        case hy3 =>
          refine Or.inl ⟨by rfl, ?_⟩
          intro w' hSw
          obtain ⟨s0, s1, s2, s3, s8⟩ := hSw
          go_simp
          try with_reducible rfl
        simp only [Act.put, List.setIfInBounds_toArray, List.set_cons_zero, List.set_cons_succ]
        refine wpAnyN_take (i := 4) (oi := ?o4) (v := ?v4) ?hi4 (by kernel_rfl) (by kernel_rfl) (by kernel_rfl) (by kernel_rfl) (by decide) (by kernel_rfl) ?hQ4 ?hy4 HS0.out ?more4
        case hi4 => rw [List.getElem?_toArray]; exact rfl
        case hQ4 => exact fun _ _ _ h => h
        case hy4 =>
          refine Or.inl ⟨by rfl, ?_⟩
          intro w' hSw
          obtain ⟨s0, s1, s2, s3, s8⟩ := hSw
          go_simp
          try with_reducible rfl
        simp only [Act.put, List.setIfInBounds_toArray, List.set_cons_zero, List.set_cons_succ]
        refine wpAnyN_take (i := 5) (oi := ?o5) (v := ?v5) ?hi5 (by kernel_rfl) (by kernel_rfl) (by kernel_rfl) (by kernel_rfl) (by decide) (by kernel_rfl) ?hQ5 ?hy5 HS0.out ?more5
        case hi5 => rw [List.getElem?_toArray]; exact rfl
        case hQ5 => exact fun _ _ _ h => h
        case hy5 =>
          refine Or.inl ⟨by rfl, ?_⟩
          intro w' hSw
          obtain ⟨s0, s1, s2, s3, s8⟩ := hSw
          go_simp
          try with_reducible rfl
        simp only [Act.put, List.setIfInBounds_toArray, List.set_cons_zero, List.set_cons_succ]
        refine wpAnyN_take (i := 6) (oi := ?o6) (v := ?v6) ?hi6 (by kernel_rfl) (by kernel_rfl) (by kernel_rfl) (by kernel_rfl) (by decide) (by kernel_rfl) ?hQ6 ?hy6 HS0.out ?more6
        case hi6 => rw [List.getElem?_toArray]; exact rfl
        case hQ6 => exact fun _ _ _ h => h
        case hy6 =>
          refine Or.inl ⟨by rfl, ?_⟩
          intro w' hSw
          obtain ⟨s0, s1, s2, s3, s8⟩ := hSw
          go_simp
          try with_reducible rfl
        simp only [Act.put, List.setIfInBounds_toArray, List.set_cons_zero, List.set_cons_succ]
        refine wpAnyN_take (i := 7) (oi := ?o7) (v := ?v7) ?hi7 (by kernel_rfl) (by kernel_rfl) (by kernel_rfl) (by kernel_rfl) (by decide) (by kernel_rfl) ?hQ7 ?hy7 HS0.out ?more7
        case hi7 => rw [List.getElem?_toArray]; exact rfl
        case hQ7 => exact fun _ _ _ h => h
        case hy7 =>
          refine Or.inl ⟨by rfl, ?_⟩
          intro w' hSw
          obtain ⟨s0, s1, s2, s3, s8⟩ := hSw
          go_simp
          try with_reducible rfl
        simp only [Act.put, List.setIfInBounds_toArray, List.set_cons_zero, List.set_cons_succ]
        refine wpAnyN_take (i := 8) (oi := ?o8) (v := ?v8) ?hi8 (by kernel_rfl) (by kernel_rfl) (by kernel_rfl) (by kernel_rfl) (by decide) (by kernel_rfl) ?hQ8 ?hy8 HS0.out ?more8
        case hi8 => rw [List.getElem?_toArray]; exact rfl
        case hQ8 => exact fun _ _ _ h => h
        case hy8 =>
          refine Or.inl ⟨by rfl, ?_⟩
          intro w' hSw
          obtain ⟨s0, s1, s2, s3, s8⟩ := hSw
          go_simp
          try with_reducible rfl
        simp only [Act.put, List.setIfInBounds_toArray, List.set_cons_zero, List.set_cons_succ]
        refine wpAnyN_take (i := 9) (oi := ?o9) (v := ?v9) ?hi9 (by kernel_rfl) (by kernel_rfl) (by kernel_rfl) (by kernel_rfl) (by decide) (by kernel_rfl) ?hQ9 ?hy9 HS0.out ?more9
        case hi9 => rw [List.getElem?_toArray]; exact rfl
        case hQ9 => exact fun _ _ _ h => h
        case hy9 =>
          refine Or.inl ⟨by rfl, ?_⟩
          intro w' hSw
          obtain ⟨s0, s1, s2, s3, s8⟩ := hSw
          go_simp
          try with_reducible rfl
        simp only [Act.put, List.setIfInBounds_toArray, List.set_cons_zero, List.set_cons_succ]
        refine wpAnyN_take (i := 10) (oi := ?o10) (v := ?v10) ?hi10 (by kernel_rfl) (by kernel_rfl) (by kernel_rfl) (by kernel_rfl) (by decide) (by kernel_rfl) ?hQ10 ?hy10 HS0.out ?more10
        case hi10 => rw [List.getElem?_toArray]; exact rfl
        case hQ10 => exact fun _ _ _ h => h
        case hy10 =>
          refine Or.inl ⟨by rfl, ?_⟩
          intro w' hSw
          obtain ⟨s0, s1, s2, s3, s8⟩ := hSw
          go_simp
          try with_reducible rfl
        simp only [Act.put, List.setIfInBounds_toArray, List.set_cons_zero, List.set_cons_succ]
        refine wpAnyN_take (i := 11) (oi := ?o11) (v := ?v11) ?hi11 (by kernel_rfl) (by kernel_rfl) (by kernel_rfl) (by kernel_rfl) (by decide) (by kernel_rfl) ?hQ11 ?hy11 HS0.out ?more11
        case hi11 => rw [List.getElem?_toArray]; exact rfl
        case hQ11 => exact fun _ _ _ h => h
        case hy11 =>
          refine Or.inl ⟨by rfl, ?_⟩
          intro w' hSw
          obtain ⟨s0, s1, s2, s3, s8⟩ := hSw
          go_simp
          try with_reducible rfl
        simp only [Act.put, List.setIfInBounds_toArray, List.set_cons_zero, List.set_cons_succ]
        refine wpAnyN_take (i := 12) (oi := ?o12) (v := ?v12) ?hi12 (by kernel_rfl) (by kernel_rfl) (by kernel_rfl) (by kernel_rfl) (by decide) (by kernel_rfl) ?hQ12 ?hy12 HS0.out ?more12
        case hi12 => rw [List.getElem?_toArray]; exact rfl
        case hQ12 => exact fun _ _ _ h => h
        case hy12 =>
          refine Or.inl ⟨by rfl, ?_⟩
          intro w' hSw
          obtain ⟨s0, s1, s2, s3, s8⟩ := hSw
          go_simp
          try with_reducible rfl
        simp only [Act.put, List.setIfInBounds_toArray, List.set_cons_zero, List.set_cons_succ]
        refine wpAnyN_take (i := 13) (oi := ?o13) (v := ?v13) ?hi13 (by kernel_rfl) (by kernel_rfl) (by kernel_rfl) (by kernel_rfl) (by decide) (by kernel_rfl) ?hQ13 ?hy13 HS0.out ?more13
        case hi13 => rw [List.getElem?_toArray]; exact rfl
        case hQ13 => exact fun _ _ _ h => h
        case hy13 =>
          refine Or.inl ⟨by rfl, ?_⟩
          intro w' hSw
          obtain ⟨s0, s1, s2, s3, s8⟩ := hSw
          go_simp
          try with_reducible rfl
        simp only [Act.put, List.setIfInBounds_toArray, List.set_cons_zero, List.set_cons_succ]
        refine wpAnyN_take (i := 14) (oi := ?o14) (v := ?v14) ?hi14 (by kernel_rfl) (by kernel_rfl) (by kernel_rfl) (by kernel_rfl) (by decide) (by kernel_rfl) ?hQ14 ?hy14 HS0.out ?more14
        case hi14 => rw [List.getElem?_toArray]; exact rfl
        case hQ14 => exact fun _ _ _ h => h
        case hy14 =>
          refine Or.inl ⟨by rfl, ?_⟩
          intro w' hSw
          obtain ⟨s0, s1, s2, s3, s8⟩ := hSw
          go_simp
          try with_reducible rfl
        simp only [Act.put, List.setIfInBounds_toArray, List.set_cons_zero, List.set_cons_succ]
        refine wpAnyN_take (i := 15) (oi := ?o15) (v := ?v15) ?hi15 (by kernel_rfl) (by kernel_rfl) (by kernel_rfl) (by kernel_rfl) (by decide) (by kernel_rfl) ?hQ15 ?hy15 HS0.out ?more15
        case hi15 => rw [List.getElem?_toArray]; exact rfl
        case hQ15 => exact fun _ _ _ h => h
        case hy15 =>
          refine Or.inl ⟨by rfl, ?_⟩
          intro w' hSw
          obtain ⟨s0, s1, s2, s3, s8⟩ := hSw
          go_simp
          try with_reducible rfl
        simp only [Act.put, List.setIfInBounds_toArray, List.set_cons_zero, List.set_cons_succ]
        refine wpAnyN_take (i := 16) (oi := ?o16) (v := ?v16) ?hi16 (by kernel_rfl) (by kernel_rfl) (by kernel_rfl) (by kernel_rfl) (by decide) (by kernel_rfl) ?hQ16 ?hy16 HS0.out ?more16
        case hi16 => rw [List.getElem?_toArray]; exact rfl
        case hQ16 => exact fun _ _ _ h => h
        case hy16 =>
          refine Or.inl ⟨by rfl, ?_⟩
          intro w' hSw
          obtain ⟨s0, s1, s2, s3, s8⟩ := hSw
          go_simp
          try with_reducible rfl
        simp only [Act.put, List.setIfInBounds_toArray, List.set_cons_zero, List.set_cons_succ]
        refine wpAnyN_take (i := 17) (oi := ?o17) (v := ?v17) ?hi17 (by kernel_rfl) (by kernel_rfl) (by kernel_rfl) (by kernel_rfl) (by decide) (by kernel_rfl) ?hQ17 ?hy17 HS0.out ?more17
        case hi17 => rw [List.getElem?_toArray]; exact rfl
        case hQ17 => exact fun _ _ _ h => h
        case hy17 =>
          refine Or.inl ⟨by rfl, ?_⟩
          intro w' hSw
          obtain ⟨s0, s1, s2, s3, s8⟩ := hSw
          go_simp
          try with_reducible rfl
        simp only [Act.put, List.setIfInBounds_toArray, List.set_cons_zero, List.set_cons_succ]
        refine wpAnyN_one (i := 18) (o := ?o18) (by kernel_rfl) ?hi18 ?hw18 ?st18
        case hi18 => rw [List.getElem?_toArray]; exact rfl
        case hw18 => exact rfl
        intro K hK
        have HK18 : Hid _ := hK
        clear hK
        go_simp
        refine (HKR.out _ HM4.out).mono ?_
        rintro e w' ⟨rfl, hw⟩
        subst hw
        go_wp2_with fail
        refine HK18.out _ _ ⟨fun _ => HS0.out, ?_⟩
        clear HK18 K
        try simp only [Act.put, List.setIfInBounds_toArray, List.set_cons_zero, List.set_cons_succ]
        refine wpAnyN_takeF (i := 19) (oi := ?o19) (v := ?v19) ?hi19 (by kernel_rfl) (by kernel_rfl) (by kernel_rfl) (by decide) ?hQ19 ?hy19 HS0.out ?more19
        case hi19 => rw [List.getElem?_toArray]; exact rfl
        case hQ19 => exact fun _ _ _ h => h
        case hy19 =>
          refine Or.inl ⟨by rfl, ?_⟩
          intro w' hSw
          go_simp
          try with_reducible rfl
        simp only [Act.put, List.setIfInBounds_toArray, List.set_cons_zero, List.set_cons_succ]
        refine wpAnyN_takeF (i := 20) (oi := ?o20) (v := ?v20) ?hi20 (by kernel_rfl) (by kernel_rfl) (by kernel_rfl) (by decide) ?hQ20 ?hy20 HS0.out ?more20
        case hi20 => rw [List.getElem?_toArray]; exact rfl
        case hQ20 => exact fun _ _ _ h => h
        case hy20 =>
          refine Or.inl ⟨by rfl, ?_⟩
          intro w' hSw
          go_simp
          try with_reducible rfl
        simp only [Act.put, List.setIfInBounds_toArray, List.set_cons_zero, List.set_cons_succ]
        refine wpAnyN_takeF (i := 21) (oi := ?o21) (v := ?v21) ?hi21 (by kernel_rfl) (by kernel_rfl) (by kernel_rfl) (by decide) ?hQ21 ?hy21 HS0.out ?more21
        case hi21 => rw [List.getElem?_toArray]; exact rfl
        case hQ21 => exact fun _ _ _ h => h
        case hy21 =>
          refine Or.inl ⟨by rfl, ?_⟩
          intro w' hSw
          go_simp
          try with_reducible rfl
        simp only [Act.put, List.setIfInBounds_toArray, List.set_cons_zero, List.set_cons_succ]
        refine wpAnyN_takeF (i := 22) (oi := ?o22) (v := ?v22) ?hi22 (by kernel_rfl) (by kernel_rfl) (by kernel_rfl) (by decide) ?hQ22 ?hy22 HS0.out ?more22
        case hi22 => rw [List.getElem?_toArray]; exact rfl
        case hQ22 => exact fun _ _ _ h => h
        case hy22 =>
          refine Or.inl ⟨by rfl, ?_⟩
          intro w' hSw
          go_simp
          try with_reducible rfl
        simp only [Act.put, List.setIfInBounds_toArray, List.set_cons_zero, List.set_cons_succ]
        refine wpAnyN_takeF (i := 23) (oi := ?o23) (v := ?v23) ?hi23 (by kernel_rfl) (by kernel_rfl) (by kernel_rfl) (by decide) ?hQ23 ?hy23 HS0.out ?more23
        case hi23 => rw [List.getElem?_toArray]; exact rfl
        case hQ23 => exact fun _ _ _ h => h
        case hy23 =>
          refine Or.inl ⟨by rfl, ?_⟩
          intro w' hSw
          go_simp
          try with_reducible rfl
        simp only [Act.put, List.setIfInBounds_toArray, List.set_cons_zero, List.set_cons_succ]
        refine wpAnyN_takeF (i := 24) (oi := ?o24) (v := ?v24) ?hi24 (by kernel_rfl) (by kernel_rfl) (by kernel_rfl) (by decide) ?hQ24 ?hy24 HS0.out ?more24
        case hi24 => rw [List.getElem?_toArray]; exact rfl
        case hQ24 => exact fun _ _ _ h => h
        case hy24 =>
          refine Or.inl ⟨by rfl, ?_⟩
          intro w' hSw
          go_simp
          try with_reducible rfl
        simp only [Act.put, List.setIfInBounds_toArray, List.set_cons_zero, List.set_cons_succ]
        refine wpAnyN_takeF (i := 25) (oi := ?o25) (v := ?v25) ?hi25 (by kernel_rfl) (by kernel_rfl) (by kernel_rfl) (by decide) ?hQ25 ?hy25 HS0.out ?more25
        case hi25 => rw [List.getElem?_toArray]; exact rfl
        case hQ25 => exact fun _ _ _ h => h
        case hy25 =>
          refine Or.inl ⟨by rfl, ?_⟩
          intro w' hSw
          go_simp
          try with_reducible rfl
        simp only [Act.put, List.setIfInBounds_toArray, List.set_cons_zero, List.set_cons_succ]
        refine wpAnyN_one (i := 26) (o := ?o26) (by kernel_rfl) ?hi26 ?hw26 ?st26
        case hi26 => rw [List.getElem?_toArray]; exact rfl
        case hw26 => exact rfl
        intro K hK
        have HK26 : Hid _ := hK
        clear hK
        go_simp
        refine HK26.out _ _ ⟨fun h => absurd h (by decide +kernel), ?_⟩
        clear HK26 K
        try simp only [Act.put, List.setIfInBounds_toArray, List.set_cons_zero, List.set_cons_succ]
        refine wpAnyN_one (i := 27) (o := ?o27) (by kernel_rfl) ?hi27 ?hw27 ?st27
        case hi27 => rw [List.getElem?_toArray]; exact rfl
        case hw27 => exact rfl
        intro K hK
        have HK27 : Hid _ := hK
        clear hK
        go_simp
        refine HK27.out _ _ ⟨fun h => absurd h (by decide +kernel), ?_⟩
        clear HK27 K
        try simp only [Act.put, List.setIfInBounds_toArray, List.set_cons_zero, List.set_cons_succ]
        refine wpAnyN_one (i := 28) (o := ?o28) (by kernel_rfl) ?hi28 ?hw28 ?st28
        case hi28 => rw [List.getElem?_toArray]; exact rfl
        case hw28 => exact rfl
        intro K hK
        have HK28 : Hid _ := hK
        clear hK
        go_simp
        refine HK28.out _ _ ⟨fun h => absurd h (by decide +kernel), ?_⟩
        clear HK28 K
        try simp only [Act.put, List.setIfInBounds_toArray, List.set_cons_zero, List.set_cons_succ]
        refine wpAnyN_one (i := 29) (o := ?o29) (by kernel_rfl) ?hi29 ?hw29 ?st29
        case hi29 => rw [List.getElem?_toArray]; exact rfl
        case hw29 => exact rfl
        intro K hK
        have HK29 : Hid _ := hK
        clear hK
        go_simp
        refine HK29.out _ _ ⟨fun h => absurd h (by decide +kernel), ?_⟩
        clear HK29 K
        try simp only [Act.put, List.setIfInBounds_toArray, List.set_cons_zero, List.set_cons_succ]
        refine wpAnyN_one (i := 30) (o := ?o30) (by kernel_rfl) ?hi30 ?hw30 ?st30
        case hi30 => rw [List.getElem?_toArray]; exact rfl
        case hw30 => exact rfl
        intro K hK
        have HK30 : Hid _ := hK
        clear hK
        go_simp
        refine HK30.out _ _ ⟨fun h => absurd h (by decide +kernel), ?_⟩
        clear HK30 K
        try simp only [Act.put, List.setIfInBounds_toArray, List.set_cons_zero, List.set_cons_succ]
        refine wpAnyN_one (i := 31) (o := ?o31) (by kernel_rfl) ?hi31 ?hw31 ?st31
        case hi31 => rw [List.getElem?_toArray]; exact rfl
        case hw31 => exact rfl
        intro K hK
        have HK31 : Hid _ := hK
        clear hK
        go_simp
        refine HK31.out _ _ ⟨fun h => absurd h (by decide +kernel), ?_⟩
        clear HK31 K
        try simp only [Act.put, List.setIfInBounds_toArray, List.set_cons_zero, List.set_cons_succ]
        refine wpAnyN_done (by kernel_rfl) ?_ _
        go_wp2_with fail
        go_meet
        exact ⟨rfl, (((HW.out.drew.put0 _).put1 _).put2 _)⟩
      case rest =>
        obtain ⟨rfl, hW⟩ := hcut
        obtain ⟨⟨d0, d1, d2, d3⟩, ⟨q0, q1, q2, q3⟩, hn, hp, hb, hz⟩ := hW
        have w4 : wc.cell? ⟨w.heap.size, k + 4, none⟩ = some (.int .u64 (limb V (k + 4) : Nat)) := hn (k + 4) (by omega)
        have HP := StripW.put3 ⟨⟨d0, d1, d2, d3⟩, ⟨q0, q1, q2, q3⟩, hn, hp, hb, hz⟩ n3
        have HQ : Hid _ := HP
        clear HP hn hp hb hz c0 c1 c2 c3 f0 f1 f2 f3 m8 HS0 HW HKR HM4
        go_wp2_with (simp only [A64])
        go_roundw
        case rel =>
          obtain ⟨st, x1l, x2l, x3l, n3l⟩ := HS.out
          refine ⟨k + 1, o', join4 (x 1) (x 2) (x 3) n3, by omega, by go_num, rfl, st, ?_⟩
          rw [limb_join0 _ _ _ _ x1l, limb_join1 _ _ _ _ x1l x2l, limb_join2 _ _ _ _ x1l x2l x3l, limb_join3 _ _ _ _ x1l x2l x3l n3l]
          exact HQ.out
        case measure => simp [intOf]; omega
    · have hk4 : k = 4 := by omega
      subst hk4
      obtain ⟨⟨c0, c1, c2, c3⟩, ⟨f0, f1, f2, f3⟩, hn, hp, hb, hz⟩ := hW
      obtain ⟨h2m, hval⟩ := HD.out low ov hT
      have KL := fun w' => lessOnce_any ov low m hT.2.1 hT.1 HA.out.2.1 h2m w'
      rw [hval] at KL
      have HKL : Hid _ := KL
      have MX : Num4 wr g m := fun j hj => (hb.cell (p := ⟨g, j, none⟩) hg).trans (HA.out.2.2.1 j hj)
      obtain ⟨m0, m1, m2, m3⟩ := MX.facts
      have HP : Hid _ := And.intro hp hb
      clear KL h2m hval hT hn hp hb MX f0 f1 f2 f3
      go_wp2_with fail
      go_region_with (first | (go_at_call 43; refine (HKL.out _).mono ?_; rintro e w1 ⟨rfl, hq1⟩; have P1 := Pend.call (W := wr.drew) HP.out.1 hq1; obtain ⟨⟨p0, p1, p2, p3⟩, ⟨e0, e1, e2, e3⟩, pz⟩ := P1.facts))
      all_goals
        go_wp2
        refine bodyPost_ret (v := .agg #[.int .u64 (limb (res) 0 : Nat), .int .u64 (limb (res) 1 : Nat), .int .u64 (limb (res) 2 : Nat), .int .u64 (limb (res) 3 : Nat)]) ?_ rfl ⟨rfl, ?_⟩
        · simp [results, Try.results48, go_sem, p0, p1, p2, p3]
        · have W1 : Below w.heap.size w _ := below_call0 (Below.drew HP.out.2) hq1
          ((repeat' (first | with_reducible exact Below.refl _ _ | with_reducible refine Below.setCell ?_ ?_ _ | with_reducible refine below_alloc0 ?_ _ | with_reducible refine below_drewN ?_ _ | with_reducible refine Below.drew ?_ | refine below_call0 ?_ (by assumption))) <;> (first | omega | (simp; done) | (simp; omega)))
end Go.Proofs.Ytaigpginoakdfaa
