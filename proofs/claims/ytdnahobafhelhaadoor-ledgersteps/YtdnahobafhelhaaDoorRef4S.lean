/- The reference's spread. -/
import Derived.Test.YtdnahobafhelhaaDoorRef4A
import Derived.Test.YtdnahobafhelhaaDoorShaS
import Derived.Test.YtdnahobafhelhaaDoorMgB
import Derived.Laws.AppendOwn
import Derived.Laws.OwnMore
import Derived.Deep.AppendLies
namespace Go.Proofs.YtdnahobafhelhaaDoor
open Go.RowKit

theorem infoI64 : (Tryd.prog.info? 3).map (fun i => (i.zero, i.size, i.bytes)) = some (some (.int .i64 0), 1, 8) := by kernel_rfl
theorem info_i64 : ∃ i, Tryd.prog.info? 3 = some i ∧ i.zero = some (.int .i64 0) ∧ i.size = 1 ∧ i.bytes = 8 := by
  have h := infoI64
  cases e : Tryd.prog.info? 3 with
  | none => rw [e] at h; cases h
  | some i =>
    rw [e] at h
    simp at h
    exact ⟨i, rfl, h.1, h.2.1, h.2.2⟩
def intsL (l : List Nat) : List Value := l.map fun x => Value.int .i64 (x : Nat)
theorem intsL_length (l : List Nat) : (intsL l).length = l.length := by simp [intsL]
theorem intsL_one (l : List Nat) : ∀ v ∈ intsL l, v.oneCell' = true := by
  intro v hv
  obtain ⟨x, _, rfl⟩ := List.mem_map.1 hv
  rfl
/-- Ints in memory, n of them. -/
def IntsAt (w : World) (p o n : Nat) (f : Nat → Nat) : Prop := (∀ j, j < n → w.cell? ⟨p, o + j, none⟩ = some (.int .i64 (f j : Nat))) ∧ p < w.heap.size
theorem IntsAt.call {W w1 : World} {p o n : Nat} {f : Nat → Nat} (h : IntsAt W p o n f) (hb : Below W.heap.size W w1) : IntsAt w1 p o n f := ⟨fun j hj => (hb.cell (p := ⟨p, o + j, none⟩) h.2).trans (h.1 j hj), Nat.lt_of_lt_of_le h.2 hb.size⟩
theorem owned_ints {w : World} {base n : Nat} {v : Value} {l : List Nat} (h : w.ownsRow base 3 1 v n (intsL l)) (h0 : 0 < n) : ∃ g cap, v = .slice (some ⟨g, 0, none⟩) n cap ∧ l.length = n ∧ base ≤ g ∧ g < w.heap.size ∧ ∀ j, j < n → w.cell? ⟨g, j, none⟩ = some (.int .i64 (l.getD j 0 : Nat)) := by
  have hl := h.1
  rw [intsL_length] at hl
  have h' := h
  obtain ⟨_, h2⟩ := h
  rcases h2 with ⟨_, hn⟩ | ⟨g, cap, cur, hv, hb, hh, _⟩
  · omega
  · refine ⟨g, cap, hv, by omega, hb, ?_, fun j hj => ?_⟩
    · rcases Nat.lt_or_ge g w.heap.size with l | l
      · exact l
      · rw [Array.getElem?_eq_none l] at hh; cases hh
    · rw [hv] at h'
      have e := h'.cellAt j (by omega)
      rw [e]
      simp only [intsL, List.getElem?_map, List.getD_eq_getElem?_getD]
      rw [List.getElem?_eq_getElem (by omega)]
      rfl

theorem size_le_alloc (w : World) (o : Obj) : w.heap.size ≤ (w.alloc o).heap.size := by simp
def lenOf : Value → Nat | .slice _ n _ => n | _ => 0
theorem wl_snoc (b : Nat → Nat) (t : Nat) : wl b (t + 1) = wl b t ++ [wAt b t] := by rw [wl_succ, wAt_last]
theorem intsL_snoc (l : List Nat) (x : Nat) : intsL (l ++ [x]) = intsL l ++ [.int .i64 (x : Nat)] := by simp [intsL]
theorem cell_one_new4 (w : World) (a : Value) (t : TypeId) : ∀ j u, [a][j]? = some u → (w.alloc (.cells #[a] t)).cell? ((⟨w.heap.size, 0, none⟩ : Addr).add j) = some u := by
  intro j u hj
  match j, hj with
  | 0, hj => simp at hj; subst hj; simp [Addr.add]
  | j + 1, hj => simp at hj
theorem keepS (z : Nat) (h : z < 9223372036854775808) : IntKind.i64.wrap (z : Int) = (z : Nat) ∧ wrap64 (z : Int) = (z : Nat) := ⟨by rw [IntKind.wrap_i64]; omega, by unfold wrap64; omega⟩
theorem remS (z : Nat) : (z : Int).tmod 4294967296 = ((z % 4294967296 : Nat) : Int) ∧ (z : Int) % 4294967296 = ((z % 4294967296 : Nat) : Int) := ⟨by rw [Int.tmod_eq_emod_of_nonneg (by omega)]; omega, by omega⟩
theorem spread_sums (x y z v : Nat) : (x + y + z + v) % 4294967296 = add32 (add32 (add32 x y) z) v := by simp only [add32, Nat.mod_add_mod]
theorem quo8 (x : Nat) : (x : Int).tdiv 8 = ((x / 8 : Nat) : Int) ∧ (x : Int) / 8 = ((x / 8 : Nat) : Int) := ⟨by rw [Int.tdiv_eq_ediv_of_nonneg (by omega)]; omega, by omega⟩
theorem quo1024 (x : Nat) : (x : Int).tdiv 1024 = ((x / 1024 : Nat) : Int) ∧ (x : Int) / 1024 = ((x / 1024 : Nat) : Int) := ⟨by rw [Int.tdiv_eq_ediv_of_nonneg (by omega)]; omega, by omega⟩
theorem ix_facts (t k : Nat) (h0 : 0 < k) (h : k ≤ 16) (ht1 : 16 ≤ t) (ht : t ≤ 64) : (t : Int) - (k : Int) = ((t - k : Nat) : Int) ∧ IntKind.i64.wrap ((t - k : Nat) : Int) = ((t - k : Nat) : Int) ∧ wrap64 ((t - k : Nat) : Int) = ((t - k : Nat) : Int) ∧ t - k < t ∧ ((t - k : Nat) : Int) < (t : Int) := ⟨by omega, by rw [IntKind.wrap_i64]; omega, by unfold wrap64; omega, by omega, by omega⟩
theorem back_ix (t k : Nat) (h : k ≤ t) (ht : t ≤ 64) : (t : Int) - (k : Int) = ((t - k : Nat) : Int) ∧ IntKind.i64.wrap ((t - k : Nat) : Int) = ((t - k : Nat) : Int) ∧ wrap64 ((t - k : Nat) : Int) = ((t - k : Nat) : Int) := ⟨by omega, by rw [IntKind.wrap_i64]; omega, by unfold wrap64; omega⟩

set_option maxRecDepth 100000 in
set_option maxHeartbeats 4000000 in
theorem spread4_any (p o cap : Nat) (b : Nat → Nat) (w : World) (hB : IntsAt w p o 16 (wAt b)) :
    Calls Tryd.prog 40 #[.slice (some ⟨p, o, none⟩) 16 cap] w fun e w' => ∃ g c, e = .returned (.slice (some ⟨g, 0, none⟩) 64 c) ∧ IntsAt w' g 0 64 (wAt b) ∧ Below w.heap.size w w' := by
  obtain ⟨i0, hi, hz0, hz1, hz2⟩ := info_i64
  have HB : Hid _ := hB
  clear hB
  go_enter Tryd.func40, Tryd.ntmps40
  go_wp2_with (first | (at_builtin; refine wpList_append_own _ rfl _ _ 75 rfl w.heap.size 3 i0 (.int .i64 0) 1 8 Tryd.underlying75 hi hz0 hz1 hz2 rfl (by decide) _ _ _ rfl (World.ownsRow_nil _ _ _ _) ⟨p, o, none⟩ 16 cap (intsL (wl b 16)) rfl ?c0 ?c1 ?c2 ?c3 ?c4 ?c5 ?_))
  case c0 => rw [intsL_length, wl_length]
  case c1 =>
    intro j u hj
    have hj' : j < 16 := by have := (List.getElem?_eq_some_iff.1 hj).1; rwa [intsL_length, wl_length] at this
    rw [Addr.add_mid, HB.out.1 j hj']
    simp only [intsL, List.getElem?_map] at hj
    rw [List.getElem?_eq_getElem (by rw [wl_length]; exact hj')] at hj
    simp at hj
    rw [← hj, ← wl_get b j 16 hj', List.getD_eq_getElem?_getD, List.getElem?_eq_getElem (by rw [wl_length]; exact hj')]
    rfl
  case c2 => exact intsL_one _
  case c3 => unfold maxLen; omega
  case c4 => omega
  case c5 => exact Nat.le_refl _
  intro v' w1 hown' hgrow _
  have hb1 : Below w.heap.size w w1 := (Below.refl _ _).grown hgrow (Nat.le_refl _) (fun k hk => by cases hk)
  have HO : Hid (w1.ownsRow w.heap.size 3 1 v' 16 (intsL (wl b 16)) ∧ Below w.heap.size w w1) := ⟨by simpa using hown', hb1⟩
  clear hgrow hown' hb1
  go_wp2_with fail
  go_loopw [3] (fun v wr => ∃ t : Nat, 16 ≤ t ∧ t ≤ 64 ∧ wr.ownsRow w.heap.size 3 1 v t (intsL (wl b t)) ∧ Below w.heap.size w wr)
    (fun v _ => 64 - lenOf v)
  case atStart => exact ⟨16, by omega, by omega, HO.out.1, HO.out.2⟩
  case round =>
    obtain ⟨t, ht1, ht2, hown, hbel⟩ := hrel
    obtain ⟨gq, cq, rfl, hll, hgq, hgz, hcell⟩ := owned_ints hown (by omega)
    by_cases hlt : t < 64
    · have hlt' : (t : Int) < 64 := by omega
      have hd : decide ((t : Int) < 64) = true := decide_eq_true hlt'
      obtain ⟨i15, hi15⟩ : ∃ q, q = t - 15 := ⟨_, rfl⟩
      obtain ⟨e15, f15, f15', n15, j15⟩ := ix_facts t 15 (by decide) (by decide) ht1 ht2
      rw [← hi15] at e15 f15 f15' n15 j15
      have g15 : (t : Int) - 15 = (i15 : Nat) := e15
      clear e15
      obtain ⟨x15, hx15⟩ : ∃ q, q = wAt b i15 := ⟨_, rfl⟩
      have c15 := hcell i15 n15
      rw [wl_get b i15 t n15, ← hx15] at c15
      have l15 : x15 < 4294967296 := by rw [hx15]; exact wAt_lt _ _
      obtain ⟨i2, hi2⟩ : ∃ q, q = t - 2 := ⟨_, rfl⟩
      obtain ⟨e2, f2, f2', n2, j2⟩ := ix_facts t 2 (by decide) (by decide) ht1 ht2
      rw [← hi2] at e2 f2 f2' n2 j2
      have g2 : (t : Int) - 2 = (i2 : Nat) := e2
      clear e2
      obtain ⟨x2, hx2⟩ : ∃ q, q = wAt b i2 := ⟨_, rfl⟩
      have c2 := hcell i2 n2
      rw [wl_get b i2 t n2, ← hx2] at c2
      have l2 : x2 < 4294967296 := by rw [hx2]; exact wAt_lt _ _
      obtain ⟨i7, hi7⟩ : ∃ q, q = t - 7 := ⟨_, rfl⟩
      obtain ⟨e7, f7, f7', n7, j7⟩ := ix_facts t 7 (by decide) (by decide) ht1 ht2
      rw [← hi7] at e7 f7 f7' n7 j7
      have g7 : (t : Int) - 7 = (i7 : Nat) := e7
      clear e7
      obtain ⟨x7, hx7⟩ : ∃ q, q = wAt b i7 := ⟨_, rfl⟩
      have c7 := hcell i7 n7
      rw [wl_get b i7 t n7, ← hx7] at c7
      have l7 : x7 < 4294967296 := by rw [hx7]; exact wAt_lt _ _
      obtain ⟨i16, hi16⟩ : ∃ q, q = t - 16 := ⟨_, rfl⟩
      obtain ⟨e16, f16, f16', n16, j16⟩ := ix_facts t 16 (by decide) (by decide) ht1 ht2
      rw [← hi16] at e16 f16 f16' n16 j16
      have g16 : (t : Int) - 16 = (i16 : Nat) := e16
      clear e16
      obtain ⟨x16, hx16⟩ : ∃ q, q = wAt b i16 := ⟨_, rfl⟩
      have c16 := hcell i16 n16
      rw [wl_get b i16 t n16, ← hx16] at c16
      have l16 : x16 < 4294967296 := by rw [hx16]; exact wAt_lt _ _
      obtain ⟨x8, hx8⟩ : ∃ q, q = x15 / 8 := ⟨_, rfl⟩
      obtain ⟨y8, hy8⟩ : ∃ q, q = x2 / 1024 := ⟨_, rfl⟩
      obtain ⟨d1, d1'⟩ := quo8 x15
      obtain ⟨d2, d2'⟩ := quo1024 x2
      rw [← hx8] at d1 d1'
      rw [← hy8] at d2 d2'
      have l8 : x8 < 4294967296 := by rw [hx8]; exact Nat.lt_of_le_of_lt (Nat.div_le_self _ _) l15
      have l8' : y8 < 4294967296 := by rw [hy8]; exact Nat.lt_of_le_of_lt (Nat.div_le_self _ _) l2
      obtain ⟨kx8, kx8'⟩ := keepS x8 (Nat.lt_trans l8 (by decide))
      obtain ⟨ky8, ky8'⟩ := keepS y8 (Nat.lt_trans l8' (by decide))
      have q1 := (bits_i64 _ _ (rot_lt x15 7) (rot_lt x15 18)).1
      have q2 := (bits_i64 _ _ (xor32_lt (rot x15 7) (rot x15 18)) l8).1
      have q3 := (bits_i64 _ _ (rot_lt x2 17) (rot_lt x2 19)).1
      have q4 := (bits_i64 _ _ (xor32_lt (rot x2 17) (rot x2 19)) l8').1
      obtain ⟨A, hA⟩ : ∃ q, q = xor32 (xor32 (rot x15 7) (rot x15 18)) x8 := ⟨_, rfl⟩
      obtain ⟨B, hBB⟩ : ∃ q, q = xor32 (xor32 (rot x2 17) (rot x2 19)) y8 := ⟨_, rfl⟩
      rw [← hA] at q2
      rw [← hBB] at q4
      have lA : A < 4294967296 := by rw [hA]; exact xor32_lt _ _
      have lB : B < 4294967296 := by rw [hBB]; exact xor32_lt _ _
      obtain ⟨z1, hz1'⟩ : ∃ q, q = B + x7 := ⟨_, rfl⟩
      obtain ⟨z2, hz2'⟩ : ∃ q, q = z1 + A := ⟨_, rfl⟩
      obtain ⟨z3, hz3'⟩ : ∃ q, q = z2 + x16 := ⟨_, rfl⟩
      obtain ⟨R, hR⟩ : ∃ q, q = z3 % 4294967296 := ⟨_, rfl⟩
      have s1 : (B : Int) + (x7 : Int) = (z1 : Nat) := by rw [hz1', Int.natCast_add]
      have s2 : (z1 : Int) + (A : Int) = (z2 : Nat) := by rw [hz2', Int.natCast_add]
      have s3 : (z2 : Int) + (x16 : Int) = (z3 : Nat) := by rw [hz3', Int.natCast_add]
      have lz1 : z1 < 8589934592 := by rw [hz1']; exact Nat.add_lt_add lB l7
      have lz2 : z2 < 12884901888 := by rw [hz2']; exact Nat.add_lt_add lz1 lA
      have lz3 : z3 < 17179869184 := by rw [hz3']; exact Nat.add_lt_add lz2 l16
      obtain ⟨k1, k1'⟩ := keepS z1 (Nat.lt_trans lz1 (by decide))
      obtain ⟨k2, k2'⟩ := keepS z2 (Nat.lt_trans lz2 (by decide))
      obtain ⟨k3, k3'⟩ := keepS z3 (Nat.lt_trans lz3 (by decide))
      obtain ⟨m1, m1'⟩ := remS z3
      rw [← hR] at m1 m1'
      have HV : Hid (wAt b t = R) := by
        show _ = _
        rw [wAt_high b t ht1, hR, hz3', hz2', hz1', spread_sums, hA, hBB, hx8, hy8, hx2, hx7, hx15, hx16, hi2, hi7, hi15, hi16]
        rfl
      have K7 : Hid _ := fun w => s4_any x15 7 l15 (by decide) (by decide) 7 rfl w
      have K18 : Hid _ := fun w => s4_any x15 18 l15 (by decide) (by decide) 18 rfl w
      have K17 : Hid _ := fun w => s4_any x2 17 l2 (by decide) (by decide) 17 rfl w
      have K19 : Hid _ := fun w => s4_any x2 19 l2 (by decide) (by decide) 19 rfl w
      have HO3 : Hid (wr.drew.drew.drew.ownsRow w.heap.size 3 1 (.slice (some ⟨gq, 0, none⟩) t cq) t (intsL (wl b t))) := hown
      have HBL : Hid (Below w.heap.size w wr) := hbel
      clear hx8 hy8 hA hBB hz1' hz2' hz3' hR hx15 hx2 hx7 hx16 hi15 hi2 hi7 hi16 hcell hown hbel lz1 lz2 lz3 lA lB l8 l8' l15 l2 l7 l16 hll HO
      go_wp2_with fail
      refine wp_region_H (fun w' => w' = wr.drew) 21 rfl (by kernel_rfl) ?_
      refine wpAnyH_take (i := 0) (oi := ?o0a) (v := ?v0a) ?hi0a (by kernel_rfl) (by kernel_rfl) (by kernel_rfl) ?hQ0a ?hy0a rfl ?more0a
      case hi0a => rw [List.getElem?_toArray]; exact rfl
      case hQ0a => exact fun _ _ _ h => h
      case hy0a =>
        refine Or.inl ⟨by rfl, ?_⟩
        intro w' hSw
        subst hSw
        go_simp
        try with_reducible rfl
      simp only [Act.put, List.setIfInBounds_toArray, List.set_cons_zero, List.set_cons_succ]
      refine wpAnyH_take (i := 1) (oi := ?o1a) (v := ?v1a) ?hi1a (by kernel_rfl) (by kernel_rfl) (by kernel_rfl) ?hQ1a ?hy1a rfl ?more1a
      case hi1a => rw [List.getElem?_toArray]; exact rfl
      case hQ1a => exact fun _ _ _ h => h
      case hy1a =>
        refine Or.inl ⟨by rfl, ?_⟩
        intro w' hSw
        subst hSw
        go_simp
        try with_reducible rfl
      simp only [Act.put, List.setIfInBounds_toArray, List.set_cons_zero, List.set_cons_succ]
      refine wpAnyH_take (i := 2) (oi := ?o2a) (v := ?v2a) ?hi2a (by kernel_rfl) (by kernel_rfl) (by kernel_rfl) ?hQ2a ?hy2a rfl ?more2a
      case hi2a => rw [List.getElem?_toArray]; exact rfl
      case hQ2a => exact fun _ _ _ h => h
      case hy2a =>
        refine Or.inl ⟨by rfl, ?_⟩
        intro w' hSw
        subst hSw
        go_simp
        try with_reducible rfl
      simp only [Act.put, List.setIfInBounds_toArray, List.set_cons_zero, List.set_cons_succ]
      refine wpAnyH_take (i := 3) (oi := ?o3a) (v := ?v3a) ?hi3a (by kernel_rfl) (by kernel_rfl) (by kernel_rfl) ?hQ3a ?hy3a rfl ?more3a
      case hi3a => rw [List.getElem?_toArray]; exact rfl
      case hQ3a => exact fun _ _ _ h => h
      case hy3a =>
        refine Or.inl ⟨by rfl, ?_⟩
        intro w' hSw
        subst hSw
        go_simp
        try with_reducible rfl
      simp only [Act.put, List.setIfInBounds_toArray, List.set_cons_zero, List.set_cons_succ]
      refine wpAnyH_take (i := 4) (oi := ?o4a) (v := ?v4a) ?hi4a (by kernel_rfl) (by kernel_rfl) (by kernel_rfl) ?hQ4a ?hy4a rfl ?more4a
      case hi4a => rw [List.getElem?_toArray]; exact rfl
      case hQ4a => exact fun _ _ _ h => h
      case hy4a =>
        refine Or.inl ⟨by rfl, ?_⟩
        intro w' hSw
        subst hSw
        go_simp
        try with_reducible rfl
      simp only [Act.put, List.setIfInBounds_toArray, List.set_cons_zero, List.set_cons_succ]
      refine wpAnyH_take (i := 6) (oi := ?o6a) (v := ?v6a) ?hi6a (by kernel_rfl) (by kernel_rfl) (by kernel_rfl) ?hQ6a ?hy6a rfl ?more6a
      case hi6a => rw [List.getElem?_toArray]; exact rfl
      case hQ6a => exact fun _ _ _ h => h
      case hy6a =>
        refine Or.inl ⟨by rfl, ?_⟩
        intro w' hSw
        subst hSw
        go_simp
        try with_reducible rfl
      simp only [Act.put, List.setIfInBounds_toArray, List.set_cons_zero, List.set_cons_succ]
      refine wpAnyH_take (i := 7) (oi := ?o7a) (v := ?v7a) ?hi7a (by kernel_rfl) (by kernel_rfl) (by kernel_rfl) ?hQ7a ?hy7a rfl ?more7a
      case hi7a => rw [List.getElem?_toArray]; exact rfl
      case hQ7a => exact fun _ _ _ h => h
      case hy7a =>
        refine Or.inl ⟨by rfl, ?_⟩
        intro w' hSw
        subst hSw
        go_simp
        try with_reducible rfl
      simp only [Act.put, List.setIfInBounds_toArray, List.set_cons_zero, List.set_cons_succ]
      refine wpAnyH_take (i := 8) (oi := ?o8a) (v := ?v8a) ?hi8a (by kernel_rfl) (by kernel_rfl) (by kernel_rfl) ?hQ8a ?hy8a rfl ?more8a
      case hi8a => rw [List.getElem?_toArray]; exact rfl
      case hQ8a => exact fun _ _ _ h => h
      case hy8a =>
        refine Or.inl ⟨by rfl, ?_⟩
        intro w' hSw
        subst hSw
        go_simp
        try with_reducible rfl
      simp only [Act.put, List.setIfInBounds_toArray, List.set_cons_zero, List.set_cons_succ]
      refine wpAnyH_take (i := 9) (oi := ?o9a) (v := ?v9a) ?hi9a (by kernel_rfl) (by kernel_rfl) (by kernel_rfl) ?hQ9a ?hy9a rfl ?more9a
      case hi9a => rw [List.getElem?_toArray]; exact rfl
      case hQ9a => exact fun _ _ _ h => h
      case hy9a =>
        refine Or.inl ⟨by rfl, ?_⟩
        intro w' hSw
        subst hSw
        go_simp
        try with_reducible rfl
      simp only [Act.put, List.setIfInBounds_toArray, List.set_cons_zero, List.set_cons_succ]
      refine wpAnyH_take (i := 10) (oi := ?o10a) (v := ?v10a) ?hi10a (by kernel_rfl) (by kernel_rfl) (by kernel_rfl) ?hQ10a ?hy10a rfl ?more10a
      case hi10a => rw [List.getElem?_toArray]; exact rfl
      case hQ10a => exact fun _ _ _ h => h
      case hy10a =>
        refine Or.inl ⟨by rfl, ?_⟩
        intro w' hSw
        subst hSw
        go_simp
        try with_reducible rfl
      simp only [Act.put, List.setIfInBounds_toArray, List.set_cons_zero, List.set_cons_succ]
      refine wpAnyH_take (i := 13) (oi := ?o13a) (v := ?v13a) ?hi13a (by kernel_rfl) (by kernel_rfl) (by kernel_rfl) ?hQ13a ?hy13a rfl ?more13a
      case hi13a => rw [List.getElem?_toArray]; exact rfl
      case hQ13a => exact fun _ _ _ h => h
      case hy13a =>
        refine Or.inl ⟨by rfl, ?_⟩
        intro w' hSw
        subst hSw
        go_simp
        try with_reducible rfl
      simp only [Act.put, List.setIfInBounds_toArray, List.set_cons_zero, List.set_cons_succ]
      refine wpAnyH_take (i := 14) (oi := ?o14a) (v := ?v14a) ?hi14a (by kernel_rfl) (by kernel_rfl) (by kernel_rfl) ?hQ14a ?hy14a rfl ?more14a
      case hi14a => rw [List.getElem?_toArray]; exact rfl
      case hQ14a => exact fun _ _ _ h => h
      case hy14a =>
        refine Or.inl ⟨by rfl, ?_⟩
        intro w' hSw
        subst hSw
        go_simp
        try with_reducible rfl
      simp only [Act.put, List.setIfInBounds_toArray, List.set_cons_zero, List.set_cons_succ]
      refine wpAnyH_take (i := 15) (oi := ?o15a) (v := ?v15a) ?hi15a (by kernel_rfl) (by kernel_rfl) (by kernel_rfl) ?hQ15a ?hy15a rfl ?more15a
      case hi15a => rw [List.getElem?_toArray]; exact rfl
      case hQ15a => exact fun _ _ _ h => h
      case hy15a =>
        refine Or.inl ⟨by rfl, ?_⟩
        intro w' hSw
        subst hSw
        go_simp
        try with_reducible rfl
      simp only [Act.put, List.setIfInBounds_toArray, List.set_cons_zero, List.set_cons_succ]
      refine wpAnyH_take (i := 16) (oi := ?o16a) (v := ?v16a) ?hi16a (by kernel_rfl) (by kernel_rfl) (by kernel_rfl) ?hQ16a ?hy16a rfl ?more16a
      case hi16a => rw [List.getElem?_toArray]; exact rfl
      case hQ16a => exact fun _ _ _ h => h
      case hy16a =>
        refine Or.inl ⟨by rfl, ?_⟩
        intro w' hSw
        subst hSw
        go_simp
        try with_reducible rfl
      simp only [Act.put, List.setIfInBounds_toArray, List.set_cons_zero, List.set_cons_succ]
      refine wpAnyH_take (i := 17) (oi := ?o17a) (v := ?v17a) ?hi17a (by kernel_rfl) (by kernel_rfl) (by kernel_rfl) ?hQ17a ?hy17a rfl ?more17a
      case hi17a => rw [List.getElem?_toArray]; exact rfl
      case hQ17a => exact fun _ _ _ h => h
      case hy17a =>
        refine Or.inl ⟨by rfl, ?_⟩
        intro w' hSw
        subst hSw
        go_simp
        try with_reducible rfl
      simp only [Act.put, List.setIfInBounds_toArray, List.set_cons_zero, List.set_cons_succ]
      refine wpAnyH_take (i := 18) (oi := ?o18a) (v := ?v18a) ?hi18a (by kernel_rfl) (by kernel_rfl) (by kernel_rfl) ?hQ18a ?hy18a rfl ?more18a
      case hi18a => rw [List.getElem?_toArray]; exact rfl
      case hQ18a => exact fun _ _ _ h => h
      case hy18a =>
        refine Or.inl ⟨by rfl, ?_⟩
        intro w' hSw
        subst hSw
        go_simp
        try with_reducible rfl
      simp only [Act.put, List.setIfInBounds_toArray, List.set_cons_zero, List.set_cons_succ]
      refine wpAnyH_one (i := 5) (o := ?o5a) (by kernel_rfl) ?hi5a ?hw5a ?st5a
      case hi5a => rw [List.getElem?_toArray]; exact rfl
      case hw5a => exact rfl
      intro K hK
      have HK5a : Hid _ := hK
      clear hK
      go_simp
      refine (K7.out _).mono ?_
      rintro ed w' ⟨rfl, rfl⟩
      go_wp2_with fail
      refine HK5a.out _ _ ⟨rfl, ?_⟩
      clear HK5a K
      try simp only [Act.put, List.setIfInBounds_toArray, List.set_cons_zero, List.set_cons_succ]
      refine wpAnyH_one (i := 11) (o := ?o11a) (by kernel_rfl) ?hi11a ?hw11a ?st11a
      case hi11a => rw [List.getElem?_toArray]; exact rfl
      case hw11a => exact rfl
      intro K hK
      have HK11a : Hid _ := hK
      clear hK
      go_simp
      refine (K18.out _).mono ?_
      rintro ed w' ⟨rfl, rfl⟩
      go_wp2_with fail
      refine HK11a.out _ _ ⟨rfl, ?_⟩
      clear HK11a K
      try simp only [Act.put, List.setIfInBounds_toArray, List.set_cons_zero, List.set_cons_succ]
      refine wpAnyH_take (i := 12) (oi := ?o12a) (v := ?v12a) ?hi12a (by kernel_rfl) (by kernel_rfl) (by kernel_rfl) ?hQ12a ?hy12a rfl ?more12a
      case hi12a => rw [List.getElem?_toArray]; exact rfl
      case hQ12a => exact fun _ _ _ h => h
      case hy12a =>
        refine Or.inl ⟨by rfl, ?_⟩
        intro w' hSw
        subst hSw
        go_simp
        try with_reducible rfl
      simp only [Act.put, List.setIfInBounds_toArray, List.set_cons_zero, List.set_cons_succ]
      refine wpAnyH_take (i := 19) (oi := ?o19a) (v := ?v19a) ?hi19a (by kernel_rfl) (by kernel_rfl) (by kernel_rfl) ?hQ19a ?hy19a rfl ?more19a
      case hi19a => rw [List.getElem?_toArray]; exact rfl
      case hQ19a => exact fun _ _ _ h => h
      case hy19a =>
        refine Or.inl ⟨by rfl, ?_⟩
        intro w' hSw
        subst hSw
        go_simp
        try with_reducible rfl
      simp only [Act.put, List.setIfInBounds_toArray, List.set_cons_zero, List.set_cons_succ]
      refine wpAnyH_take (i := 20) (oi := ?o20a) (v := ?v20a) ?hi20a (by kernel_rfl) (by kernel_rfl) (by kernel_rfl) ?hQ20a ?hy20a rfl ?more20a
      case hi20a => rw [List.getElem?_toArray]; exact rfl
      case hQ20a => exact fun _ _ _ h => h
      case hy20a =>
        refine Or.inl ⟨by rfl, ?_⟩
        intro w' hSw
        subst hSw
        go_simp
        try with_reducible rfl
      simp only [Act.put, List.setIfInBounds_toArray, List.set_cons_zero, List.set_cons_succ]
      refine wpAnyH_done (by kernel_rfl) ?_ _
      go_wp2_with fail
      refine wp_region_H (fun w' => w' = wr.drew.drew) 21 rfl (by kernel_rfl) ?_
      refine wpAnyH_take (i := 0) (oi := ?o0b) (v := ?v0b) ?hi0b (by kernel_rfl) (by kernel_rfl) (by kernel_rfl) ?hQ0b ?hy0b rfl ?more0b
      case hi0b => rw [List.getElem?_toArray]; exact rfl
      case hQ0b => exact fun _ _ _ h => h
      case hy0b =>
        refine Or.inl ⟨by rfl, ?_⟩
        intro w' hSw
        subst hSw
        go_simp
        try with_reducible rfl
      simp only [Act.put, List.setIfInBounds_toArray, List.set_cons_zero, List.set_cons_succ]
      refine wpAnyH_take (i := 1) (oi := ?o1b) (v := ?v1b) ?hi1b (by kernel_rfl) (by kernel_rfl) (by kernel_rfl) ?hQ1b ?hy1b rfl ?more1b
      case hi1b => rw [List.getElem?_toArray]; exact rfl
      case hQ1b => exact fun _ _ _ h => h
      case hy1b =>
        refine Or.inl ⟨by rfl, ?_⟩
        intro w' hSw
        subst hSw
        go_simp
        try with_reducible rfl
      simp only [Act.put, List.setIfInBounds_toArray, List.set_cons_zero, List.set_cons_succ]
      refine wpAnyH_take (i := 2) (oi := ?o2b) (v := ?v2b) ?hi2b (by kernel_rfl) (by kernel_rfl) (by kernel_rfl) ?hQ2b ?hy2b rfl ?more2b
      case hi2b => rw [List.getElem?_toArray]; exact rfl
      case hQ2b => exact fun _ _ _ h => h
      case hy2b =>
        refine Or.inl ⟨by rfl, ?_⟩
        intro w' hSw
        subst hSw
        go_simp
        try with_reducible rfl
      simp only [Act.put, List.setIfInBounds_toArray, List.set_cons_zero, List.set_cons_succ]
      refine wpAnyH_take (i := 3) (oi := ?o3b) (v := ?v3b) ?hi3b (by kernel_rfl) (by kernel_rfl) (by kernel_rfl) ?hQ3b ?hy3b rfl ?more3b
      case hi3b => rw [List.getElem?_toArray]; exact rfl
      case hQ3b => exact fun _ _ _ h => h
      case hy3b =>
        refine Or.inl ⟨by rfl, ?_⟩
        intro w' hSw
        subst hSw
        go_simp
        try with_reducible rfl
      simp only [Act.put, List.setIfInBounds_toArray, List.set_cons_zero, List.set_cons_succ]
      refine wpAnyH_take (i := 4) (oi := ?o4b) (v := ?v4b) ?hi4b (by kernel_rfl) (by kernel_rfl) (by kernel_rfl) ?hQ4b ?hy4b rfl ?more4b
      case hi4b => rw [List.getElem?_toArray]; exact rfl
      case hQ4b => exact fun _ _ _ h => h
      case hy4b =>
        refine Or.inl ⟨by rfl, ?_⟩
        intro w' hSw
        subst hSw
        go_simp
        try with_reducible rfl
      simp only [Act.put, List.setIfInBounds_toArray, List.set_cons_zero, List.set_cons_succ]
      refine wpAnyH_take (i := 6) (oi := ?o6b) (v := ?v6b) ?hi6b (by kernel_rfl) (by kernel_rfl) (by kernel_rfl) ?hQ6b ?hy6b rfl ?more6b
      case hi6b => rw [List.getElem?_toArray]; exact rfl
      case hQ6b => exact fun _ _ _ h => h
      case hy6b =>
        refine Or.inl ⟨by rfl, ?_⟩
        intro w' hSw
        subst hSw
        go_simp
        try with_reducible rfl
      simp only [Act.put, List.setIfInBounds_toArray, List.set_cons_zero, List.set_cons_succ]
      refine wpAnyH_take (i := 7) (oi := ?o7b) (v := ?v7b) ?hi7b (by kernel_rfl) (by kernel_rfl) (by kernel_rfl) ?hQ7b ?hy7b rfl ?more7b
      case hi7b => rw [List.getElem?_toArray]; exact rfl
      case hQ7b => exact fun _ _ _ h => h
      case hy7b =>
        refine Or.inl ⟨by rfl, ?_⟩
        intro w' hSw
        subst hSw
        go_simp
        try with_reducible rfl
      simp only [Act.put, List.setIfInBounds_toArray, List.set_cons_zero, List.set_cons_succ]
      refine wpAnyH_take (i := 8) (oi := ?o8b) (v := ?v8b) ?hi8b (by kernel_rfl) (by kernel_rfl) (by kernel_rfl) ?hQ8b ?hy8b rfl ?more8b
      case hi8b => rw [List.getElem?_toArray]; exact rfl
      case hQ8b => exact fun _ _ _ h => h
      case hy8b =>
        refine Or.inl ⟨by rfl, ?_⟩
        intro w' hSw
        subst hSw
        go_simp
        try with_reducible rfl
      simp only [Act.put, List.setIfInBounds_toArray, List.set_cons_zero, List.set_cons_succ]
      refine wpAnyH_take (i := 9) (oi := ?o9b) (v := ?v9b) ?hi9b (by kernel_rfl) (by kernel_rfl) (by kernel_rfl) ?hQ9b ?hy9b rfl ?more9b
      case hi9b => rw [List.getElem?_toArray]; exact rfl
      case hQ9b => exact fun _ _ _ h => h
      case hy9b =>
        refine Or.inl ⟨by rfl, ?_⟩
        intro w' hSw
        subst hSw
        go_simp
        try with_reducible rfl
      simp only [Act.put, List.setIfInBounds_toArray, List.set_cons_zero, List.set_cons_succ]
      refine wpAnyH_take (i := 10) (oi := ?o10b) (v := ?v10b) ?hi10b (by kernel_rfl) (by kernel_rfl) (by kernel_rfl) ?hQ10b ?hy10b rfl ?more10b
      case hi10b => rw [List.getElem?_toArray]; exact rfl
      case hQ10b => exact fun _ _ _ h => h
      case hy10b =>
        refine Or.inl ⟨by rfl, ?_⟩
        intro w' hSw
        subst hSw
        go_simp
        try with_reducible rfl
      simp only [Act.put, List.setIfInBounds_toArray, List.set_cons_zero, List.set_cons_succ]
      refine wpAnyH_take (i := 13) (oi := ?o13b) (v := ?v13b) ?hi13b (by kernel_rfl) (by kernel_rfl) (by kernel_rfl) ?hQ13b ?hy13b rfl ?more13b
      case hi13b => rw [List.getElem?_toArray]; exact rfl
      case hQ13b => exact fun _ _ _ h => h
      case hy13b =>
        refine Or.inl ⟨by rfl, ?_⟩
        intro w' hSw
        subst hSw
        go_simp
        try with_reducible rfl
      simp only [Act.put, List.setIfInBounds_toArray, List.set_cons_zero, List.set_cons_succ]
      refine wpAnyH_take (i := 14) (oi := ?o14b) (v := ?v14b) ?hi14b (by kernel_rfl) (by kernel_rfl) (by kernel_rfl) ?hQ14b ?hy14b rfl ?more14b
      case hi14b => rw [List.getElem?_toArray]; exact rfl
      case hQ14b => exact fun _ _ _ h => h
      case hy14b =>
        refine Or.inl ⟨by rfl, ?_⟩
        intro w' hSw
        subst hSw
        go_simp
        try with_reducible rfl
      simp only [Act.put, List.setIfInBounds_toArray, List.set_cons_zero, List.set_cons_succ]
      refine wpAnyH_take (i := 15) (oi := ?o15b) (v := ?v15b) ?hi15b (by kernel_rfl) (by kernel_rfl) (by kernel_rfl) ?hQ15b ?hy15b rfl ?more15b
      case hi15b => rw [List.getElem?_toArray]; exact rfl
      case hQ15b => exact fun _ _ _ h => h
      case hy15b =>
        refine Or.inl ⟨by rfl, ?_⟩
        intro w' hSw
        subst hSw
        go_simp
        try with_reducible rfl
      simp only [Act.put, List.setIfInBounds_toArray, List.set_cons_zero, List.set_cons_succ]
      refine wpAnyH_take (i := 16) (oi := ?o16b) (v := ?v16b) ?hi16b (by kernel_rfl) (by kernel_rfl) (by kernel_rfl) ?hQ16b ?hy16b rfl ?more16b
      case hi16b => rw [List.getElem?_toArray]; exact rfl
      case hQ16b => exact fun _ _ _ h => h
      case hy16b =>
        refine Or.inl ⟨by rfl, ?_⟩
        intro w' hSw
        subst hSw
        go_simp
        try with_reducible rfl
      simp only [Act.put, List.setIfInBounds_toArray, List.set_cons_zero, List.set_cons_succ]
      refine wpAnyH_take (i := 17) (oi := ?o17b) (v := ?v17b) ?hi17b (by kernel_rfl) (by kernel_rfl) (by kernel_rfl) ?hQ17b ?hy17b rfl ?more17b
      case hi17b => rw [List.getElem?_toArray]; exact rfl
      case hQ17b => exact fun _ _ _ h => h
      case hy17b =>
        refine Or.inl ⟨by rfl, ?_⟩
        intro w' hSw
        subst hSw
        go_simp
        try with_reducible rfl
      simp only [Act.put, List.setIfInBounds_toArray, List.set_cons_zero, List.set_cons_succ]
      refine wpAnyH_take (i := 18) (oi := ?o18b) (v := ?v18b) ?hi18b (by kernel_rfl) (by kernel_rfl) (by kernel_rfl) ?hQ18b ?hy18b rfl ?more18b
      case hi18b => rw [List.getElem?_toArray]; exact rfl
      case hQ18b => exact fun _ _ _ h => h
      case hy18b =>
        refine Or.inl ⟨by rfl, ?_⟩
        intro w' hSw
        subst hSw
        go_simp
        try with_reducible rfl
      simp only [Act.put, List.setIfInBounds_toArray, List.set_cons_zero, List.set_cons_succ]
      refine wpAnyH_one (i := 5) (o := ?o5b) (by kernel_rfl) ?hi5b ?hw5b ?st5b
      case hi5b => rw [List.getElem?_toArray]; exact rfl
      case hw5b => exact rfl
      intro K hK
      have HK5b : Hid _ := hK
      clear hK
      go_simp
      refine (K17.out _).mono ?_
      rintro ed w' ⟨rfl, rfl⟩
      go_wp2_with fail
      refine HK5b.out _ _ ⟨rfl, ?_⟩
      clear HK5b K
      try simp only [Act.put, List.setIfInBounds_toArray, List.set_cons_zero, List.set_cons_succ]
      refine wpAnyH_one (i := 11) (o := ?o11b) (by kernel_rfl) ?hi11b ?hw11b ?st11b
      case hi11b => rw [List.getElem?_toArray]; exact rfl
      case hw11b => exact rfl
      intro K hK
      have HK11b : Hid _ := hK
      clear hK
      go_simp
      refine (K19.out _).mono ?_
      rintro ed w' ⟨rfl, rfl⟩
      go_wp2_with fail
      refine HK11b.out _ _ ⟨rfl, ?_⟩
      clear HK11b K
      try simp only [Act.put, List.setIfInBounds_toArray, List.set_cons_zero, List.set_cons_succ]
      refine wpAnyH_take (i := 12) (oi := ?o12b) (v := ?v12b) ?hi12b (by kernel_rfl) (by kernel_rfl) (by kernel_rfl) ?hQ12b ?hy12b rfl ?more12b
      case hi12b => rw [List.getElem?_toArray]; exact rfl
      case hQ12b => exact fun _ _ _ h => h
      case hy12b =>
        refine Or.inl ⟨by rfl, ?_⟩
        intro w' hSw
        subst hSw
        go_simp
        try with_reducible rfl
      simp only [Act.put, List.setIfInBounds_toArray, List.set_cons_zero, List.set_cons_succ]
      refine wpAnyH_take (i := 19) (oi := ?o19b) (v := ?v19b) ?hi19b (by kernel_rfl) (by kernel_rfl) (by kernel_rfl) ?hQ19b ?hy19b rfl ?more19b
      case hi19b => rw [List.getElem?_toArray]; exact rfl
      case hQ19b => exact fun _ _ _ h => h
      case hy19b =>
        refine Or.inl ⟨by rfl, ?_⟩
        intro w' hSw
        subst hSw
        go_simp
        try with_reducible rfl
      simp only [Act.put, List.setIfInBounds_toArray, List.set_cons_zero, List.set_cons_succ]
      refine wpAnyH_take (i := 20) (oi := ?o20b) (v := ?v20b) ?hi20b (by kernel_rfl) (by kernel_rfl) (by kernel_rfl) ?hQ20b ?hy20b rfl ?more20b
      case hi20b => rw [List.getElem?_toArray]; exact rfl
      case hQ20b => exact fun _ _ _ h => h
      case hy20b =>
        refine Or.inl ⟨by rfl, ?_⟩
        intro w' hSw
        subst hSw
        go_simp
        try with_reducible rfl
      simp only [Act.put, List.setIfInBounds_toArray, List.set_cons_zero, List.set_cons_succ]
      refine wpAnyH_done (by kernel_rfl) ?_ _
      go_wp2_with fail
      refine wp_region_H (fun w' => w' = wr.drew.drew.drew) 16 rfl (by kernel_rfl) ?_
      refine wpAnyH_take (i := 0) (oi := ?o0c) (v := ?v0c) ?hi0c (by kernel_rfl) (by kernel_rfl) (by kernel_rfl) ?hQ0c ?hy0c rfl ?more0c
      case hi0c => rw [List.getElem?_toArray]; exact rfl
      case hQ0c => exact fun _ _ _ h => h
      case hy0c =>
        refine Or.inl ⟨by rfl, ?_⟩
        intro w' hSw
        subst hSw
        go_simp
        try with_reducible rfl
      simp only [Act.put, List.setIfInBounds_toArray, List.set_cons_zero, List.set_cons_succ]
      refine wpAnyH_take (i := 1) (oi := ?o1c) (v := ?v1c) ?hi1c (by kernel_rfl) (by kernel_rfl) (by kernel_rfl) ?hQ1c ?hy1c rfl ?more1c
      case hi1c => rw [List.getElem?_toArray]; exact rfl
      case hQ1c => exact fun _ _ _ h => h
      case hy1c =>
        refine Or.inl ⟨by rfl, ?_⟩
        intro w' hSw
        subst hSw
        go_simp
        try with_reducible rfl
      simp only [Act.put, List.setIfInBounds_toArray, List.set_cons_zero, List.set_cons_succ]
      refine wpAnyH_take (i := 2) (oi := ?o2c) (v := ?v2c) ?hi2c (by kernel_rfl) (by kernel_rfl) (by kernel_rfl) ?hQ2c ?hy2c rfl ?more2c
      case hi2c => rw [List.getElem?_toArray]; exact rfl
      case hQ2c => exact fun _ _ _ h => h
      case hy2c =>
        refine Or.inl ⟨by rfl, ?_⟩
        intro w' hSw
        subst hSw
        go_simp
        try with_reducible rfl
      simp only [Act.put, List.setIfInBounds_toArray, List.set_cons_zero, List.set_cons_succ]
      refine wpAnyH_take (i := 3) (oi := ?o3c) (v := ?v3c) ?hi3c (by kernel_rfl) (by kernel_rfl) (by kernel_rfl) ?hQ3c ?hy3c rfl ?more3c
      case hi3c => rw [List.getElem?_toArray]; exact rfl
      case hQ3c => exact fun _ _ _ h => h
      case hy3c =>
        refine Or.inl ⟨by rfl, ?_⟩
        intro w' hSw
        subst hSw
        go_simp
        try with_reducible rfl
      simp only [Act.put, List.setIfInBounds_toArray, List.set_cons_zero, List.set_cons_succ]
      refine wpAnyH_take (i := 4) (oi := ?o4c) (v := ?v4c) ?hi4c (by kernel_rfl) (by kernel_rfl) (by kernel_rfl) ?hQ4c ?hy4c rfl ?more4c
      case hi4c => rw [List.getElem?_toArray]; exact rfl
      case hQ4c => exact fun _ _ _ h => h
      case hy4c =>
        refine Or.inl ⟨by rfl, ?_⟩
        intro w' hSw
        subst hSw
        go_simp
        try with_reducible rfl
      simp only [Act.put, List.setIfInBounds_toArray, List.set_cons_zero, List.set_cons_succ]
      refine wpAnyH_take (i := 5) (oi := ?o5c) (v := ?v5c) ?hi5c (by kernel_rfl) (by kernel_rfl) (by kernel_rfl) ?hQ5c ?hy5c rfl ?more5c
      case hi5c => rw [List.getElem?_toArray]; exact rfl
      case hQ5c => exact fun _ _ _ h => h
      case hy5c =>
        refine Or.inl ⟨by rfl, ?_⟩
        intro w' hSw
        subst hSw
        go_simp
        try with_reducible rfl
      simp only [Act.put, List.setIfInBounds_toArray, List.set_cons_zero, List.set_cons_succ]
      refine wpAnyH_take (i := 6) (oi := ?o6c) (v := ?v6c) ?hi6c (by kernel_rfl) (by kernel_rfl) (by kernel_rfl) ?hQ6c ?hy6c rfl ?more6c
      case hi6c => rw [List.getElem?_toArray]; exact rfl
      case hQ6c => exact fun _ _ _ h => h
      case hy6c =>
        refine Or.inl ⟨by rfl, ?_⟩
        intro w' hSw
        subst hSw
        go_simp
        try with_reducible rfl
      simp only [Act.put, List.setIfInBounds_toArray, List.set_cons_zero, List.set_cons_succ]
      refine wpAnyH_take (i := 7) (oi := ?o7c) (v := ?v7c) ?hi7c (by kernel_rfl) (by kernel_rfl) (by kernel_rfl) ?hQ7c ?hy7c rfl ?more7c
      case hi7c => rw [List.getElem?_toArray]; exact rfl
      case hQ7c => exact fun _ _ _ h => h
      case hy7c =>
        refine Or.inl ⟨by rfl, ?_⟩
        intro w' hSw
        subst hSw
        go_simp
        try with_reducible rfl
      simp only [Act.put, List.setIfInBounds_toArray, List.set_cons_zero, List.set_cons_succ]
      refine wpAnyH_take (i := 8) (oi := ?o8c) (v := ?v8c) ?hi8c (by kernel_rfl) (by kernel_rfl) (by kernel_rfl) ?hQ8c ?hy8c rfl ?more8c
      case hi8c => rw [List.getElem?_toArray]; exact rfl
      case hQ8c => exact fun _ _ _ h => h
      case hy8c =>
        refine Or.inl ⟨by rfl, ?_⟩
        intro w' hSw
        subst hSw
        go_simp
        try with_reducible rfl
      simp only [Act.put, List.setIfInBounds_toArray, List.set_cons_zero, List.set_cons_succ]
      refine wpAnyH_take (i := 9) (oi := ?o9c) (v := ?v9c) ?hi9c (by kernel_rfl) (by kernel_rfl) (by kernel_rfl) ?hQ9c ?hy9c rfl ?more9c
      case hi9c => rw [List.getElem?_toArray]; exact rfl
      case hQ9c => exact fun _ _ _ h => h
      case hy9c =>
        refine Or.inl ⟨by rfl, ?_⟩
        intro w' hSw
        subst hSw
        go_simp
        try with_reducible rfl
      simp only [Act.put, List.setIfInBounds_toArray, List.set_cons_zero, List.set_cons_succ]
      refine wpAnyH_take (i := 10) (oi := ?o10c) (v := ?v10c) ?hi10c (by kernel_rfl) (by kernel_rfl) (by kernel_rfl) ?hQ10c ?hy10c rfl ?more10c
      case hi10c => rw [List.getElem?_toArray]; exact rfl
      case hQ10c => exact fun _ _ _ h => h
      case hy10c =>
        refine Or.inl ⟨by rfl, ?_⟩
        intro w' hSw
        subst hSw
        go_simp
        try with_reducible rfl
      simp only [Act.put, List.setIfInBounds_toArray, List.set_cons_zero, List.set_cons_succ]
      refine wpAnyH_take (i := 11) (oi := ?o11c) (v := ?v11c) ?hi11c (by kernel_rfl) (by kernel_rfl) (by kernel_rfl) ?hQ11c ?hy11c rfl ?more11c
      case hi11c => rw [List.getElem?_toArray]; exact rfl
      case hQ11c => exact fun _ _ _ h => h
      case hy11c =>
        refine Or.inl ⟨by rfl, ?_⟩
        intro w' hSw
        subst hSw
        go_simp
        try with_reducible rfl
      simp only [Act.put, List.setIfInBounds_toArray, List.set_cons_zero, List.set_cons_succ]
      refine wpAnyH_take (i := 12) (oi := ?o12c) (v := ?v12c) ?hi12c (by kernel_rfl) (by kernel_rfl) (by kernel_rfl) ?hQ12c ?hy12c rfl ?more12c
      case hi12c => rw [List.getElem?_toArray]; exact rfl
      case hQ12c => exact fun _ _ _ h => h
      case hy12c =>
        refine Or.inl ⟨by rfl, ?_⟩
        intro w' hSw
        subst hSw
        go_simp
        try with_reducible rfl
      simp only [Act.put, List.setIfInBounds_toArray, List.set_cons_zero, List.set_cons_succ]
      refine wpAnyH_take (i := 13) (oi := ?o13c) (v := ?v13c) ?hi13c (by kernel_rfl) (by kernel_rfl) (by kernel_rfl) ?hQ13c ?hy13c rfl ?more13c
      case hi13c => rw [List.getElem?_toArray]; exact rfl
      case hQ13c => exact fun _ _ _ h => h
      case hy13c =>
        refine Or.inl ⟨by rfl, ?_⟩
        intro w' hSw
        subst hSw
        go_simp
        try with_reducible rfl
      simp only [Act.put, List.setIfInBounds_toArray, List.set_cons_zero, List.set_cons_succ]
      refine wpAnyH_take (i := 14) (oi := ?o14c) (v := ?v14c) ?hi14c (by kernel_rfl) (by kernel_rfl) (by kernel_rfl) ?hQ14c ?hy14c rfl ?more14c
      case hi14c => rw [List.getElem?_toArray]; exact rfl
      case hQ14c => exact fun _ _ _ h => h
      case hy14c =>
        refine Or.inl ⟨by rfl, ?_⟩
        intro w' hSw
        subst hSw
        go_simp
        try with_reducible rfl
      simp only [Act.put, List.setIfInBounds_toArray, List.set_cons_zero, List.set_cons_succ]
      refine wpAnyH_take (i := 15) (oi := ?o15c) (v := ?v15c) ?hi15c (by kernel_rfl) (by kernel_rfl) (by kernel_rfl) ?hQ15c ?hy15c rfl ?more15c
      case hi15c => rw [List.getElem?_toArray]; exact rfl
      case hQ15c => exact fun _ _ _ h => h
      case hy15c =>
        refine Or.inl ⟨by rfl, ?_⟩
        intro w' hSw
        subst hSw
        go_simp
        try with_reducible rfl
      simp only [Act.put, List.setIfInBounds_toArray, List.set_cons_zero, List.set_cons_succ]
      refine wpAnyH_done (by kernel_rfl) ?_ _
      go_wp2_with (first | (at_builtin; refine wpList_append_own _ rfl _ _ 75 rfl w.heap.size 3 i0 (.int .i64 0) 1 8 Tryd.underlying75 hi hz0 hz1 hz2 rfl (by decide) (.slice (some ⟨gq, 0, none⟩) t cq) t (intsL (wl b t)) rfl ?c0 ⟨_, 0, none⟩ 1 1 [.int .i64 (R : Nat)] rfl rfl ?c1 ?c2 ?c3 ?c4 ?c5 ?_))
      case c0 => exact World.ownsRow.alloc HO3.out _
      case c1 => first | exact cell_one_new4 _ _ _ | exact cell_one_new4 wr _ _
      case c2 => exact fun u hu => by rw [List.mem_singleton.1 hu]; rfl
      case c3 => exact Nat.le_trans (Nat.succ_le_succ ht2) (by decide)
      case c4 => exact Nat.le_trans (Nat.mul_le_mul_right 8 (Nat.succ_le_succ ht2)) (by decide)
      case c5 => exact Nat.le_trans HBL.out.size (size_le_alloc _ _)
      · intro v' w2 hown' hgrow _
        have hb2 : Below w.heap.size w w2 := (below_alloc0' (Below.drew (Below.drew (Below.drew HBL.out))) _).grown hgrow (Nat.le_trans HBL.out.size (size_le_alloc _ _)) (fun k hk => (World.ownsRow.lt HO3.out k hk).1)
        have HO2 : Hid (w2.ownsRow w.heap.size 3 1 v' (t + 1) (intsL (wl b (t + 1))) ∧ Below w.heap.size w w2) := by
          refine ⟨?_, hb2⟩
          rw [wl_snoc, intsL_snoc, HV.out]
          exact hown'
        have HL2 : Hid (lenOf v' = t + 1) := by
          obtain ⟨g2, c2, hv2, _⟩ := owned_ints HO2.out.1 (Nat.succ_pos _)
          rw [hv2]
          rfl
        clear hgrow hown' hb2
        go_wp2_with fail
        go_roundw
        case rel => first | exact ⟨t + 1, Nat.le_succ_of_le ht1, hlt, HO2.out.1, HO2.out.2⟩ | ((repeat apply Exists.intro); exact ⟨⟨t + 1, Nat.le_succ_of_le ht1, hlt, HO2.out.1, HO2.out.2⟩, rfl⟩)
        case measure =>
          show 64 - lenOf v' < 64 - t
          rw [HL2.out]
          exact Nat.sub_succ_lt_self _ _ hlt
    · obtain rfl : t = 64 := by omega
      have HF : Hid (IntsAt wr gq 0 64 (wAt b) ∧ Below w.heap.size w wr) := ⟨⟨fun j hj => by rw [Nat.zero_add, hcell j hj, wl_get b j 64 hj], hgz⟩, hbel⟩
      clear hcell hown hbel
      go_wp2_with fail
      go_ret
      exact ⟨gq, cq, rfl, HF.out⟩
end Go.Proofs.YtdnahobafhelhaaDoor
