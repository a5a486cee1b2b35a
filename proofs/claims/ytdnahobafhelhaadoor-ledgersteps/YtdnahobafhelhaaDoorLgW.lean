/- Package ledger: a ledger in memory; Open, Append, Get. -/
import Derived.Test.YtdnahobafhelhaaDoorLgV
import Derived.Test.YtdnahobafhelhaaDoorPnt
import Derived.Test.YtdnahobafhelhaaDoorDkF
namespace Go.Proofs.YtdnahobafhelhaaDoor
open Go Go.RowKit Go.Lib

theorem sealS_size (n : Nat) (s : ByteArray) : (sealS n s).size = 4 := by unfold sealS; rw [ByteArray.size_extract, shaS_size']; rfl
theorem recS_size (n : Nat) (s : ByteArray) : (recS n s).size = s.size + 6 := by
  unfold recS
  rw [ByteArray.size_append, ByteArray.size_append, sealS_size, ofL_size, numL_length]; omega
/-- A file, its array of colour i, its own block of colour j. -/
def Fil (w : World) (c : Nat → Nat) (i j G m : Nat) (bs : ByteArray) : Prop := c G = j ∧ i ≠ j ∧ FileAt w G (fun k => c k = i ∨ w.heap.size ≤ k) m bs
theorem FileAt.lt {w : World} {g m : Nat} {P : Nat → Prop} {bs : ByteArray} (h : FileAt w g P m bs) : g < w.heap.size := by
  obtain ⟨a, cap, _, _, _, hg, hB, _⟩ := h
  exact Nat.lt_of_not_le fun c => hg (hB g c)
theorem FileAt.mono {w : World} {g m : Nat} {P Q : Nat → Prop} {bs : ByteArray} (h : FileAt w g P m bs) (hg : ¬ Q g) (hB : ∀ k, w.heap.size ≤ k → Q k) (hq : ∀ k, k < w.heap.size → P k → Q k) : FileAt w g Q m bs := by
  obtain ⟨a, cap, c0, c1, fz, _, _, hR⟩ := h
  exact ⟨a, cap, c0, c1, fz, hg, hB, hR.mono hq⟩
theorem Fil.op {w : World} {c : Nat → Nat} {i j G m m' : Nat} {bs bs' : ByteArray} {f : FuncId} {args : Array Value} {X : Ending} (h : Fil w c i j G m bs)
    (hc : ∀ P, FileAt w G P m bs → Calls Tryd.prog f args w fun e w' => e = X ∧ FileAt w' G P m' bs' ∧ But G P w w') :
    Calls Tryd.prog f args w fun e w' => e = X ∧ Fil w' (paint c w w' i) i j G m' bs' ∧ Chg w c i j w' := by
  refine (hc _ h.2.2).mono ?_
  rintro e w' ⟨rfl, hS, hb⟩
  have hlt := h.2.2.lt
  refine ⟨rfl, ⟨by rw [paint_old hlt]; exact h.1, h.2.1, hS.mono (fun q => ?_) (fun k hk => .inr hk) (fun k hk hF => ?_)⟩, ?_⟩
  · rcases q with q | q
    · rw [paint_old hlt, h.1] at q; exact h.2.1 q.symm
    · exact absurd hlt (Nat.not_lt_of_le (Nat.le_trans hb.size q))
  · left
    by_cases q : k < w.heap.size
    · rw [paint_old q]; exact hF.resolve_right (Nat.not_le_of_lt q)
    · exact paint_new (Nat.le_of_not_lt q) hk
  · refine ⟨hb.os, hb.tape, hb.output, hb.size, fun k hk => hb.block k (fun q => hk (q.elim .inl (fun q => .inr (.inr q)))) (fun q => hk (.inr (.inl (by rw [q]; exact h.1))))⟩
theorem Fil.keep {w w' : World} {c : Nat → Nat} {i j G m a b : Nat} (x : Nat) {bs : ByteArray} (h : Fil w c i j G m bs) (hb : Chg w c a b w') (h1 : i ≠ a) (h2 : i ≠ b) (h3 : j ≠ a) (h4 : j ≠ b) : Fil w' (paint c w w' x) i j G m bs := by
  have hlt := h.2.2.lt
  refine ⟨by rw [paint_old hlt]; exact h.1, h.2.1, ?_⟩
  have hk := hb.block hlt (by rw [h.1]; exact h3) (by rw [h.1]; exact h4)
  obtain ⟨p, cap, c0, c1, fz, hg, hB, hR⟩ := h.2.2
  refine ⟨p, cap, (World.cell?_of_block (w := w) (a := ⟨G, 0, none⟩) hk).trans c0, (World.cell?_of_block (w := w) (a := ⟨G, 1, none⟩) hk).trans c1, fun o => (World.frozen?_of_block (w := w) (a := ⟨G, o, none⟩) hk).trans (fz o), fun q => ?_, fun k hk => .inr hk, ?_⟩
  · rcases q with q | q
    · rw [paint_old hlt, h.1] at q; exact h.2.1 q.symm
    · exact absurd hlt (Nat.not_lt_of_le (Nat.le_trans (Off.size hb) q))
  · rcases hR with hR | ⟨bb, h5, h6, h7, h8⟩
    · exact .inl hR
    · have hcb : c bb = i := h6.resolve_right (Nat.not_le_of_lt h7)
      have hR : RowB w (fun k => k = bb) p bs cap := .inr ⟨bb, h5, rfl, h7, h8⟩
      exact (hR.kept (Off.size hb) (fun k hk hz => by subst hk; exact hb.block hz (by rw [hcb]; exact h1) (by rw [hcb]; exact h2))).mono (fun k _ hk => by subst hk; left; rw [paint_old h7]; exact hcb)
/-- A ledger at block L over the file at G: its records in a row of colour 2, its own block of colour 12. -/
def Led (w : World) (c : Nat → Nat) (G L : Nat) (rs : List ByteArray) : Prop :=
  ∃ a cap, c L = 12 ∧ w.cell? ⟨L, 0, none⟩ = some (.pointer (some ⟨G, 0, none⟩)) ∧ w.cell? ⟨L, 1, none⟩ = some (.slice a rs.length cap) ∧ (∀ o, w.frozen? ⟨L, o, none⟩ = false) ∧ L < w.heap.size ∧ Row w c 2 a (rs.map Value.string) cap
theorem Led.keep {w w' : World} {c : Nat → Nat} {G L a b : Nat} (x : Nat) {rs : List ByteArray} (h : Led w c G L rs) (hb : Chg w c a b w') (h1 : 2 ≠ a) (h2 : 2 ≠ b) (h3 : 12 ≠ a) (h4 : 12 ≠ b) : Led w' (paint c w w' x) G L rs := by
  obtain ⟨p, cap, hc, c0, c1, fz, hlt, hR⟩ := h
  have hk := hb.block hlt (by rw [hc]; exact h3) (by rw [hc]; exact h4)
  exact ⟨p, cap, by rw [paint_old hlt]; exact hc, (World.cell?_of_block (w := w) (a := ⟨L, 0, none⟩) hk).trans c0, (World.cell?_of_block (w := w) (a := ⟨L, 1, none⟩) hk).trans c1, fun o => (World.frozen?_of_block (w := w) (a := ⟨L, o, none⟩) hk).trans (fz o), Nat.lt_of_lt_of_le hlt (Off.size hb), hR.keep x hb h1 h2⟩
/-- The digest's variables, of colour 0. -/
def Glb (w : World) (c : Nat → Nat) : Prop := GlobD w ∧ 0 < w.heap.size ∧ 1 < w.heap.size ∧ c 0 = 0 ∧ c 1 = 0
theorem Glb.keep {w w' : World} {c : Nat → Nat} {a b : Nat} (x : Nat) (h : Glb w c) (hb : Chg w c a b w') (h1 : a ≠ 0) (h2 : b ≠ 0) : Glb w' (paint c w w' x) := by
  obtain ⟨g, z1, z2, k1, k2⟩ := h
  refine ⟨g.off hb ?_ ?_, Nat.lt_of_lt_of_le z1 (Off.size hb), Nat.lt_of_lt_of_le z2 (Off.size hb), by rw [paint_old z1]; exact k1, by rw [paint_old z2]; exact k2⟩
  · rintro (q | q | q)
    · exact h1 (q.symm.trans k1)
    · exact h2 (q.symm.trans k1)
    · exact absurd z1 (Nat.not_lt_of_le q)
  · rintro (q | q | q)
    · exact h1 (q.symm.trans k2)
    · exact h2 (q.symm.trans k2)
    · exact absurd z2 (Nat.not_lt_of_le q)
theorem Chg.trans1 {w w1 w2 : World} {c c1 : Nat → Nat} {i j a b : Nat} (h : Chg w c i j w1) (h2 : Off (fun k => c1 k = a ∨ c1 k = b ∨ w1.heap.size ≤ k) w1 w2) (hk : ∀ k, k < w.heap.size → c1 k = a ∨ c1 k = b → c k = i ∨ c k = j) : Chg w c i j w2 :=
  Off.trans h (h2.mono' (fun k q => by
    by_cases hlt : k < w.heap.size
    · rcases q with q | q | q
      · exact (hk k hlt (.inl q)).elim .inl (fun r => .inr (.inl r))
      · exact (hk k hlt (.inr q)).elim .inl (fun r => .inr (.inl r))
      · exact .inr (.inr (Nat.le_trans (Off.size h) q))
    · exact .inr (.inr (Nat.le_of_not_lt hlt))))
set_option maxHeartbeats 2000000 in
theorem lopen_any (c : Nat → Nat) (G m : Nat) (bs : ByteArray) (hz : bs.size ≤ 1048576) (xs : List ByteArray) (hx : Told 0 bs xs) (w : World) (hF : Fil w c 1 11 G m bs) (hG : Glb w c) :
    Calls Tryd.prog 13 #[.pointer (some ⟨G, 0, none⟩)] w fun e w' => ∃ (L : Nat) (c' : Nat → Nat), e = .returned (.tuple #[.pointer (some ⟨L, 0, none⟩), .int .i64 0]) ∧ Fil w' c' 1 11 G (sizesN xs) (bs.extract 0 (sizesN xs)) ∧ Led w' c' G L xs ∧ Glb w' c' ∧ Chg w c 1 11 w' ∧ w.heap.size ≤ L ∧ ∀ k, k < w.heap.size → c' k = c k := by
  have hsz := (told_sizes hx).1
  have KB : Hid _ := fbytes_any G _ m bs w hF.2.2
  have KR : Hid _ := read_any bs (by omega) xs hx w hG.1 hG.2.2.1
  have KC : Hid (∀ (w' : World) (P : Nat → Prop), FileAt w' G P m bs → Calls Tryd.prog 28 #[.pointer (some ⟨G, 0, none⟩), .int .i64 (sizesN xs : Nat)] w' fun e w'' => e = .returned (.int .i64 0) ∧ FileAt w'' G P (sizesN xs) (bs.extract 0 (sizesN xs)) ∧ But G P w' w'') := fun w' P h => fcut_ok G P m (sizesN xs) bs hsz hz w' h
  have HF : Hid (Fil w c 1 11 G m bs ∧ Glb w c) := ⟨hF, hG⟩
  obtain ⟨z, hzz⟩ : ∃ z, z = sizesN xs := ⟨_, rfl⟩
  obtain ⟨nx, hnx⟩ : ∃ n, n = xs.length := ⟨_, rfl⟩
  rw [← hzz, ← hnx] at KR
  rw [← hzz] at KC ⊢
  have HN : Hid (nx = xs.length) := hnx
  clear hF hG hx hz hsz hzz hnx
  go_enter Tryd.func13, Tryd.ntmps13
  go_wp2_with fail
  refine Calls.mono KB.out ?_
  rintro e w0 ⟨rfl, rfl⟩
  go_wp2_with fail
  refine Calls.mono KR.out ?_
  rintro e w1 ⟨a, cap, rfl, hR1, hb1⟩
  obtain ⟨c1, hc1⟩ : ∃ x, x = paint c w0 w1 2 := ⟨_, rfl⟩
  have H1 : Hid (Fil w1 c1 1 11 G m bs ∧ Glb w1 c1 ∧ Row w1 c1 2 a (xs.map Value.string) cap ∧ Below w0.heap.size w0 w1 ∧ (∀ k, k < w0.heap.size → c1 k = c k)) := by
    rw [hc1]
    exact ⟨HF.out.1.keep 2 (Chg.of_below hb1 (i := 0) (j := 0)) (by decide) (by decide) (by decide) (by decide), HF.out.2.keep 2 (Chg.of_below hb1 (i := 9) (j := 9)) (by decide) (by decide), RowV.mono hR1 (fun k hk hF => .inl (paint_new hF hk)), hb1, fun k hk => paint_old hk⟩
  clear hR1 hb1 hc1 KB KR
  obtain ⟨L, hL⟩ : ∃ L, L = w1.heap.size := ⟨_, rfl⟩
  obtain ⟨w2, hw2⟩ : ∃ y, y = w1.alloc (.cells #[.pointer (some ⟨G, 0, none⟩), .slice a nx cap] 65) := ⟨_, rfl⟩
  obtain ⟨c2, hc2⟩ : ∃ x, x = paint c1 w1 w2 12 := ⟨_, rfl⟩
  have H2 : Hid (Fil w2 c2 1 11 G m bs ∧ Glb w2 c2 ∧ Led w2 c2 G L xs ∧ Below w0.heap.size w0 w2 ∧ w0.heap.size ≤ L ∧ (∀ k, k < w0.heap.size → c2 k = c k)) := by
    have hb : Below w1.heap.size w1 w2 := by rw [hw2]; exact below_alloc0 (Below.refl _ _) _
    have hlt : w1.heap.size < w2.heap.size := by rw [hw2]; simp
    rw [hc2, hL]
    refine ⟨H1.out.1.keep 12 (Chg.of_below hb (i := 0) (j := 0)) (by decide) (by decide) (by decide) (by decide), H1.out.2.1.keep 12 (Chg.of_below hb (i := 9) (j := 9)) (by decide) (by decide), ⟨a, cap, paint_new (Nat.le_refl _) hlt, by rw [hw2]; simp [go_sem], by rw [hw2, ← HN.out]; simp [go_sem], fun o => by rw [hw2]; simp [go_sem], hlt, H1.out.2.2.1.keep 12 (Chg.of_below hb (i := 0) (j := 0)) (by decide) (by decide)⟩, below_call0 H1.out.2.2.2.1 hb, H1.out.2.2.2.1.size, fun k hk => ?_⟩
    rw [paint_old (Nat.lt_of_lt_of_le hk H1.out.2.2.2.1.size)]
    exact H1.out.2.2.2.2 k hk
  have HW : Hid (w2 = w1.alloc (.cells #[.pointer (some ⟨G, 0, none⟩), .slice a nx cap] 65) ∧ L = w1.heap.size) := ⟨hw2, hL⟩
  clear hw2 hL hc2 H1
  go_wp2_with fail
  rw [← HW.out.1]
  refine (H2.out.1.op (fun P hP => KC.out _ P hP)).mono ?_
  rintro e w3 ⟨rfl, hF3, hC3⟩
  have H3 : Hid (Fil w3 (paint c2 w2 w3 1) 1 11 G z (bs.extract 0 z) ∧ Led w3 (paint c2 w2 w3 1) G L xs ∧ Glb w3 (paint c2 w2 w3 1) ∧ Chg w0 c 1 11 w3 ∧ ∀ k, k < w0.heap.size → paint c2 w2 w3 1 k = c k) := by
    obtain ⟨h1, h2, h3, h4, h5, h6⟩ := H2.out
    refine ⟨hF3, h3.keep 1 hC3 (by decide) (by decide) (by decide) (by decide), h2.keep 1 hC3 (by decide) (by decide), (Chg.of_below h4).trans1 hC3 (fun k hk q => by rw [h6 k hk] at q; exact q), fun k hk => ?_⟩
    rw [paint_old (Nat.lt_of_lt_of_le hk h4.size)]
    exact h6 k hk
  clear hF3 hC3
  go_wp2_with fail
  go_ret2
  refine ⟨L, _, ?_, H3.out.1, H3.out.2.1, H3.out.2.2.1, H3.out.2.2.2.1, H2.out.2.2.2.2.1, H3.out.2.2.2.2⟩
  rw [HW.out.2]
  rfl
/-- What a ledger's own steps may turn. -/
def LChg (w : World) (c : Nat → Nat) (w' : World) : Prop := Off (fun k => c k = 1 ∨ c k = 11 ∨ c k = 2 ∨ c k = 12 ∨ w.heap.size ≤ k) w w'
set_option maxHeartbeats 4000000 in
theorem lappend_ok (c : Nat → Nat) (G L m : Nat) (bs s : ByteArray) (rs : List ByteArray) (hs : s.size ≤ 9000) (hz : bs.size + (s.size + 6) ≤ 1048576) (hn : rs.length ≤ 1000000) (w : World) (hF : Fil w c 1 11 G m bs) (hD : Led w c G L rs) (hG : Glb w c) :
    Calls Tryd.prog 18 #[.pointer (some ⟨L, 0, none⟩), .string s] w fun e w' => e = .returned (.tuple #[.int .i64 (rs.length : Nat), .int .i64 0]) ∧ ∃ c', Fil w' c' 1 11 G m (bs ++ recS rs.length s) ∧ Led w' c' G L (rs ++ [s]) ∧ Glb w' c' ∧ LChg w c w' ∧ ∀ k, k < w.heap.size → c' k = c k := by
  obtain ⟨i0, hi, hz0, hz1, hz2⟩ := infoStr
  have hsz : ∀ w, (Go.sizeOf 9).run Tryd.prog w = .ok 1 w := fun _ => by kernel_rfl
  obtain ⟨n, hnn⟩ : ∃ n, n = rs.length := ⟨_, rfl⟩
  have KE : Hid _ := fun (w' : World) (h : GlobD w') (hz : 1 < w'.heap.size) => encode_any n s (by omega) w' h hz
  have KA : Hid (∀ (w' : World) (P : Nat → Prop), FileAt w' G P m bs → Calls Tryd.prog 12 #[.pointer (some ⟨G, 0, none⟩), .string (recS n s)] w' fun e w'' => e = .returned (.int .i64 0) ∧ FileAt w'' G P m (bs ++ recS n s) ∧ But G P w' w'') := fun w' P h => fappend_ok G P m bs (recS n s) (by rw [recS_size]; omega) w' h
  have KC : Hid _ := fun w' : World => clone_any s w' (by omega)
  obtain ⟨R, hR⟩ : ∃ R, R = recS n s := ⟨_, rfl⟩
  rw [← hR] at KE KA
  rw [← hnn, ← hR]
  obtain ⟨a, cap, hcL, c0, c1, fz, hlt, hRow⟩ := hD
  rw [← hnn] at c1
  have hs' : ¬ ((9000 : Int) < (s.size : Int)) := by omega
  have HB : Hid (Fil w c 1 11 G m bs ∧ Glb w c ∧ c L = 12 ∧ w.cell? ⟨L, 0, none⟩ = some (.pointer (some ⟨G, 0, none⟩)) ∧ w.cell? ⟨L, 1, none⟩ = some (.slice a n cap) ∧ (∀ o, w.frozen? ⟨L, o, none⟩ = false) ∧ L < w.heap.size ∧ Row w c 2 a (rs.map Value.string) cap ∧ n = rs.length ∧ rs.length ≤ 1000000) := ⟨hF, hG, hcL, c0, c1, fz, hlt, hRow, hnn, hn⟩
  clear hF hG hcL c0 fz hlt hRow hnn hn hs hz hR
  go_enter Tryd.func18, Tryd.ntmps18
  go_wp2_with fail
  clear c1
  refine wp_region_N (fun w' => Below w.heap.size w w') 7 9 rfl (by kernel_rfl) ?_
  refine wpAnyN_takeF (i := 0) (oi := ?o0a) (v := ?v0a) ?hi0a (by kernel_rfl) (by kernel_rfl) (by kernel_rfl) (by decide) ?hQ0a ?hy0a (Below.drew (Below.refl _ _)) ?more0a
  case hi0a => rw [List.getElem?_toArray]; exact rfl
  case hQ0a => exact fun _ _ _ h => h
  case hy0a =>
    refine Or.inl ⟨by rfl, ?_⟩
    intro w' hSw
    clear hSw
    go_simp
    try with_reducible rfl
  simp only [Act.put, List.setIfInBounds_toArray, List.set_cons_zero, List.set_cons_succ]
  refine wpAnyN_takeF (i := 1) (oi := ?o1a) (v := ?v1a) ?hi1a (by kernel_rfl) (by kernel_rfl) (by kernel_rfl) (by decide) ?hQ1a ?hy1a (Below.drew (Below.refl _ _)) ?more1a
  case hi1a => rw [List.getElem?_toArray]; exact rfl
  case hQ1a => exact fun _ _ _ h => h
  case hy1a =>
    refine Or.inl ⟨by rfl, ?_⟩
    intro w' hSw
    clear hSw
    go_simp
    try with_reducible rfl
  simp only [Act.put, List.setIfInBounds_toArray, List.set_cons_zero, List.set_cons_succ]
  refine wpAnyN_takeF (i := 2) (oi := ?o2a) (v := ?v2a) ?hi2a (by kernel_rfl) (by kernel_rfl) (by kernel_rfl) (by decide) ?hQ2a ?hy2a (Below.drew (Below.refl _ _)) ?more2a
  case hi2a => rw [List.getElem?_toArray]; exact rfl
  case hQ2a => exact fun _ _ _ h => h
  case hy2a =>
    refine Or.inl ⟨by rfl, ?_⟩
    intro w' hSw
    clear hSw
    go_simp
    try with_reducible rfl
  simp only [Act.put, List.setIfInBounds_toArray, List.set_cons_zero, List.set_cons_succ]
  refine wpAnyN_take (i := 3) (oi := ?o3a) (v := ?v3a) ?hi3a (by kernel_rfl) (by kernel_rfl) (by kernel_rfl) (by kernel_rfl) (by decide) (by kernel_rfl) ?hQ3a ?hy3a (Below.drew (Below.refl _ _)) ?more3a
  case hi3a => rw [List.getElem?_toArray]; exact rfl
  case hQ3a => exact fun _ _ _ h => h
  case hy3a =>
    refine Or.inl ⟨by rfl, ?_⟩
    intro w' hSw
    have q0 := (hSw.cell (p := ⟨L, 0, none⟩) HB.out.2.2.2.2.2.2.1).trans HB.out.2.2.2.1
    clear hSw
    go_simp
    try with_reducible rfl
  simp only [Act.put, List.setIfInBounds_toArray, List.set_cons_zero, List.set_cons_succ]
  refine wpAnyN_takeF (i := 4) (oi := ?o4a) (v := ?v4a) ?hi4a (by kernel_rfl) (by kernel_rfl) (by kernel_rfl) (by decide) ?hQ4a ?hy4a (Below.drew (Below.refl _ _)) ?more4a
  case hi4a => rw [List.getElem?_toArray]; exact rfl
  case hQ4a => exact fun _ _ _ h => h
  case hy4a =>
    refine Or.inl ⟨by rfl, ?_⟩
    intro w' hSw
    clear hSw
    go_simp
    try with_reducible rfl
  simp only [Act.put, List.setIfInBounds_toArray, List.set_cons_zero, List.set_cons_succ]
  refine wpAnyN_takeF (i := 5) (oi := ?o5a) (v := ?v5a) ?hi5a (by kernel_rfl) (by kernel_rfl) (by kernel_rfl) (by decide) ?hQ5a ?hy5a (Below.drew (Below.refl _ _)) ?more5a
  case hi5a => rw [List.getElem?_toArray]; exact rfl
  case hQ5a => exact fun _ _ _ h => h
  case hy5a =>
    refine Or.inl ⟨by rfl, ?_⟩
    intro w' hSw
    clear hSw
    go_simp
    try with_reducible rfl
  simp only [Act.put, List.setIfInBounds_toArray, List.set_cons_zero, List.set_cons_succ]
  refine wpAnyN_one (i := 6) (o := ?o6a) (by kernel_rfl) ?hi6a ?hw6a ?st6a
  case hi6a => rw [List.getElem?_toArray]; exact rfl
  case hw6a => exact rfl
  intro K hK
  have HK6 : Hid _ := hK
  clear hK
  go_simp
  refine (KE.out _ (HB.out.2.1.1.call (Below.drew (Below.refl _ _))) HB.out.2.1.2.2.1).mono ?_
  rintro e w6 ⟨rfl, hq⟩
  have H6 : Hid (Below w.heap.size w w6) := below_call0 (Below.drew (Below.refl _ _)) hq
  clear hq
  go_wp2_with fail
  refine HK6.out _ _ ⟨fun _ => H6.out, ?_⟩
  clear HK6 K
  try simp only [Act.put, List.setIfInBounds_toArray, List.set_cons_zero, List.set_cons_succ]
  refine wpAnyN_one (i := 7) (o := ?o7a) (by kernel_rfl) ?hi7a ?hw7a ?st7a
  case hi7a => rw [List.getElem?_toArray]; exact rfl
  case hw7a => exact rfl
  intro K hK
  have HK7 : Hid _ := hK
  clear hK
  obtain ⟨c6, hc6⟩ : ∃ x, x = paint c w w6 0 := ⟨_, rfl⟩
  have M6 : Hid (Fil w6 c6 1 11 G m bs ∧ Glb w6 c6 ∧ (∀ k, k < w.heap.size → c6 k = c k)) := by rw [hc6]; exact ⟨HB.out.1.keep 0 (Chg.of_below H6.out (i := 0) (j := 0)) (by decide) (by decide) (by decide) (by decide), HB.out.2.1.keep 0 (Chg.of_below H6.out (i := 9) (j := 9)) (by decide) (by decide), fun k hk => paint_old hk⟩
  clear hc6
  go_simp
  refine (M6.out.1.op (fun P hP => KA.out _ P hP)).mono ?_
  rintro e w7 ⟨rfl, hF7, hC7⟩
  obtain ⟨c7, hc7⟩ : ∃ x, x = paint c6 w6 w7 1 := ⟨_, rfl⟩
  have M7 : Hid (Fil w7 c7 1 11 G m (bs ++ R) ∧ Glb w7 c7 ∧ (∀ k, k < w.heap.size → c7 k = c k) ∧ Chg w c 1 11 w7) := by rw [hc7]; exact ⟨hF7, M6.out.2.1.keep 1 hC7 (by decide) (by decide), fun k hk => (by rw [paint_old (Nat.lt_of_lt_of_le hk H6.out.size)]; exact M6.out.2.2 k hk), (Chg.of_below H6.out).trans1 hC7 (fun k hk q => by rw [M6.out.2.2 k hk] at q; exact q)⟩
  clear hF7 hC7 hc7
  go_wp2_with fail
  refine HK7.out _ _ ⟨fun h => absurd h (by decide +kernel), ?_⟩
  clear HK7 K
  try simp only [Act.put, List.setIfInBounds_toArray, List.set_cons_zero, List.set_cons_succ]
  refine wpAnyN_one (i := 8) (o := ?o8a) (by kernel_rfl) ?hi8a ?hw8a ?st8a
  case hi8a => rw [List.getElem?_toArray]; exact rfl
  case hw8a => exact rfl
  intro K hK
  have HK8 : Hid _ := hK
  clear hK
  go_simp
  refine HK8.out _ _ ⟨fun h => absurd h (by decide +kernel), ?_⟩
  clear HK8 K
  try simp only [Act.put, List.setIfInBounds_toArray, List.set_cons_zero, List.set_cons_succ]
  refine wpAnyN_done (by kernel_rfl) ?_ _
  have H7 : Hid (w7.cell? ⟨L, 1, none⟩ = some (.slice a n cap) ∧ w7.cell? ⟨L, 0, none⟩ = some (.pointer (some ⟨G, 0, none⟩)) ∧ (∀ o, w7.frozen? ⟨L, o, none⟩ = false) ∧ L < w7.heap.size ∧ Row w7 c7 2 a (rs.map Value.string) cap ∧ c7 L = 12) := by
    obtain ⟨b1, b2, b3, b4, b5, b6, b7, b8, b9⟩ := HB.out
    have hC := M7.out.2.2.2
    have hk := hC.block b7 (by rw [b3]; decide) (by rw [b3]; decide)
    refine ⟨(World.cell?_of_block (w := w) (a := ⟨L, 1, none⟩) hk).trans b5, (World.cell?_of_block (w := w) (a := ⟨L, 0, none⟩) hk).trans b4, fun o => (World.frozen?_of_block (w := w) (a := ⟨L, o, none⟩) hk).trans (b6 o), Nat.lt_of_lt_of_le b7 (Off.size hC), ?_, by rw [M7.out.2.2.1 L b7]; exact b3⟩
    rcases b8 with h | ⟨bb, o, h1, h2, h3, h4⟩
    · exact .inl h
    · have hcb : c bb = 2 := h2.resolve_right (Nat.not_le_of_lt h3)
      have hR : RowV w (fun k => k = bb) a (rs.map Value.string) cap := .inr ⟨bb, o, h1, rfl, h3, h4⟩
      exact (hR.kept (Off.size hC) (fun k hk hz => by subst hk; exact hC.block hz (by rw [hcb]; decide) (by rw [hcb]; decide))).mono (fun k _ hk => by subst hk; left; rw [M7.out.2.2.1 _ h3]; exact hcb)
  go_wp2_with fail
  refine wp_region_N (fun w' => Below w7.heap.size w7 w') 8 12 rfl (by kernel_rfl) ?_
  refine wpAnyN_takeF (i := 0) (oi := ?o0b) (v := ?v0b) ?hi0b (by kernel_rfl) (by kernel_rfl) (by kernel_rfl) (by decide) ?hQ0b ?hy0b (Below.drew (Below.refl _ _)) ?more0b
  case hi0b => rw [List.getElem?_toArray]; exact rfl
  case hQ0b => exact fun _ _ _ h => h
  case hy0b =>
    refine Or.inl ⟨by rfl, ?_⟩
    intro w' hSw
    clear hSw
    go_simp
    try with_reducible rfl
  simp only [Act.put, List.setIfInBounds_toArray, List.set_cons_zero, List.set_cons_succ]
  refine wpAnyN_takeF (i := 1) (oi := ?o1b) (v := ?v1b) ?hi1b (by kernel_rfl) (by kernel_rfl) (by kernel_rfl) (by decide) ?hQ1b ?hy1b (Below.drew (Below.refl _ _)) ?more1b
  case hi1b => rw [List.getElem?_toArray]; exact rfl
  case hQ1b => exact fun _ _ _ h => h
  case hy1b =>
    refine Or.inl ⟨by rfl, ?_⟩
    intro w' hSw
    clear hSw
    go_simp
    try with_reducible rfl
  simp only [Act.put, List.setIfInBounds_toArray, List.set_cons_zero, List.set_cons_succ]
  refine wpAnyN_takeF (i := 2) (oi := ?o2b) (v := ?v2b) ?hi2b (by kernel_rfl) (by kernel_rfl) (by kernel_rfl) (by decide) ?hQ2b ?hy2b (Below.drew (Below.refl _ _)) ?more2b
  case hi2b => rw [List.getElem?_toArray]; exact rfl
  case hQ2b => exact fun _ _ _ h => h
  case hy2b =>
    refine Or.inl ⟨by rfl, ?_⟩
    intro w' hSw
    clear hSw
    go_simp
    try with_reducible rfl
  simp only [Act.put, List.setIfInBounds_toArray, List.set_cons_zero, List.set_cons_succ]
  refine wpAnyN_takeF (i := 3) (oi := ?o3b) (v := ?v3b) ?hi3b (by kernel_rfl) (by kernel_rfl) (by kernel_rfl) (by decide) ?hQ3b ?hy3b (Below.drew (Below.refl _ _)) ?more3b
  case hi3b => rw [List.getElem?_toArray]; exact rfl
  case hQ3b => exact fun _ _ _ h => h
  case hy3b =>
    refine Or.inl ⟨by rfl, ?_⟩
    intro w' hSw
    clear hSw
    go_simp
    try with_reducible rfl
  simp only [Act.put, List.setIfInBounds_toArray, List.set_cons_zero, List.set_cons_succ]
  refine wpAnyN_take (i := 4) (oi := ?o4b) (v := ?v4b) ?hi4b (by kernel_rfl) (by kernel_rfl) (by kernel_rfl) (by kernel_rfl) (by decide) (by kernel_rfl) ?hQ4b ?hy4b (Below.drew (Below.refl _ _)) ?more4b
  case hi4b => rw [List.getElem?_toArray]; exact rfl
  case hQ4b => exact fun _ _ _ h => h
  case hy4b =>
    refine Or.inl ⟨by rfl, ?_⟩
    intro w' hSw
    have q1 := (hSw.cell (p := ⟨L, 1, none⟩) H7.out.2.2.2.1).trans H7.out.1
    clear hSw
    go_simp
    try with_reducible rfl
  simp only [Act.put, List.setIfInBounds_toArray, List.set_cons_zero, List.set_cons_succ]
  refine wpAnyN_takeF (i := 5) (oi := ?o5b) (v := ?v5b) ?hi5b (by kernel_rfl) (by kernel_rfl) (by kernel_rfl) (by decide) ?hQ5b ?hy5b (Below.drew (Below.refl _ _)) ?more5b
  case hi5b => rw [List.getElem?_toArray]; exact rfl
  case hQ5b => exact fun _ _ _ h => h
  case hy5b =>
    refine Or.inl ⟨by rfl, ?_⟩
    intro w' hSw
    clear hSw
    go_simp
    try with_reducible rfl
  simp only [Act.put, List.setIfInBounds_toArray, List.set_cons_zero, List.set_cons_succ]
  refine wpAnyN_one (i := 6) (o := ?o6b) (by kernel_rfl) ?hi6b ?hw6b ?st6b
  case hi6b => rw [List.getElem?_toArray]; exact rfl
  case hw6b => exact rfl
  intro K hK
  have HK6 : Hid _ := hK
  clear hK
  go_simp
  refine (KC.out _).mono ?_
  rintro e w8 ⟨rfl, hq⟩
  have H8 : Hid (Below w7.heap.size w7 w8) := below_call0 (Below.drew (Below.refl _ _)) hq
  clear hq
  go_wp2_with fail
  refine HK6.out _ _ ⟨fun _ => H8.out, ?_⟩
  clear HK6 K
  try simp only [Act.put, List.setIfInBounds_toArray, List.set_cons_zero, List.set_cons_succ]
  refine wpAnyN_one (i := 7) (o := ?o7b) (by kernel_rfl) ?hi7b ?hw7b ?st7b
  case hi7b => rw [List.getElem?_toArray]; exact rfl
  case hw7b => exact rfl
  intro K hK
  have HK7 : Hid _ := hK
  clear hK
  go_simp
  refine HK7.out _ _ ⟨fun _ => (below_alloc0 H8.out _), ?_⟩
  clear HK7 K
  try simp only [Act.put, List.setIfInBounds_toArray, List.set_cons_zero, List.set_cons_succ]
  refine wpAnyN_one (i := 8) (o := ?o8b) (by kernel_rfl) ?hi8b ?hw8b ?st8b
  case hi8b => rw [List.getElem?_toArray]; exact rfl
  case hw8b => exact rfl
  intro K hK
  have HK8 : Hid _ := hK
  clear hK
  refine owp_append_RowV _ (.tmp 33) (.tmp 36) 23 rfl (fun k => c7 k = 2 ∨ w7.heap.size ≤ k) 9 i0 (.string ⟨#[]⟩) 16 Tryd.underlying23 hi hz0 rfl hz1 hz2 a n cap (rs.map Value.string) [.string s] rfl (by rw [List.length_map]; exact HB.out.2.2.2.2.2.2.2.2.1) (RowV.call H7.out.2.2.2.2.1 (below_alloc0 H8.out _)) (by rw [List.length_map]; have := HB.out.2.2.2.2.2.2.2.2.2; unfold maxLen; simp; omega) (by rw [List.length_map]; have := HB.out.2.2.2.2.2.2.2.2.2; simp; omega) (fun k hk => .inr (Nat.le_trans (below_alloc0 H8.out (.cells #[.string s] 9)).size hk)) ⟨w8.heap.size, 0, none⟩ 1 1 rfl rfl (cellnew1 s w8 _) (strone s) ?_
  intro a9 m9 c9 w9 hm9 hR9 hb9
  have o9 : Off (fun k => c7 k = 2 ∨ w7.heap.size ≤ k) w7 w9 := (Off.of_below (below_alloc0 H8.out _) (fun k hk => .inr hk)).trans hb9
  have H9 : Hid (m9 = n + 1 ∧ Row w9 (paint c7 w7 w9 2) 2 a9 ((rs ++ [s]).map Value.string) c9 ∧ Chg w7 c7 2 2 w9) := ⟨hm9, by rw [List.map_append]; exact Row.done hR9 o9, Row.chg o9⟩
  have q9 : w9.cell? ⟨L, 1, none⟩ = some (.slice a n cap) := (H9.out.2.2.cell H7.out.2.2.2.1 (by rw [H7.out.2.2.2.2.2]; decide) (by rw [H7.out.2.2.2.2.2]; decide)).trans H7.out.1
  have z9 : w9.frozen? ⟨L, 1, none⟩ = false := (World.frozen?_of_block (w := w7) (a := ⟨L, 1, none⟩) (H9.out.2.2.block H7.out.2.2.2.1 (by rw [H7.out.2.2.2.2.2]; decide) (by rw [H7.out.2.2.2.2.2]; decide))).trans (H7.out.2.2.1 1)
  clear hm9 hR9 hb9 o9
  refine HK8.out _ _ ⟨fun h => absurd h (by decide +kernel), ?_⟩
  clear HK8 K
  try simp only [Act.put, List.setIfInBounds_toArray, List.set_cons_zero, List.set_cons_succ]
  refine wpAnyN_one (i := 9) (o := ?o9b) (by kernel_rfl) ?hi9b ?hw9b ?st9b
  case hi9b => rw [List.getElem?_toArray]; exact rfl
  case hw9b => exact rfl
  intro K hK
  have HK9 : Hid _ := hK
  clear hK
  go_simp
  refine HK9.out _ _ ⟨fun h => absurd h (by decide +kernel), ?_⟩
  clear HK9 K
  try simp only [Act.put, List.setIfInBounds_toArray, List.set_cons_zero, List.set_cons_succ]
  refine wpAnyN_one (i := 10) (o := ?o10b) (by kernel_rfl) ?hi10b ?hw10b ?st10b
  case hi10b => rw [List.getElem?_toArray]; exact rfl
  case hw10b => exact rfl
  intro K hK
  have HK10 : Hid _ := hK
  clear hK
  go_simp
  refine HK10.out _ _ ⟨fun h => absurd h (by decide +kernel), ?_⟩
  clear HK10 K
  try simp only [Act.put, List.setIfInBounds_toArray, List.set_cons_zero, List.set_cons_succ]
  refine wpAnyN_one (i := 11) (o := ?o11b) (by kernel_rfl) ?hi11b ?hw11b ?st11b
  case hi11b => rw [List.getElem?_toArray]; exact rfl
  case hw11b => exact rfl
  intro K hK
  have HK11 : Hid _ := hK
  clear hK
  go_simp
  refine HK11.out _ _ ⟨fun h => absurd h (by decide +kernel), ?_⟩
  clear HK11 K
  try simp only [Act.put, List.setIfInBounds_toArray, List.set_cons_zero, List.set_cons_succ]
  refine wpAnyN_done (by kernel_rfl) ?_ _
  go_wp2_with fail
  go_ret2
  obtain ⟨hm, hR9, hC9⟩ := H9.out
  obtain ⟨d1, d2, d3, d4, d5, d6⟩ := H7.out
  obtain ⟨f1, f2, f3, f4⟩ := M7.out
  obtain ⟨c9', hc9'⟩ : ∃ x, x = paint c7 w7 w9 2 := ⟨_, rfl⟩
  have hcL : c9' L = 12 := by rw [hc9', paint_old d4]; exact d6
  have hS : Chg w9 c9' 12 12 (w9.setCell ⟨L, 1, none⟩ (.slice a9 m9 c9)) := Chg.set hcL
  have hz : (w9.setCell ⟨L, 1, none⟩ (.slice a9 m9 c9)).heap.size = w9.heap.size := World.size_setCell ..
  have e := paint_same (c := c9') (x := 0) hz
  have kk := hC9.block d4 (by rw [d6]; decide) (by rw [d6]; decide)
  refine ⟨rfl, c9', ?_, ⟨a9, c9, hcL, ?_, ?_, fun o => ?_, ?_, ?_⟩, ?_, ?_, fun k hk => ?_⟩
  · have := (f1.keep 2 hC9 (by decide) (by decide) (by decide) (by decide)).keep 0 (by rw [← hc9']; exact hS) (by decide) (by decide) (by decide) (by decide)
    rw [← hc9', e] at this; exact this
  · rw [World.cell?_setCell_other _ _ _ _ (by intro k; injection k with _ k2 _; omega)]
    exact (World.cell?_of_block (w := w7) (a := ⟨L, 0, none⟩) kk).trans d2
  · rw [World.cell?_setCell_same _ _ _ q9, hm, HB.out.2.2.2.2.2.2.2.2.1, List.length_append]
    rfl
  · rw [World.frozen?_setCell]; exact (World.frozen?_of_block (w := w7) (a := ⟨L, o, none⟩) kk).trans (d3 o)
  · rw [hz]; exact Nat.lt_of_lt_of_le d4 (Off.size hC9)
  · rw [← hc9'] at hR9
    have := hR9.keep 0 hS (by decide) (by decide)
    rw [e] at this; exact this
  · have := (f2.keep 2 hC9 (by decide) (by decide)).keep 0 (by rw [← hc9']; exact hS) (by decide) (by decide)
    rw [← hc9', e] at this; exact this
  · refine Off.trans (f4.mono' (fun k q => q.elim .inl (fun q => .inr (q.elim .inl (fun q => .inr (.inr (.inr q))))))) (Off.trans (hC9.mono' (fun k q => ?_)) (hS.mono' (fun k q => ?_)))
    · by_cases hlt : k < w.heap.size
      · rcases q with q | q | q
        · rw [f3 k hlt] at q; exact .inr (.inr (.inl q))
        · rw [f3 k hlt] at q; exact .inr (.inr (.inl q))
        · exact .inr (.inr (.inr (.inr (Nat.le_trans (Off.size f4) q))))
      · exact .inr (.inr (.inr (.inr (Nat.le_of_not_lt hlt))))
    · by_cases hlt : k < w.heap.size
      · have e7 : c9' k = c k := by rw [hc9', paint_old (Nat.lt_of_lt_of_le hlt (Off.size f4))]; exact f3 k hlt
        rcases q with q | q | q
        · rw [e7] at q; exact .inr (.inr (.inr (.inl q)))
        · rw [e7] at q; exact .inr (.inr (.inr (.inl q)))
        · exact .inr (.inr (.inr (.inr (Nat.le_trans (Nat.le_trans (Off.size f4) (Off.size hC9)) q))))
      · exact .inr (.inr (.inr (.inr (Nat.le_of_not_lt hlt))))
  · rw [hc9', paint_old (Nat.lt_of_lt_of_le hk (Off.size f4))]; exact f3 k hk
theorem lget_ok (c : Nat → Nat) (G L k : Nat) (rs : List ByteArray) (hk : k < rs.length) (hz : ∀ r ∈ rs, r.size ≤ 9000) (w : World) (hD : Led w c G L rs) : Calls Tryd.prog 23 #[.pointer (some ⟨L, 0, none⟩), .int .i64 (k : Nat)] w fun e w' => e = .returned (.tuple #[.string (rs[k]'hk), .int .i64 0]) ∧ Below w.heap.size w w' := by
  obtain ⟨a, cap, hcL, c0, c1, fz, hlt, hRow⟩ := hD
  obtain ⟨r, hr⟩ : ∃ r, r = (rs[k]'hk) := ⟨_, rfl⟩
  rw [← hr]
  obtain ⟨tb, tq, rfl, q1, -, -, -⟩ := hRow.at (j := k) (u := .string r) (by rw [List.getElem?_map, List.getElem?_eq_getElem hk, hr]; rfl)
  have KC : Hid _ := fun w' : World => clone_any r w' (by have := hz r (by rw [hr]; exact List.getElem_mem hk); omega)
  obtain ⟨n, hn⟩ : ∃ n, n = rs.length := ⟨_, rfl⟩
  rw [← hn] at c1
  have k1 : (k : Int) < (n : Int) := by omega
  have k2 : ¬ ((n : Int) ≤ (k : Int)) := by omega
  have k3 : ¬ ((k : Int) < 0) := by omega
  have k4 : ¬ (n ≤ k) := by omega
  clear hr hn hz hRow fz hcL
  go_enter Tryd.func23, Tryd.ntmps23
  go_wp2_with fail
  refine (KC.out _).mono ?_
  rintro e w1 ⟨rfl, hb1⟩
  have H1 : Hid _ := hb1
  clear hb1
  go_wp2_with fail
  go_ret2
  exact ⟨rfl, H1.out⟩
end Go.Proofs.YtdnahobafhelhaaDoor
