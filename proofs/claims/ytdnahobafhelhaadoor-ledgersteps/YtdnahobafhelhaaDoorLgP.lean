/- What LedgerTorn keeps: the file, the ledger, and the law's own list. -/
import Derived.Test.YtdnahobafhelhaaDoorLgH
import Derived.Test.YtdnahobafhelhaaDoorLgK
import Derived.Test.YtdnahobafhelhaaDoorDkE
namespace Go.Proofs.YtdnahobafhelhaaDoor
open Go Go.RowKit Go.Lib

theorem Row.off {w w' : World} {c c' : Nat → Nat} {i cap : Nat} {p : Option Addr} {vs : List Value} {D : Nat → Prop} (h : Row w c i p vs cap) (hb : Off D w w') (hD : ∀ k, k < w.heap.size → c k = i → ¬ D k) (hc : ∀ k, k < w.heap.size → c' k = c k) : Row w' c' i p vs cap := by
  rcases h with h | ⟨bb, o, h5, h6, h7, h8⟩
  · exact .inl h
  · have hcb : c bb = i := h6.resolve_right (Nat.not_le_of_lt h7)
    have hR : RowV w (fun k => k = bb) p vs cap := .inr ⟨bb, o, h5, rfl, h7, h8⟩
    exact (hR.kept hb.size (fun k hk hz => by subst hk; exact hb.block k (hD k hz hcb))).mono (fun k _ hk => by subst hk; left; rw [hc k h7]; exact hcb)
theorem Strs.off {w w' : World} {a : Option Addr} {l : List ByteArray} {D : Nat → Prop} (h : Strs w a l) (hb : Off D w w') (hD : ∀ p o, a = some ⟨p, o, none⟩ → p < w.heap.size → ¬ D p) : Strs w' a l := fun j s hj => by
  obtain ⟨p, o, e, cc, pl⟩ := h j s hj
  exact ⟨p, o, e, (hb.cell (p := ⟨p, o + j, none⟩) (hD p o e pl)).trans cc, Nat.lt_of_lt_of_le pl hb.size⟩
/-- The file, the ledger over it, and a list of the law's own. -/
structure Tr (w0 W : World) (c : Nat → Nat) (G L m : Nat) (rs : List ByteArray) (aa : Option Addr) (capA : Nat) (al : List ByteArray) : Prop where
  fil : Fil W c 1 11 G m (logS 0 rs)
  led : Led W c G L rs
  glb : Glb W c
  bel : Below w0.heap.size w0 W
  zero : ∀ k, k < w0.heap.size → k < W.heap.size ∧ c k = 0
  row : Row W c 4 aa (al.map Value.string) capA
theorem zero_of {w0 W W' : World} {c c' : Nat → Nat} (h : ∀ k, k < w0.heap.size → k < W.heap.size ∧ c k = 0) (hz : W.heap.size ≤ W'.heap.size) (hk : ∀ k, k < W.heap.size → c' k = c k) : ∀ k, k < w0.heap.size → k < W'.heap.size ∧ c' k = 0 :=
  fun k q => ⟨Nat.lt_of_lt_of_le (h k q).1 hz, by rw [hk k (h k q).1]; exact (h k q).2⟩
theorem Tr.app {w0 W W' : World} {c c' : Nat → Nat} {G L m capA : Nat} {rs al : List ByteArray} {aa : Option Addr} {t : ByteArray} (h : Tr w0 W c G L m rs aa capA al) (hF : Fil W' c' 1 11 G m (logS 0 rs ++ recS rs.length t)) (hD : Led W' c' G L (rs ++ [t])) (hG : Glb W' c') (hC : LChg W c W') (hk : ∀ k, k < W.heap.size → c' k = c k) : Tr w0 W' c' G L m (rs ++ [t]) aa capA al :=
  ⟨by rw [log_snoc, Nat.zero_add]; exact hF, hD, hG, h.bel.trans (hC.under h.zero), zero_of h.zero (Off.size hC) hk, h.row.off hC (fun k hz hc q => by rw [hc] at q; omega) hk⟩
theorem Tr.call {w0 W W' : World} {c : Nat → Nat} {G L m capA : Nat} {rs al : List ByteArray} {aa : Option Addr} (x : Nat) (h : Tr w0 W c G L m rs aa capA al) (hb : Below W.heap.size W W') : Tr w0 W' (paint c W W' x) G L m rs aa capA al :=
  ⟨h.fil.keep x (Chg.of_below hb (i := 0) (j := 0)) (by decide) (by decide) (by decide) (by decide), h.led.keep x (Chg.of_below hb (i := 0) (j := 0)) (by decide) (by decide) (by decide) (by decide), h.glb.keep x (Chg.of_below hb (i := 9) (j := 9)) (by decide) (by decide), h.bel.trans (hb.mono h.bel.size), zero_paint h.zero hb.size, h.row.keep x (Chg.of_below hb (i := 0) (j := 0)) (by decide) (by decide)⟩
theorem Tr.push {w0 W W' : World} {c : Nat → Nat} {G L m capA capB : Nat} {rs al : List ByteArray} {aa a' : Option Addr} {t : ByteArray} (h : Tr w0 W c G L m rs aa capA al) (hR : RowV W' (fun k => c k = 4 ∨ W.heap.size ≤ k) a' (al.map Value.string ++ [.string t]) capB) (hb : Off (fun k => c k = 4 ∨ W.heap.size ≤ k) W W') : Tr w0 W' (paint c W W' 4) G L m rs a' capB (al ++ [t]) := by
  have hC : Chg W c 4 4 W' := Row.chg hb
  exact ⟨h.fil.keep 4 hC (by decide) (by decide) (by decide) (by decide), h.led.keep 4 hC (by decide) (by decide) (by decide) (by decide), h.glb.keep 4 hC (by decide) (by decide), h.bel.trans (hC.under h.zero (by decide) (by decide)), zero_paint h.zero hb.size, by rw [List.map_append]; exact Row.done hR hb⟩
theorem Tr.sync {w0 W W' : World} {c c' : Nat → Nat} {G L m capA : Nat} {rs al : List ByteArray} {aa : Option Addr} (h : Tr w0 W c G L m rs aa capA al) (hF : Fil W' c' 1 11 G (logS 0 rs).size (logS 0 rs)) (hD : Led W' c' G L rs) (hG : Glb W' c') (hC : Chg W c 1 11 W') (hk : ∀ k, k < W.heap.size → c' k = c k) : Tr w0 W' c' G L (sizesN rs) rs aa capA al :=
  ⟨by rw [← logS_size rs 0]; exact hF, hD, hG, h.bel.trans (hC.under h.zero (by decide) (by decide)), zero_of h.zero (Off.size hC) hk, h.row.off hC (fun k hz hc q => by rw [hc] at q; omega) hk⟩
theorem Tr.chg {w0 W W' : World} {c : Nat → Nat} {G L m capA x : Nat} {rs al : List ByteArray} {aa : Option Addr} (h : Tr w0 W c G L m rs aa capA al) (hC : Chg W c x x W') (x0 : x ≠ 0) (x1 : 1 ≠ x) (x2 : 2 ≠ x) (x4 : 4 ≠ x) (x11 : 11 ≠ x) (x12 : 12 ≠ x) : Tr w0 W' (paint c W W' x) G L m rs aa capA al :=
  ⟨h.fil.keep x hC x1 x1 x11 x11, h.led.keep x hC x2 x2 x12 x12, h.glb.keep x hC x0 x0, h.bel.trans (hC.under h.zero x0 x0), zero_paint h.zero (Off.size hC), h.row.keep x hC x4 x4⟩
/-- The list that was told, in a block of colour 5. -/
def Gs (w : World) (c : Nat → Nat) (bg : Nat) (ts : List ByteArray) : Prop := Strs w (some ⟨bg, 0, none⟩) ts ∧ (ts ≠ [] → bg < w.heap.size ∧ c bg = 5)
theorem Gs.mk {w w' : World} {c : Nat → Nat} {ts : List ByteArray} (h : Strs w' (some ⟨w.heap.size, 0, none⟩) ts) : Gs w' (paint c w w' 5) w.heap.size ts := by
  refine ⟨h, fun hne => ?_⟩
  cases ts with
  | nil => exact absurd rfl hne
  | cons x xs =>
    obtain ⟨p, o, e, _, pl⟩ := h 0 x rfl
    injection e with e
    injection e with e
    subst e
    exact ⟨pl, paint_new (Nat.le_refl _) pl⟩
theorem Gs.off {w w' : World} {c c' : Nat → Nat} {bg : Nat} {ts : List ByteArray} {D : Nat → Prop} (h : Gs w c bg ts) (hb : Off D w w') (hD : ∀ k, k < w.heap.size → c k = 5 → ¬ D k) (hk : ∀ k, k < w.heap.size → c' k = c k) : Gs w' c' bg ts := by
  by_cases hne : ts = []
  · subst hne; exact ⟨fun j s hj => by simp at hj, fun h => absurd rfl h⟩
  · obtain ⟨h1, h2⟩ := h.2 hne
    refine ⟨h.1.off hb (fun p o e pl => ?_), fun _ => ⟨Nat.lt_of_lt_of_le h1 hb.size, (hk bg h1).trans h2⟩⟩
    injection e with e
    injection e with e
    subst e
    exact hD _ h1 h2
theorem Gs.call {w w' : World} {c : Nat → Nat} {bg : Nat} {ts : List ByteArray} (x : Nat) (h : Gs w c bg ts) (hb : Below w.heap.size w w') : Gs w' (paint c w w' x) bg ts :=
  h.off (Off.of_below hb (fun _ q => q)) (fun _ hk _ q => absurd hk (Nat.not_lt_of_le q)) (fun _ hk => paint_old hk)
/-- However the file crashed, what is told is a beginning. -/
theorem torn_cut (rs : List ByteArray) (la n : Nat) (h : ∀ r ∈ rs, r.size ≤ 9000) (hl : la ≤ rs.length) (hn : sizesN (rs.take la) ≤ n) : ∃ j, j ≤ rs.length ∧ la ≤ j ∧ Told 0 ((logS 0 rs).extract 0 n) (rs.take j) ∧ ((logS 0 rs).extract 0 n).extract 0 (sizesN (rs.take j)) = logS 0 (rs.take j) := by
  obtain ⟨j, h1, h2, h3, h4⟩ := told_cut rs 0 n h
  exact ⟨j, h1, h3 la hl hn, h2, by rw [ext_ext0 _ _ _ h4, log_take rs 0 j h1]⟩
theorem xr_ne (x : UInt8) (q : Nat) (h1 : 0 < q) (h2 : q < 256) : xr x q ≠ x := by
  intro c
  unfold xr at c
  have e : (UInt8.ofNat q) = 0 := by
    have := congrArg (fun z => x ^^^ z) c
    simpa [← UInt8.xor_assoc] using this
  have := congrArg UInt8.toNat e
  simp at this
  omega
theorem torn_byte (rs : List ByteArray) (la p q : Nat) (h : ∀ r ∈ rs, r.size ≤ 9000) (hl : la ≤ rs.length) (hn : sizesN (rs.take la) ≤ p) (hp : p < (logS 0 rs).size) (h1 : 0 < q) (h2 : q < 256) :
    ∃ j, j ≤ rs.length ∧ la ≤ j ∧ Told 0 ((logS 0 rs).extract 0 p ++ oneB (xr ((logS 0 rs).data.toList.getD p 0) q)) (rs.take j) ∧ ((logS 0 rs).extract 0 p ++ oneB (xr ((logS 0 rs).data.toList.getD p 0) q)).extract 0 (sizesN (rs.take j)) = logS 0 (rs.take j) := by
  obtain ⟨j, g1, g2, g3, g4⟩ := told_turn rs 0 p (oneB (xr ((logS 0 rs).data.toList.getD p 0) q)) (xr ((logS 0 rs).data.toList.getD p 0) q) h rfl (by rw [← logS_size rs 0]; exact hp) (by
    intro c
    have hlt : p < (logS 0 rs).data.toList.length := by rw [ba_len]; exact hp
    rw [List.getD_eq_getElem?_getD, List.getElem?_eq_getElem hlt] at c
    exact xr_ne _ q h1 h2 (Option.some.inj c).symm)
  exact ⟨j, g1, g3 la hl hn, g2, by rw [ext_app _ _ _ _ g4 (Nat.le_of_lt hp), log_take rs 0 j g1]⟩
end Go.Proofs.YtdnahobafhelhaaDoor
