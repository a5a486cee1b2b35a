/- Package ledger: Sync; Records. -/
import Derived.Test.YtdnahobafhelhaaDoorLgY
namespace Go.Proofs.YtdnahobafhelhaaDoor
open Go Go.RowKit Go.Lib

set_option maxHeartbeats 2000000 in
theorem lsync_ok (c : Nat → Nat) (G L m : Nat) (bs : ByteArray) (rs : List ByteArray) (hz : bs.size ≤ 1048576) (w : World) (hF : Fil w c 1 11 G m bs) (hD : Led w c G L rs) (hG : Glb w c) :
    Calls Tryd.prog 20 #[.pointer (some ⟨L, 0, none⟩)] w fun e w' => e = .returned (.int .i64 0) ∧ ∃ c', Fil w' c' 1 11 G bs.size bs ∧ Led w' c' G L rs ∧ Glb w' c' ∧ Chg w c 1 11 w' ∧ ∀ k, k < w.heap.size → c' k = c k := by
  have KS : Hid (∀ (w' : World) (P : Nat → Prop), FileAt w' G P m bs → Calls Tryd.prog 31 #[.pointer (some ⟨G, 0, none⟩)] w' fun e w'' => e = .returned (.int .i64 0) ∧ FileAt w'' G P bs.size bs ∧ But G P w' w'') := fun w' P h => fsync_any G P m bs hz w' h
  have H0 : Hid (Fil w c 1 11 G m bs ∧ Led w c G L rs ∧ Glb w c) := ⟨hF, hD, hG⟩
  obtain ⟨a, cap, hcL, c0, c1, fz, hlt, hRow⟩ := hD
  clear hF hG hcL c1 fz hlt hRow
  go_enter Tryd.func20, Tryd.ntmps20
  go_wp2_with fail
  refine (H0.out.1.op (fun P hP => KS.out _ P hP)).mono ?_
  rintro e w3 ⟨rfl, hF3, hC3⟩
  have H3 : Hid (Fil w3 (paint c w w3 1) 1 11 G bs.size bs ∧ Led w3 (paint c w w3 1) G L rs ∧ Glb w3 (paint c w w3 1) ∧ Chg w c 1 11 w3) :=
    ⟨hF3, H0.out.2.1.keep 1 hC3 (by decide) (by decide) (by decide) (by decide), H0.out.2.2.keep 1 hC3 (by decide) (by decide), hC3⟩
  clear hF3 hC3
  go_wp2_with fail
  go_ret
  exact ⟨rfl, _, H3.out.1, H3.out.2.1, H3.out.2.2.1, H3.out.2.2.2, fun k hk => paint_old hk⟩
/-- A row of c texts at block g, the first i of them as f tells. -/
def PartS (w : World) (g c : Nat) (f : Nat → ByteArray) (i : Nat) : Prop :=
  (∀ j, j < i → w.cell? ⟨g, j, none⟩ = some (.string (f j))) ∧ (∀ j, j < c → (w.cell? ⟨g, j, none⟩).isSome = true) ∧ (∀ j, w.frozen? ⟨g, j, none⟩ = false) ∧ g < w.heap.size
theorem PartS.of_owns {w : World} {B g c : Nat} {xs : List Value} {f : Nat → ByteArray} (h : w.ownsRow B 9 1 (.slice (some ⟨g, 0, none⟩) c c) c xs) : PartS w g c f 0 := by
  rcases h.2 with ⟨h1, _⟩ | ⟨g', cap', cur, h1, h2, h3, h4, h5, h6, h7⟩
  · injection h1 with h1; cases h1
  · injection h1 with h1 _ h1c
    injection h1 with h1
    injection h1 with h1
    subst h1
    refine ⟨fun j hj => absurd hj (by omega), fun j hj => ?_, fun j => ?_, (Array.getElem?_eq_some_iff.1 h3).1⟩
    · rw [cell_of_row w g j cur _ (0, 0) h3]
      have hj' : j < cur.size := by omega
      simp [Array.getElem?_eq_getElem hj', Option.isSome]
    · simp [World.frozen?, h3]
theorem PartS.call {w w' : World} {g c i : Nat} {f : Nat → ByteArray} (h : PartS w g c f i) (hb : Below w.heap.size w w') : PartS w' g c f i :=
  ⟨fun j hj => (hb.cell (p := ⟨g, j, none⟩) h.2.2.2).trans (h.1 j hj), fun j hj => by rw [hb.cell (p := ⟨g, j, none⟩) h.2.2.2]; exact h.2.1 j hj, fun j => (hb.frozen (p := ⟨g, j, none⟩) h.2.2.2).trans (h.2.2.1 j), Nat.lt_of_lt_of_le h.2.2.2 hb.size⟩
theorem PartS.set {w : World} {g c i : Nat} {f : Nat → ByteArray} (h : PartS w g c f i) (hi : i < c) : PartS (w.setCell ⟨g, i, none⟩ (.string (f i))) g c f (i + 1) := by
  obtain ⟨h1, h2, h3, h4⟩ := h
  obtain ⟨v0, hv0⟩ := Option.isSome_iff_exists.1 (h2 i hi)
  refine ⟨fun j hj => ?_, fun j hj => ?_, fun j => by rw [World.frozen?_setCell]; exact h3 j, by rw [World.size_setCell]; exact h4⟩
  · by_cases e : j = i
    · subst e; exact World.cell?_setCell_same _ _ _ hv0
    · rw [World.cell?_setCell_other _ _ _ _ (by intro k; injection k with _ k2 _; omega)]; exact h1 j (by omega)
  · by_cases e : j = i
    · subst e; rw [World.cell?_setCell_same _ _ _ hv0]; rfl
    · rw [World.cell?_setCell_other _ _ _ _ (by intro k; injection k with _ k2 _; omega)]; exact h2 j hj
theorem PartS.strs {w : World} {g : Nat} {l : List ByteArray} (h : PartS w g l.length (fun i => l.getD i ⟨#[]⟩) l.length) : Strs w (some ⟨g, 0, none⟩) l := fun j s hj => by
  have hlt := (List.getElem?_eq_some_iff.1 hj).1
  refine ⟨g, 0, rfl, ?_, h.2.2.2⟩
  rw [Nat.zero_add, h.1 j hlt]
  show some (Value.string (l.getD j ⟨#[]⟩)) = _
  rw [List.getD_eq_getElem?_getD, hj]
  rfl
set_option maxRecDepth 20000 in
set_option maxHeartbeats 2000000 in
theorem lrecords_ok (c : Nat → Nat) (G L : Nat) (rs : List ByteArray) (hn : rs.length ≤ 1000000) (hz : ∀ r ∈ rs, r.size ≤ 9000) (w : World) (hD : Led w c G L rs) :
    Calls Tryd.prog 16 #[.pointer (some ⟨L, 0, none⟩)] w fun e w' => e = .returned (.slice (some ⟨w.heap.size, 0, none⟩) rs.length rs.length) ∧ Strs w' (some ⟨w.heap.size, 0, none⟩) rs ∧ Below w.heap.size w w' := by
  obtain ⟨i0, hi, hz0, hz1, hz2⟩ := infoStr
  obtain ⟨a, cap, hcL, c0, c1, fz, hlt, hRow⟩ := hD
  obtain ⟨n, hnn⟩ : ∃ n, n = rs.length := ⟨_, rfl⟩
  obtain ⟨f, hf⟩ : ∃ f : Nat → ByteArray, f = fun i => rs.getD i ⟨#[]⟩ := ⟨_, rfl⟩
  have HR : Hid (∀ i, i < n → ∃ tb tq, a = some ⟨tb, tq, none⟩ ∧ w.cell? ⟨tb, tq + i, none⟩ = some (.string (f i)) ∧ tb < w.heap.size) := fun i q => by
    obtain ⟨tb, tq, e1, e2, e3, -⟩ := hRow.at (j := i) (u := .string (f i)) (by rw [List.getElem?_map, List.getElem?_eq_getElem (by omega), hf]; simp [List.getD, List.getElem?_eq_getElem (show i < rs.length by omega)])
    exact ⟨tb, tq, e1, e2, e3⟩
  have KC : Hid (∀ (i : Nat) (w' : World), i < n → Calls Tryd.prog 25 #[.string (f i)] w' fun e w'' => e = .returned (.string (f i)) ∧ Below w'.heap.size w' w'') := fun i w' q => clone_any (f i) w' (by
    have h : f i ∈ rs := by rw [hf]; simp [List.getD, List.getElem?_eq_getElem (show i < rs.length by omega)]
    have := hz _ h
    omega)
  have HS : Hid (∀ (w' : World), PartS w' w.heap.size n f n → Strs w' (some ⟨w.heap.size, 0, none⟩) rs) := fun w' h => by
    rw [hf, hnn] at h
    exact h.strs
  have HL : Hid (L < w.heap.size) := hlt
  rw [← hnn] at c1 hn ⊢
  clear hnn hf hz hRow hcL c0 fz hlt
  go_enter Tryd.func16, Tryd.ntmps16
  go_wp2_with (at_make; refine wpList_make_full _ rfl _ _ 23 rfl w.heap.size 9 i0 (.string ⟨#[]⟩) 1 Tryd.underlying23 hi hz0 hz1 .i64 .i64 (n : Nat) (n : Nat) n rfl rfl rfl rfl (by rw [hz2]; omega) (by unfold maxLen; omega) (Nat.le_refl _) ?_; intro w1 ho1 hg1; have H1 : Hid (PartS w1 w.heap.size n f 0 ∧ Below w.heap.size w w1) := ⟨PartS.of_owns ho1, (Below.refl _ _).grown hg1 (Nat.le_refl _) (fun k hk => by cases hk)⟩; have e2 := (H1.out.2.cell (p := ⟨L, 1, none⟩) HL.out).trans c1; clear ho1 hg1)
  rename_i Kr hKr
  have HKr : Hid _ := hKr
  clear hKr e2 c1
  go_loopw [19] (fun iv wr => ∃ i : Nat, i ≤ n ∧ iv = .int .i64 (i : Nat) ∧ PartS wr w.heap.size n f i ∧ Below w.heap.size w wr) (fun iv _ => n - (Go.RowKit.intOf iv).toNat)
  case atStart => exact ⟨0, Nat.zero_le _, rfl, H1.out⟩
  case round =>
    obtain ⟨i, hi', rfl, hP, hB⟩ := hrel
    rename World => wr
    have HP : Hid (PartS wr w.heap.size n f i ∧ Below w.heap.size w wr) := ⟨hP, hB⟩
    clear hP hB
    by_cases hlt : i < n
    · clear HKr
      have hlt' : (i : Int) < (n : Int) := Int.ofNat_lt.2 hlt
      obtain ⟨b, o, rfl, hcl, hb⟩ := HR.out i hlt
      obtain ⟨T, hT⟩ : ∃ T, T = f i := ⟨_, rfl⟩
      have K1 : Hid _ := fun w' => KC.out i w' hlt
      rw [← hT] at hcl K1
      have HT : Hid (T = f i) := hT
      have e3 : wr.cell? ⟨b, o + i, none⟩ = some (.string T) := (HP.out.2.cell (p := ⟨b, o + i, none⟩) hb).trans hcl
      clear hcl hb hT
      go_wp2_with fail
      refine (K1.out _).mono ?_
      rintro e w2 ⟨rfl, hb2⟩
      have H2 : Hid (Below wr.heap.size wr w2) := hb2
      clear hb2 e3
      obtain ⟨v0, hv0⟩ := Option.isSome_iff_exists.1 ((HP.out.1.call H2.out).2.1 i hlt)
      have fz := (HP.out.1.call H2.out).2.2.1 i
      have HN2 : Hid (PartS (w2.setCell ⟨w.heap.size, i, none⟩ (.string T)) w.heap.size n f (i + 1) ∧ Below w.heap.size w (w2.setCell ⟨w.heap.size, i, none⟩ (.string T))) := by
        refine ⟨?_, (below_call0 HP.out.2 H2.out).setCell (Nat.le_refl _) _⟩
        rw [HT.out]
        exact (HP.out.1.call H2.out).set hlt
      have ib : (i : Int) ≤ 1000000 := by omega
      go_wp2_with fail
      go_roundw
      case rel => first | exact ⟨i + 1, hlt, by go_num, HN2.out⟩ | ((repeat apply Exists.intro); exact ⟨⟨i + 1, hlt, by go_num, HN2.out⟩, rfl⟩)
      case measure => simp [Go.RowKit.intOf]; omega
    · obtain rfl : i = n := by omega
      have hnl : ¬ ((i : Int) < (i : Int)) := Int.lt_irrefl _
      clear hlt hi'
      go_wp2_with fail
      refine HKr.out _ _ ?_
      clear HKr
      go_wp2_with fail
      go_ret
      exact ⟨rfl, HS.out _ HP.out.1, HP.out.2⟩
end Go.Proofs.YtdnahobafhelhaaDoor
