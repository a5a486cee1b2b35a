/- Package disk: a file in memory, and what each of its methods does. -/
import Derived.Test.YtdnahobafhelhaaDoorRowB
namespace Go.Proofs.YtdnahobafhelhaaDoor
open Go Go.RowKit Go.Lib

theorem infoF8 : (Tryd.prog.info? 5).map (fun i => (i.zero, i.size, i.bytes)) = some (some (.int .u8 0), 1, 1) := by kernel_rfl
theorem infoF8' : ∃ i, Tryd.prog.info? 5 = some i ∧ i.zero = some (.int .u8 0) ∧ i.size = 1 ∧ i.bytes = 1 := by
  have h := infoF8
  cases e : Tryd.prog.info? 5 with
  | none => rw [e] at h; cases h
  | some i =>
    rw [e] at h
    simp only [Option.map_some, Option.some.injEq, Prod.mk.injEq] at h
    exact ⟨i, rfl, h.1, h.2.1, h.2.2⟩

/-- A file at block g: its bytes bs, the first m of them synced; its array a block of P. -/
def FileAt (w : World) (g : Nat) (P : Nat → Prop) (m : Nat) (bs : ByteArray) : Prop :=
  ∃ a cap, w.cell? ⟨g, 0, none⟩ = some (.slice a bs.size cap) ∧ w.cell? ⟨g, 1, none⟩ = some (.int .i64 (m : Nat)) ∧ (∀ o, w.frozen? ⟨g, o, none⟩ = false) ∧ ¬ P g ∧ (∀ k, w.heap.size ≤ k → P k) ∧ RowB w P a bs cap
theorem FileAt.drew {w : World} {g m : Nat} {P : Nat → Prop} {bs : ByteArray} (h : FileAt w g P m bs) : FileAt w.drew g P m bs := h
theorem FileAt.drewN {w : World} {g m n : Nat} {P : Nat → Prop} {bs : ByteArray} (h : FileAt w g P m bs) : FileAt (w.drewN n) g P m bs := h
theorem FileAt.call {w w' : World} {g m : Nat} {P : Nat → Prop} {bs : ByteArray} (h : FileAt w g P m bs) (hb : Below w.heap.size w w') : FileAt w' g P m bs := by
  obtain ⟨a, cap, c0, c1, fz, hg, hB, hR⟩ := h
  have hlt : g < w.heap.size := Nat.lt_of_not_le fun c => hg (hB g c)
  exact ⟨a, cap, (hb.cell (p := ⟨g, 0, none⟩) hlt).trans c0, (hb.cell (p := ⟨g, 1, none⟩) hlt).trans c1, fun o => (hb.frozen (p := ⟨g, o, none⟩) hlt).trans (fz o), hg, fun k hk => hB k (Nat.le_trans hb.size hk), hR.call hb⟩
/-- Behind what turns only block k, and k is not the file's. -/
theorem FileAt.but {w w' : World} {g m k : Nat} {P : Nat → Prop} {bs : ByteArray} (h : FileAt w g P m bs) (hk : But k (From w.heap.size) w w') (hne : k ≠ g) (hkB : ¬ P k) : FileAt w' g P m bs := by
  obtain ⟨a, cap, c0, c1, fz, hg, hB, hR⟩ := h
  have hlt : g < w.heap.size := Nat.lt_of_not_le fun c => hg (hB g c)
  refine ⟨a, cap, (hk.cell (p := ⟨g, 0, none⟩) (not_from hlt) (Ne.symm hne)).trans c0, (hk.cell (p := ⟨g, 1, none⟩) (not_from hlt) (Ne.symm hne)).trans c1, fun o => (hk.frozen (p := ⟨g, o, none⟩) (not_from hlt) (Ne.symm hne)).trans (fz o), hg, fun j hj => hB j (Nat.le_trans hk.size hj), hR.kept hk.size (fun i hi hz => hk.block i (not_from hz) (fun c => hkB (c ▸ hi)))⟩

theorem fnew_any (w : World) : Calls Tryd.prog 11 #[] w fun e w' => e = .returned (.pointer (some ⟨w.heap.size, 0, none⟩)) ∧ FileAt w' w.heap.size (From (w.heap.size + 1)) 0 ByteArray.empty ∧ Below w.heap.size w w' ∧ w'.heap.size = w.heap.size + 1 := by
  go_enter Tryd.func11, Tryd.ntmps11
  go_wp2
  go_ret
  refine ⟨rfl, ⟨none, 0, ?_, ?_, fun o => ?_, not_from (by omega), fun k hk => ?_, RowB.nil _ _⟩, below_alloc0 (Below.refl _ _) _, ?_⟩
  · simp [go_sem]
  · simp [go_sem]
  · simp [go_sem]
  · simpa [From] using hk
  · simp [go_sem]

theorem fsync_any (g : Nat) (P : Nat → Prop) (m : Nat) (bs : ByteArray) (hz : bs.size ≤ 1048576) (w : World) (hF : FileAt w g P m bs) :
    Calls Tryd.prog 31 #[.pointer (some ⟨g, 0, none⟩)] w fun e w' => e = .returned (.int .i64 0) ∧ FileAt w' g P bs.size bs ∧ But g P w w' := by
  obtain ⟨a, cap, c0, c1, fz, hg, hB, hR⟩ := hF
  have f1 := fz 1
  have HH : Hid (_ ∧ _ ∧ _ ∧ _ ∧ _) := ⟨fz, hg, hB, hR, hz⟩
  clear fz hg hB hR hz
  go_enter Tryd.func31, Tryd.ntmps31
  go_wp2
  go_ret
  obtain ⟨fz, hg, hB, hR, hz⟩ := HH.out
  refine ⟨rfl, ⟨a, cap, ?_, ?_, fun o => ?_, hg, ?_, hR.set hg _⟩, (But.refl _ _ _).set _⟩
  · rw [World.cell?_setCell_other _ _ _ _ (by intro c; injection c with _ c2 _; omega)]; exact c0
  · rw [World.cell?_setCell_same _ _ _ c1]
  · rw [World.frozen?_setCell]; exact fz o
  · rw [World.size_setCell]; exact hB

set_option maxHeartbeats 1000000 in
theorem fappend_ok (g : Nat) (P : Nat → Prop) (m : Nat) (bs s : ByteArray) (hs : bs.size + s.size ≤ 1048576) (w : World) (hF : FileAt w g P m bs) :
    Calls Tryd.prog 12 #[.pointer (some ⟨g, 0, none⟩), .string s] w fun e w' => e = .returned (.int .i64 0) ∧ FileAt w' g P m (bs ++ s) ∧ But g P w w' := by
  obtain ⟨a, cap, c0, c1, fz, hg, hB, hR⟩ := hF
  obtain ⟨i0, hi, hz0, hz1, hz2⟩ := infoF8'
  obtain ⟨n, hn⟩ : ∃ n, n = bs.size := ⟨_, rfl⟩
  rw [← hn] at c0
  have h1 : ¬ ((1048576 : Int) - (n : Int) < (s.size : Int)) := by omega
  have n0 : (n : Int) ≤ 1048576 := by omega
  have f0 := fz 0
  have HH : Hid (_ ∧ _ ∧ _ ∧ _ ∧ n = bs.size ∧ bs.size + s.size ≤ 1048576) := ⟨fz, hg, hB, hR, hn, hs⟩
  clear fz hg hB hR hn hs
  go_enter Tryd.func12, Tryd.ntmps12
  go_wp2_with (at_builtin; refine wpList_append_RowB _ rfl _ _ 61 9 rfl P 5 i0 Tryd.underlying61 Tryd.underlying9 hi hz0 hz1 hz2 a n cap bs s rfl HH.out.2.2.2.2.1 rfl HH.out.2.2.2.1 (by have := HH.out.2.2.2.2.2; omega) HH.out.2.2.1 ?_; intro a' m' cap' w1 hm hR1 hb1; have H1 : Hid (_ ∧ _ ∧ _) := ⟨hm, hR1, hb1⟩; clear hm hR1 hb1; have e0 : w1.cell? ⟨g, 0, none⟩ = some (.slice a n cap) := (H1.out.2.2.cell (p := ⟨g, 0, none⟩) HH.out.2.1).trans c0; have e1 : w1.frozen? ⟨g, 0, none⟩ = false := (H1.out.2.2.frozen (p := ⟨g, 0, none⟩) HH.out.2.1).trans f0)
  go_ret
  obtain ⟨fz, hg, hB, hR, hn, hs⟩ := HH.out
  obtain ⟨hm, hR1, hb1⟩ := H1.out
  refine ⟨rfl, ⟨a', cap', ?_, ?_, fun o => ?_, hg, ?_, hR1.set hg _⟩, (But.of_off hb1).set _⟩
  · rw [World.cell?_setCell_same _ _ _ e0, hm, hn, ByteArray.size_append]
  · rw [World.cell?_setCell_other _ _ _ _ (by intro c; injection c with _ c2 _; omega)]; exact (hb1.cell (p := ⟨g, 1, none⟩) hg).trans c1
  · rw [World.frozen?_setCell]; exact (hb1.frozen (p := ⟨g, o, none⟩) hg).trans (fz o)
  · rw [World.size_setCell]; exact fun k hk => hB k (Nat.le_trans hb1.size hk)

theorem fappend_no (g : Nat) (P : Nat → Prop) (m : Nat) (bs s : ByteArray) (hz : bs.size ≤ 1048576) (hs : 1048576 < bs.size + s.size) (w : World) (hF : FileAt w g P m bs) :
    Calls Tryd.prog 12 #[.pointer (some ⟨g, 0, none⟩), .string s] w fun e w' => e = .returned (.int .i64 5) ∧ FileAt w' g P m bs ∧ But g P w w' := by
  have HF : Hid (FileAt w g P m bs) := hF
  obtain ⟨a, cap, c0, c1, fz, hg, hB, hR⟩ := hF
  have h1 : ((1048576 : Int) - (bs.size : Int) < (s.size : Int)) := by omega
  clear fz hg hB hR
  go_enter Tryd.func12, Tryd.ntmps12
  go_wp2
  go_ret
  exact ⟨rfl, HF.out, But.refl _ _ _⟩

theorem flen_any (g : Nat) (P : Nat → Prop) (m : Nat) (bs : ByteArray) (w : World) (hF : FileAt w g P m bs) :
    Calls Tryd.prog 14 #[.pointer (some ⟨g, 0, none⟩)] w fun e w' => e = .returned (.tuple #[.int .i64 (bs.size : Nat), .int .i64 (m : Nat)]) ∧ FileAt w' g P m bs ∧ Below w.heap.size w w' := by
  have HF : Hid (FileAt w g P m bs) := hF
  obtain ⟨a, cap, c0, c1, fz, hg, hB, hR⟩ := hF
  clear fz hg hB hR
  go_enter Tryd.func14, Tryd.ntmps14
  go_wp2
  go_quiet (fail)
  go_wp2
  go_ret2
  exact ⟨rfl, HF.out.drewN, below_drewN (Below.refl _ _) _⟩

theorem fbytes_any (g : Nat) (P : Nat → Prop) (m : Nat) (bs : ByteArray) (w : World) (hF : FileAt w g P m bs) :
    Calls Tryd.prog 17 #[.pointer (some ⟨g, 0, none⟩)] w fun e w' => e = .returned (.string bs) ∧ w' = w := by
  obtain ⟨a, cap, c0, c1, fz, hg, hB, hR⟩ := hF
  have hcv := run_string_RowB (P := Tryd.prog) w P 61 5 9 Tryd.underlying61 Tryd.underlying5 Tryd.underlying9 a cap bs hR
  clear fz hg hB hR
  go_enter Tryd.func17, Tryd.ntmps17
  go_wp2
  go_ret
  exact ⟨rfl, rfl⟩

theorem RowB.cut {w : World} {cap n : Nat} {P : Nat → Prop} {a : Option Addr} {bs : ByteArray} (h : RowB w P a bs cap) (hn : n ≤ bs.size) : RowB w P a (bs.extract 0 n) n := by
  have hz : (bs.extract 0 n).size = n := by rw [ByteArray.size_extract]; omega
  rcases h with ⟨h1, h2, h3⟩ | ⟨b, h1, h2, h3, h4, h5, h6, h7, h8⟩
  · exact .inl ⟨h1, by omega, by omega⟩
  · refine .inr ⟨b, h1, h2, h3, by omega, by omega, fun j u hj => ?_, fun j hj => h7 j (by omega), h8⟩
    rw [strCells_extract, List.getElem?_take] at hj
    split at hj
    · exact h6 j u hj
    · cases hj
theorem FileAt.cut {w : World} {g m cap n : Nat} {P : Nat → Prop} {a : Option Addr} {bs : ByteArray} (c0 : w.cell? ⟨g, 0, none⟩ = some (.slice a bs.size cap)) (c1 : w.cell? ⟨g, 1, none⟩ = some (.int .i64 (m : Nat))) (fz : ∀ o, w.frozen? ⟨g, o, none⟩ = false) (hg : ¬ P g) (hB : ∀ k, w.heap.size ≤ k → P k) (hR : RowB w P a bs cap) (hn : n ≤ bs.size) :
    FileAt (w.setCell ⟨g, 0, none⟩ (.slice a n n)) g P m (bs.extract 0 n) := by
  have hz : (bs.extract 0 n).size = n := by rw [ByteArray.size_extract]; omega
  refine ⟨a, n, ?_, ?_, fun o => ?_, hg, ?_, (hR.cut hn).set hg _⟩
  · rw [World.cell?_setCell_same _ _ _ c0, hz]
  · rw [World.cell?_setCell_other _ _ _ _ (by intro c; injection c with _ c2 _; omega)]; exact c1
  · rw [World.frozen?_setCell]; exact fz o
  · rw [World.size_setCell]; exact hB
/-- What was let go, where it is not nothing. -/
def Lost (w : World) (P : Nat → Prop) (n : Nat) (bs : ByteArray) (la : Option Addr) : Prop :=
  n < bs.size → ∃ b, la = some ⟨b, n, none⟩ ∧ w.cell? ⟨b, n, none⟩ = some (.int .u8 (bs.data.toList.getD n 0).toNat) ∧ P b ∧ b < w.heap.size
def letGoPost (g : Nat) (P : Nat → Prop) (m n : Nat) (bs : ByteArray) (w : World) (e : Ending) (w' : World) : Prop :=
  ∃ la lc, e = .returned (.slice la (bs.size - n) lc) ∧ FileAt w' g P m (bs.extract 0 n) ∧ But g P w w' ∧ Lost w' P n bs la
set_option maxHeartbeats 1000000 in
theorem letGo_any (g : Nat) (P : Nat → Prop) (m n : Nat) (bs : ByteArray) (hn : n ≤ bs.size) (w : World) (hF : FileAt w g P m bs) :
    Calls Tryd.prog 32 #[.pointer (some ⟨g, 0, none⟩), .int .i64 (n : Nat)] w fun e w' => letGoPost g P m n bs w e w' := by
  obtain ⟨a, cap, c0, c1, fz, hg, hB, hR⟩ := hF
  have hc := hR.len
  have n1 : (n : Int) ≤ (bs.size : Int) := by omega
  have n2 : (n : Int) ≤ (cap : Int) := by omega
  have f0 := fz 0
  have HH : Hid (_ ∧ _ ∧ _ ∧ _ ∧ _) := ⟨fz, hg, hB, hR, hn⟩
  clear fz hg hB hR hn hc
  by_cases hcn : cap = n
  · subst hcn
    go_enter Tryd.func32, Tryd.ntmps32
    go_wp2
    go_ret
    obtain ⟨fz, hg, hB, hR, hn⟩ := HH.out
    exact ⟨a, 0, rfl, FileAt.cut c0 c1 fz hg hB hR hn, (But.refl _ _ _).set _, fun h => by have := hR.len; omega⟩
  · go_enter Tryd.func32, Tryd.ntmps32
    go_wp2
    go_ret
    obtain ⟨fz, hg, hB, hR, hn⟩ := HH.out
    refine ⟨Option.map (fun x => x.add n) a, cap - n, rfl, FileAt.cut c0 c1 fz hg hB hR hn, (But.refl _ _ _).set _, fun h => ?_⟩
    rcases hR with ⟨h1, h2, h3⟩ | ⟨b, rfl, h2, h3, h4, h5, h6, h7, h8⟩
    · omega
    · refine ⟨b, by simp [Addr.add_lit], ?_, h2, by rw [World.size_setCell]; exact h3⟩
      rw [World.cell?_setCell_other _ _ _ _ (by intro c; injection c with c1 _ _; exact hg (c1 ▸ h2))]
      refine h6 n _ ?_
      have hl : bs.data.toList.length = bs.size := by have := strCells_length bs; rw [strCells, List.length_map] at this; exact this
      have hi' : n < bs.data.toList.length := by omega
      simp only [strCells, List.getElem?_map, List.getElem?_eq_getElem hi', Option.map, List.getD_eq_getElem?_getD, Option.getD]

theorem fcut_ok (g : Nat) (P : Nat → Prop) (m n : Nat) (bs : ByteArray) (hn : n ≤ bs.size) (hz : bs.size ≤ 1048576) (w : World) (hF : FileAt w g P m bs) :
    Calls Tryd.prog 28 #[.pointer (some ⟨g, 0, none⟩), .int .i64 (n : Nat)] w fun e w' => e = .returned (.int .i64 0) ∧ FileAt w' g P n (bs.extract 0 n) ∧ But g P w w' := by
  have HF : Hid (FileAt w g P m bs) := hF
  obtain ⟨a, cap, c0, c1, fz, hg, hB, hR⟩ := hF
  have n1 : ¬ ((bs.size : Int) < (n : Int)) := by omega
  have n2 : ¬ ((n : Int) < 0) := by omega
  have ez : (bs.extract 0 n).size = n := by rw [ByteArray.size_extract]; omega
  have HH : Hid (n ≤ bs.size ∧ bs.size ≤ 1048576 ∧ (bs.extract 0 n).size = n) := ⟨hn, hz, ez⟩
  clear fz hg hB hR hn hz ez
  go_enter Tryd.func28, Tryd.ntmps28
  go_wp2_with fail
  refine (letGo_any g P m n bs HH.out.1 _ HF.out).mono ?_
  rintro e w1 ⟨la, lc, rfl, hF1, hb1, _⟩
  have H1 : Hid (FileAt w1 g P m (bs.extract 0 n) ∧ But g P w w1) := ⟨hF1, hb1⟩
  clear hF1 hb1 c0 c1 HF
  go_wp2_with fail
  refine (fsync_any g P m (bs.extract 0 n) (by rw [HH.out.2.2]; exact Nat.le_trans HH.out.1 HH.out.2.1) _ H1.out.1).mono ?_
  rintro e w2 ⟨rfl, hF2, hb2⟩
  rw [HH.out.2.2] at hF2
  have H2 : Hid (FileAt w2 g P n (bs.extract 0 n) ∧ But g P w w2) := ⟨hF2, H1.out.2.trans hb2⟩
  clear hF2 hb2 H1
  go_wp2_with fail
  go_ret
  exact ⟨rfl, H2.out⟩
theorem fcut_no (g : Nat) (P : Nat → Prop) (m : Nat) (n : Int) (bs : ByteArray) (hn : n < 0 ∨ (bs.size : Int) < n) (w : World) (hF : FileAt w g P m bs) :
    Calls Tryd.prog 28 #[.pointer (some ⟨g, 0, none⟩), .int .i64 n] w fun e w' => e = .returned (.int .i64 1) ∧ FileAt w' g P m bs ∧ But g P w w' := by
  have HF : Hid (FileAt w g P m bs) := hF
  obtain ⟨a, cap, c0, c1, fz, hg, hB, hR⟩ := hF
  clear fz hg hB hR
  by_cases h0 : n < 0
  · clear hn
    go_enter Tryd.func28, Tryd.ntmps28
    go_wp2
    go_ret
    exact ⟨rfl, HF.out, But.refl _ _ _⟩
  · have h1 : (bs.size : Int) < n := by omega
    clear hn
    go_enter Tryd.func28, Tryd.ntmps28
    go_wp2
    go_ret
    exact ⟨rfl, HF.out, But.refl _ _ _⟩
end Go.Proofs.YtdnahobafhelhaaDoor
