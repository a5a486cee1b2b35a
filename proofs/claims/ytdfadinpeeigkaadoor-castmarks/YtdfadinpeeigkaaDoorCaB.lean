/- Package cast: often, only. -/
import Derived.Test.YtdfadinpeeigkaaDoorCaA
namespace Go.Proofs.YtdfadinpeeigkaaDoor
open Go Go.RowKit Go.Lib Go.WideMaps Go.Maps

theorem lawC : Keyed Tryd.prog 9 := string_keyed Tryd.underlying9
theorem zeroC (w : World) : (zeroValue 3).run Tryd.prog w = .ok (.int .i64 0) w := by kernel_rfl
/-- Block B is a map that holds how often each text was told. -/
def MapIs (w : World) (B k : Nat) (l : List ByteArray) : Prop := ∃ D : DataW Unit, w.ownsMap Tryd.prog 9 (plainElem Tryd.prog 3) B k D ∧ IsMap D ∧ ∀ s : ByteArray, D.atKey (.string s.data.toList) (.lit (.int .i64 0)) = .lit (.int .i64 (cs l s : Nat))
theorem MapIs.made (w : World) : MapIs (w.alloc (.map #[] 0)) w.heap.size 0 [] := ⟨.map [], World.ownsMap_made _ _ _ _, isMap_empty, fun _ => rfl⟩
theorem MapIs.block {w w' : World} {B k : Nat} {l : List ByteArray} (h : MapIs w B k l) (hb : w'.heap[B]? = w.heap[B]?) : MapIs w' B k l := by
  obtain ⟨D, ⟨es, clock, h1, h2⟩, h3⟩ := h
  exact ⟨D, ⟨es, clock, hb.trans h1, h2⟩, h3⟩
theorem MapIs.look {w : World} {B k : Nat} {l : List ByteArray} {s : ByteArray} (h : MapIs w B k l) (hs : s.size ≤ maxLen) : (Instr.lookup 58 (.map (some B)) (.string s) false).run Tryd.prog w = .ok (.int .i64 (cs l s : Nat)) w := by
  obtain ⟨D, h1, h2, h3⟩ := h
  obtain ⟨c, hrun, hat, _⟩ := h1.lookup_int lawC Tryd.underlying58 Tryd.underlying3 (zeroC w) (keyOf_string_mk Tryd.underlying9 hs)
  rw [h3 s] at hat
  have : (cs l s : Int) = c := by injection hat with e; injection e
  rw [this]; exact hrun
theorem MapIs.update {w : World} {B k : Nat} {l : List ByteArray} {t : ByteArray} (h : MapIs w B k l) (hk : k < 1000) (hl : l.length < 1000) (ht : t.size ≤ maxLen) : ∃ w', (Instr.mapUpdate 58 (.map (some B)) (.string t) (.int .i64 ((cs l t : Nat) + 1 : Int))).run Tryd.prog w = .ok () w' ∧ MapIs w' B (k + 1) (l ++ [t]) ∧ w.grownBy w' (some B) := by
  obtain ⟨D, h1, h2, h3⟩ := h
  have hc := cs_le l t
  obtain ⟨w', hrun, ho, hg⟩ := h1.update lawC Tryd.underlying58 (by unfold maxLen; omega) (keyOf_string_mk Tryd.underlying9 ht) (plainElem_int (a := ((cs l t : Nat) + 1 : Int)) Tryd.underlying3 (WalkArith.wf_i64 (by omega)))
  refine ⟨w', hrun, ⟨_, ho, h2.put _ _, fun s => ?_⟩, hg⟩
  by_cases q : t = s
  · subst q
    rw [atKey_put_same (k := .string t.data.toList) h2 trivial, cs_snoc, if_pos rfl]
    rfl
  · rw [atKey_put_other (fun c => q (ba_extC (by injection c with c; exact c.symm))), h3, cs_snoc, if_neg q]
    rfl
theorem oft_len (least : Nat) (l : List ByteArray) : ∀ k, (oft least l k).length ≤ k
  | 0 => Nat.le_refl _
  | k + 1 => by
    have ih := oft_len least l k
    cases e : l[k]? with
    | none =>
      have : oft least l (k + 1) = oft least l k := by
        show (match l[k]? with | some t => if t ≠ (⟨#[]⟩ : ByteArray) ∧ cs (l.take (k + 1)) t = least then oft least l k ++ [t] else oft least l k | none => oft least l k) = _
        rw [e]
      rw [this]; omega
    | some t =>
      by_cases c : t ≠ ⟨#[]⟩ ∧ cs (l.take (k + 1)) t = least
      · rw [oft_yes e c.1 c.2, List.length_append]; simp; exact ih
      · rw [oft_no e c]; omega
theorem below_grown {w0 w w' : World} {B : Nat} (h : Below B w0 w) (hg : w.grownBy w' (some B)) (hz : B ≤ w.heap.size) : Below B w0 w' := h.grown hg hz (fun j hj => by cases hj; exact Nat.le_refl _)
theorem RowS.grown {w w' : World} {B cap : Nat} {a : Option Addr} {l : List ByteArray} (h : RowS w (B + 1) a l cap) (hg : w.grownBy w' (some B)) : RowS w' (B + 1) a l cap :=
  World.ownsRow.kept h hg (by
    cases e : (Value.slice a l.length cap).ownBlock with
    | none => exact .inl rfl
    | some k => exact .inr (by have := (World.ownsRow.lt h k e).1; intro c; cases c; omega))
set_option maxRecDepth 100000 in
set_option maxHeartbeats 4000000 in
theorem often_any (least : Nat) (a : Option Addr) (l : List ByteArray) (n cap : Nat) (hn : n = l.length) (h10 : n ≤ 10) (hz : ∀ s ∈ l, s.size < 140737488351233) (w : World) (hS : Strs w a l) :
    Calls Tryd.prog 24 #[.int .i64 (least : Nat), .slice a n cap] w fun e w' => ∃ fa fc m, e = .returned (.slice fa m fc) ∧ m = (oft least l n).length ∧ Strs w' fa (oft least l n) ∧ Below w.heap.size w w' := by
  have HN : Hid (n = l.length ∧ n ≤ 10 ∧ ∀ s ∈ l, s.size < 140737488351233) := ⟨hn, h10, hz⟩
  have n10 : (n : Int) ≤ 10 := by omega
  have HS : Hid (Strs w a l) := hS
  have hmm := @run_makeMap Tryd.prog
  clear hn h10 hz hS
  go_enter Tryd.func24, Tryd.ntmps24
  go_wp2_with fail
  rename_i Kr hKr
  have HKr : Hid _ := hKr
  clear hKr
  obtain ⟨B, hB⟩ : ∃ B, B = w.heap.size := ⟨_, rfl⟩
  obtain ⟨W, hW⟩ : ∃ W, W = w.alloc (.map #[] 0) := ⟨_, rfl⟩
  have HP : Hid (MapIs W B 0 [] ∧ Below B w W ∧ B + 1 ≤ W.heap.size) := by
    rw [hW, hB]
    exact ⟨MapIs.made w, below_alloc0 (Below.refl _ _) _, by simp⟩
  have HB : Hid (B = w.heap.size) := hB
  rw [← hW, ← hB]
  clear hW hB hmm
  go_loopw [6, 12] (fun ov iv wr => ∃ (k m : Nat) (fa : Option Addr) (fc : Nat), k ≤ n ∧ iv = .int .i64 (k : Nat) ∧ m = (oft least l k).length ∧ ov = .slice fa m fc ∧ MapIs wr B k (l.take k) ∧ RowS wr (B + 1) fa (oft least l k) fc ∧ Below B w wr ∧ B + 1 ≤ wr.heap.size) (fun _ iv _ => n - (Go.RowKit.intOf iv).toNat)
  case atStart => exact ⟨0, 0, none, 0, Nat.zero_le _, rfl, rfl, rfl, HP.out.1, RowS.nil _ _, HP.out.2.1, HP.out.2.2⟩
  case round =>
    obtain ⟨k, m, fa, fc, hk, rfl, hm, rfl, hM, hRow, hBl, hBz⟩ := hrel
    rename World => wr
    have HML : Hid (m ≤ 1000000) := by
      have h1 : ∀ k, (oft least l k).length ≤ k := fun k => oft_len least l k
      have := h1 k
      have := HN.out.2.1
      rw [hm]
      exact (by omega : (oft least l k).length ≤ 1000000)
    have HK : Hid (m = (oft least l k).length ∧ RowS wr (B + 1) fa (oft least l k) fc ∧ Below B w wr ∧ B + 1 ≤ wr.heap.size) := ⟨hm, hRow, hBl, hBz⟩
    by_cases hlt : k < n
    · have hil : k < l.length := by rw [← HN.out.1]; exact hlt
      have hlt' : (k : Int) < (n : Int) := by omega
      have HLT : Hid (k < n) := hlt
      obtain ⟨p, o, ha, cp, pl⟩ := ((show Strs w a l from HS.out).call (by rw [← HB.out]; exact hBl)).get hil
      subst ha
      obtain ⟨t, ht⟩ : ∃ t, t = (l[k]'hil) := ⟨_, rfl⟩
      rw [← ht] at cp
      have ht' : l[k]? = some t := by rw [ht]; exact List.getElem?_eq_getElem hil
      have hts : t.size ≤ maxLen := by have := HN.out.2.2 t (List.mem_of_getElem? ht'); unfold maxLen; omega
      obtain ⟨w1, hupd, hM1, hg1⟩ := hM.update (by have := HN.out.2.1; omega) (by rw [List.length_take]; have := HN.out.2.1; omega) hts
      have hlk := hM.look hts
      rw [← takeC ht'] at hM1
      have hlk1 := hM1.look hts
      have hcc : cs (l.take (k + 1)) t = cs (l.take k) t + 1 := by rw [cs_take ht', if_pos rfl]
      rw [hcc] at hlk1
      have hc10 : ((cs (l.take k) t : Nat) : Int) ≤ 10 := by have := cs_take_le l k t; have := HN.out.2.1; omega
      have hcast : (((cs (l.take k) t + 1 : Nat)) : Int) = ((cs (l.take k) t : Nat) : Int) + 1 := by omega
      rw [hcast] at hlk1
      have H1 : Hid (MapIs w1 B (k + 1) (l.take (k + 1)) ∧ RowS w1 (B + 1) fa (oft least l k) fc ∧ Below B w w1 ∧ B + 1 ≤ w1.heap.size) := ⟨hM1, hRow.grown hg1, below_grown hBl hg1 (by omega), Nat.le_trans hBz hg1.size⟩
      have HTT : Hid (l[k]? = some t ∧ cs (l.take (k + 1)) t = cs (l.take k) t + 1) := ⟨ht', hcc⟩
      generalize cs (l.take k) t = c at *
      clear HKr hk hm hM hRow hBl hBz hlt hil ht ht' hts hM1 hg1 hcc hcast pl
      by_cases hte : t = ⟨#[]⟩
      · have HO : Hid (oft least l (k + 1) = oft least l k) := oft_no HTT.out.1 (fun q => q.1 hte)
        subst hte
        go_wp2_with fail
        go_roundw
        case rel => first | exact ⟨k + 1, m, fa, fc, HLT.out, by go_num, by rw [HO.out]; exact HK.out.1, rfl, H1.out.1, by rw [HO.out]; exact H1.out.2.1, H1.out.2.2⟩ | ((repeat apply Exists.intro); exact ⟨⟨k + 1, m, fa, fc, HLT.out, by go_num, by rw [HO.out]; exact HK.out.1, rfl, H1.out.1, by rw [HO.out]; exact H1.out.2.1, H1.out.2.2⟩, rfl⟩)
        case measure => have h1 := HLT.out; simp [Go.RowKit.intOf]; omega
      · obtain ⟨f1, f2, f3, f4⟩ := full_facts hte
        have HTE : Hid (t ≠ ⟨#[]⟩) := hte
        clear hte
        by_cases hcl : c + 1 = least
        · have HO : Hid (oft least l (k + 1) = oft least l k ++ [t]) := oft_yes HTT.out.1 HTE.out (by rw [HTT.out.2]; exact hcl)
          have g1 : (c : Int) + 1 = (least : Int) := by omega
          have g2 : ((c : Int) + 1 == (least : Int)) = true := by simpa using g1
          have HG : Hid _ := g1
          clear hcl g1
          obtain ⟨w3, hw3⟩ : ∃ w3, w3 = w1.alloc (.cells #[.string t] 9) := ⟨_, rfl⟩
          have hb3 : Below w1.heap.size w1 w3 := by rw [hw3]; exact below_alloc0 (Below.refl _ _) _
          have hc3 : w3.cell? ⟨w1.heap.size, 0, none⟩ = some (.string t) := by rw [hw3, World.cell?_alloc_new]; rfl
          have H3 : Hid (RowS w3 (B + 1) fa (oft least l k) fc ∧ Below B w w3 ∧ w3.cell? ⟨w1.heap.size, 0, none⟩ = some (.string t) ∧ w3 = w1.alloc (.cells #[.string t] 9) ∧ MapIs w3 B (k + 1) (l.take (k + 1)) ∧ B + 1 ≤ w3.heap.size) := ⟨H1.out.2.1.call hb3, H1.out.2.2.1.trans (hb3.mono (by have := H1.out.2.2.2; omega)), hc3, hw3, H1.out.1.block (hb3.block B (by have := H1.out.2.2.2; omega)), Nat.le_trans H1.out.2.2.2 hb3.size⟩
          clear hb3 hc3 hw3
          go_wp2_with (at_builtin; change wpList _ _ _ _ _ (w1.alloc (.cells #[.string t] 9)); rw [← H3.out.2.2.2.1]; refine wpList_append_RowS _ rfl _ _ rfl (B + 1) fa m fc (oft least l k) t rfl HK.out.1 H3.out.1 H3.out.2.2.2.2.2 (by rw [← HK.out.1]; exact HML.out) ⟨w1.heap.size, 0, none⟩ 1 rfl H3.out.2.2.1 ?_; intro a9 m9 cap9 w9 hm9 hR9 hb9; have H9 : Hid (m9 = m + 1 ∧ RowS w9 (B + 1) a9 (oft least l k ++ [t]) cap9 ∧ Below (B + 1) w3 w9) := ⟨hm9, hR9, hb9⟩; clear hm9 hR9 hb9)
          have HE : Hid (m9 = (oft least l (k + 1)).length ∧ MapIs w9 B (k + 1) (l.take (k + 1)) ∧ RowS w9 (B + 1) a9 (oft least l (k + 1)) cap9 ∧ Below B w w9 ∧ B + 1 ≤ w9.heap.size) := ⟨by rw [H9.out.1, HO.out, List.length_append, HK.out.1]; rfl, H3.out.2.2.2.2.1.block (H9.out.2.2.block B (by omega)), by rw [HO.out]; exact H9.out.2.1, H3.out.2.1.trans (H9.out.2.2.mono (by omega)), Nat.le_trans H3.out.2.2.2.2.2 H9.out.2.2.size⟩
          go_roundw
          case rel => first | exact ⟨k + 1, m9, a9, cap9, HLT.out, by go_num, HE.out.1, rfl, HE.out.2⟩ | ((repeat apply Exists.intro); exact ⟨⟨k + 1, m9, a9, cap9, HLT.out, by go_num, HE.out.1, rfl, HE.out.2⟩, rfl⟩)
          case measure => have h1 := HLT.out; simp [Go.RowKit.intOf]; omega
        · have HO : Hid (oft least l (k + 1) = oft least l k) := oft_no HTT.out.1 (fun q => hcl (by rw [← HTT.out.2]; exact q.2))
          have g1 : ¬ ((c : Int) + 1 = (least : Int)) := by omega
          have g2 : ((c : Int) + 1 == (least : Int)) = false := by simpa using g1
          clear hcl
          go_wp2_with fail
          go_roundw
          case rel => first | exact ⟨k + 1, m, fa, fc, HLT.out, by go_num, by rw [HO.out]; exact HK.out.1, rfl, H1.out.1, by rw [HO.out]; exact H1.out.2.1, H1.out.2.2⟩ | ((repeat apply Exists.intro); exact ⟨⟨k + 1, m, fa, fc, HLT.out, by go_num, by rw [HO.out]; exact HK.out.1, rfl, H1.out.1, by rw [HO.out]; exact H1.out.2.1, H1.out.2.2⟩, rfl⟩)
          case measure => have h1 := HLT.out; simp [Go.RowKit.intOf]; omega
    · obtain rfl : k = n := by omega
      have hnl : ¬ ((k : Int) < (k : Int)) := Int.lt_irrefl _
      clear hlt hk hm hM hRow hBl hBz
      go_wp2_with fail
      refine HKr.out _ _ ?_
      clear HKr
      go_wp2_with fail
      go_ret
      exact ⟨fa, fc, m, rfl, HK.out.1, HK.out.2.1.strs, by rw [← HB.out]; exact HK.out.2.2.1⟩
end Go.Proofs.YtdfadinpeeigkaaDoor
