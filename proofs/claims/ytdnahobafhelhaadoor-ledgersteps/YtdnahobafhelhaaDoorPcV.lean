/- Are two lists of texts equal? -/
import Derived.Test.YtdnahobafhelhaaDoorPcU
namespace Go.Proofs.YtdnahobafhelhaaDoor
open Go Go.RowKit Go.Lib

theorem toList_ne {s t : ByteArray} (h : s ≠ t) : (s.toList == t.toList) = false := by
  rw [ByteArray.toList_eq, ByteArray.toList_eq]
  exact beq_eq_false_iff_ne.2 fun c => h (ba_ext c)
theorem take_succ_eq {l m : List ByteArray} {k : Nat} (h1 : k < l.length) (h2 : k < m.length) (ht : l.take k = m.take k) (he : (l[k]'h1) = (m[k]'h2)) : l.take (k + 1) = m.take (k + 1) := by
  rw [List.take_succ_eq_append_getElem h1, List.take_succ_eq_append_getElem h2, ht, he]
set_option maxRecDepth 100000 in
set_option maxHeartbeats 4000000 in
theorem texts_any (a b : Option Addr) (l m : List ByteArray) (ca cb : Nat) (hl : l.length ≤ 8796093022208) (w : World) (hA : Strs w a l) (hB : Strs w b m) :
    Calls Tryd.prog 15 #[.slice a l.length ca, .slice b m.length cb] w fun e w' => e = .returned (.bool (decide (l = m))) ∧ Below w.heap.size w w' := by
  obtain ⟨n, hn⟩ : ∃ n, n = l.length := ⟨_, rfl⟩
  obtain ⟨q, hq⟩ : ∃ q, q = m.length := ⟨_, rfl⟩
  rw [← hn, ← hq]
  have HL : Hid (n = l.length ∧ q = m.length) := ⟨hn, hq⟩
  have n43 : (n : Int) ≤ 8796093022208 := by omega
  have HS : Hid (Strs w a l ∧ Strs w b m) := ⟨hA, hB⟩
  obtain ⟨D, hD⟩ : ∃ D, D = decide (l = m) := ⟨_, rfl⟩
  rw [← hD]
  have HD : Hid (D = decide (l = m)) := hD
  clear hn hq hl hA hB hD
  go_enter Tryd.func15, Tryd.ntmps15
  go_wp2_with fail
  rename_i Kr hKr
  have HKr : Hid _ := hKr
  clear hKr
  go_loopw [8] (fun iv wr => ∃ k : Nat, k ≤ n ∧ k ≤ q ∧ iv = .int .i64 (k : Nat) ∧ l.take k = m.take k ∧ Below w.heap.size w wr) (fun iv _ => n - (Go.RowKit.intOf iv).toNat)
  case atStart => exact ⟨0, Nat.zero_le _, Nat.zero_le _, rfl, rfl, Below.refl _ _⟩
  case round =>
    obtain ⟨k, hk, hkq, rfl, ht, hB⟩ := hrel
    rename World => wr
    have HB : Hid (Below w.heap.size w wr ∧ l.take k = m.take k) := ⟨hB, ht⟩
    clear hB ht
    by_cases hlt : k < n
    · clear HKr
      have hkl : k < l.length := by rw [← HL.out.1]; exact hlt
      have hlt' : (k : Int) < (n : Int) := Int.ofNat_lt.2 hlt
      by_cases hge : q ≤ k
      · have hge' : (q : Int) ≤ (k : Int) := by omega
        have d1 : decide ((q : Int) ≤ (k : Int)) = true := decide_eq_true hge'
        have d1' : decide (q ≤ k) = true := decide_eq_true hge
        have HF : Hid (D = false) := by
          rw [HD.out]
          exact decide_eq_false fun c => by
            have h1 := HL.out.1
            have h2 := HL.out.2
            rw [c] at h1
            omega
        clear hlt hge
        go_wp2_with fail
        go_quiet (fail)
        go_wp2_with fail
        go_ret
        exact ⟨by rw [HF.out]; rfl, below_drewN HB.out.1 _⟩
      · have hge' : ¬ ((q : Int) ≤ (k : Int)) := by omega
        have d1 : decide ((q : Int) ≤ (k : Int)) = false := decide_eq_false hge'
        have d1' : decide (q ≤ k) = false := decide_eq_false hge
        have d2 : (k : Int) < (q : Int) := by omega
        have hkm : k < m.length := by rw [← HL.out.2]; omega
        obtain ⟨p, o, rfl, c1, p1⟩ := HS.out.1.get hkl
        obtain ⟨p', o', rfl, c2, p2⟩ := HS.out.2.get hkm
        obtain ⟨s, hs⟩ : ∃ s, s = (l[k]'hkl) := ⟨_, rfl⟩
        obtain ⟨t, ht⟩ : ∃ s, s = (m[k]'hkm) := ⟨_, rfl⟩
        rw [← hs] at c1
        rw [← ht] at c2
        have e1 : wr.cell? ⟨p, o + k, none⟩ = some (.string s) := (HB.out.1.cell (p := ⟨p, o + k, none⟩) p1).trans c1
        have e2 : wr.cell? ⟨p', o' + k, none⟩ = some (.string t) := (HB.out.1.cell (p := ⟨p', o' + k, none⟩) p2).trans c2
        by_cases hst : s = t
        · have HN : Hid (l.take (k + 1) = m.take (k + 1)) := take_succ_eq hkl hkm HB.out.2 (by rw [← hs, ← ht]; exact hst)
          have HQ : Hid (k + 1 ≤ q) := by show k + 1 ≤ q; omega
          subst hst
          have tb : (s.toList == s.toList) = true := by simp only [BEq.rfl]
          clear c1 c2 p1 p2 hs ht hge
          go_wp2_with fail
          go_quiet (fail)
          go_wp2_with fail
          go_roundw
          case rel => first | exact ⟨k + 1, hlt, HQ.out, by go_num, HN.out, below_drewN HB.out.1 _⟩ | ((repeat apply Exists.intro); exact ⟨⟨k + 1, hlt, HQ.out, by go_num, HN.out, below_drewN HB.out.1 _⟩, rfl⟩)
          case measure => simp [Go.RowKit.intOf]; omega
        · have tb : (s.toList == t.toList) = false := toList_ne hst
          have HF : Hid (D = false) := by
            rw [HD.out]
            exact decide_eq_false fun c => hst (by rw [hs, ht]; simp only [c])
          clear c1 c2 p1 p2 hs ht hge hst
          go_wp2_with fail
          go_quiet (fail)
          go_wp2_with fail
          go_ret
          exact ⟨by rw [HF.out]; rfl, below_drewN HB.out.1 _⟩
    · obtain rfl : k = n := by omega
      have hnl : ¬ ((k : Int) < (k : Int)) := Int.lt_irrefl _
      have HF : Hid (((k : Int) == (q : Int)) = D) := by
        rw [HD.out]
        show decide ((k : Int) = (q : Int)) = _
        refine decide_eq_decide.2 ⟨fun c => ?_, fun c => ?_⟩
        · have h1 := HB.out.2
          have h2 : k = q := by omega
          have e1 : l.take k = l := by rw [HL.out.1]; exact List.take_of_length_le (Nat.le_refl _)
          have e2 : m.take k = m := by rw [h2, HL.out.2]; exact List.take_of_length_le (Nat.le_refl _)
          rw [e1, e2] at h1
          exact h1
        · have h1 := HL.out.1
          have h2 := HL.out.2
          rw [c] at h1
          omega
      clear hlt hk hkq
      go_wp2_with fail
      refine HKr.out _ _ ?_
      clear HKr
      go_wp2_with fail
      go_ret
      exact ⟨by rw [← HF.out]; rfl, HB.out.1⟩
end Go.Proofs.YtdnahobafhelhaaDoor
