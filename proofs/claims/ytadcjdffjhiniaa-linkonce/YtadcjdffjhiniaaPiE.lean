/- The numbers that bytes are: parcel.ToInts. -/
import Derived.Test.YtadcjdffjhiniaaPiD
namespace Go.Proofs.Ytadcjdffjhiniaa
open Go Go.RowKit Go.Lib

def tiPost (w : World) (s : ByteArray) (e : Ending) (w' : World) : Prop :=
  ∃ a cap, e = .returned (.tuple #[.slice a (tiL s.data.toList).length cap, .int .i64 (tiE s.data.toList)]) ∧ IntsAt w' a (tiL s.data.toList) ∧ Below w.heap.size w w'
theorem ti_no {t : List UInt8} (h : tiB t = false) : tiE t = 4 ∧ tiL t = [] := by
  unfold tiE tiL; rw [h]; exact ⟨rfl, rfl⟩
theorem tiPost_no {w w' : World} {s : ByteArray} (h : tiB s.data.toList = false) (hb : Below w.heap.size w w') : tiPost w s (.returned (.tuple #[.slice none 0 0, .int .i64 4])) w' := by
  obtain ⟨h1, h2⟩ := ti_no h
  refine ⟨none, 0, ?_, ?_, hb⟩
  · rw [h1, h2]; rfl
  · rw [h2]; intro j s hj; simp at hj
theorem ti_yes {t : List UInt8} (h : tiB t = true) : tiE t = 0 ∧ tiL t = (List.range (t.length / 8)).map fun i => (valAt t i : Int) := by
  unfold tiE tiL; rw [h]; exact ⟨rfl, rfl⟩
theorem tiB_bad {t : List UInt8} {i : Nat} (hi : i < t.length / 8) (h : ¬ valAt t i < 9223372036854775808) : tiB t = false := by
  rcases Bool.eq_false_or_eq_true (tiB t) with c | c
  · unfold tiB at c
    simp only [Bool.and_eq_true] at c
    have := List.all_eq_true.1 c.2 i (by simpa using hi)
    exact absurd (of_decide_eq_true this) h
  · exact c
theorem tiB_all {t : List UInt8} (h1 : t.length % 8 = 0) (h2 : t.length ≤ 8000) (h : ∀ i, i < t.length / 8 → valAt t i < 9223372036854775808) : tiB t = true := by
  unfold tiB
  rw [decide_eq_true h1, decide_eq_true h2, Bool.true_and, Bool.true_and]
  exact List.all_eq_true.2 fun i hi => decide_eq_true (h i (by simpa using hi))
/-- The array under way. -/
def PartI (w : World) (g c : Nat) (t : List UInt8) (i : Nat) : Prop :=
  (∀ j, j < i → w.cell? ⟨g, j, none⟩ = some (.int .i64 (valAt t j : Nat))) ∧ (∀ j, j < c → (w.cell? ⟨g, j, none⟩).isSome = true) ∧ (∀ j, w.frozen? ⟨g, j, none⟩ = false) ∧ g < w.heap.size ∧ (∀ j, j < i → valAt t j < 9223372036854775808)
theorem PartI.of_owns {w : World} {B g c : Nat} {xs : List Value} {t : List UInt8} (h : w.ownsRow B 3 1 (.slice (some ⟨g, 0, none⟩) c c) c xs) : PartI w g c t 0 := by
  rcases h.2 with ⟨h1, _⟩ | ⟨g', cap', cur, h1, h2, h3, h4, h5, h6, h7⟩
  · injection h1 with h1; cases h1
  · injection h1 with h1 _ h1c
    injection h1 with h1
    injection h1 with h1
    subst h1
    refine ⟨fun j hj => absurd hj (by omega), fun j hj => ?_, fun j => ?_, (Array.getElem?_eq_some_iff.1 h3).1, fun j hj => absurd hj (by omega)⟩
    · rw [cell_of_row w g j cur _ (0, 0) h3]
      have hj' : j < cur.size := by omega
      simp [Array.getElem?_eq_getElem hj', Option.isSome]
    · simp [World.frozen?, h3]
theorem PartI.set {w : World} {g c i : Nat} {t : List UInt8} (h : PartI w g c t i) (hi : i < c) (hv : valAt t i < 9223372036854775808) : PartI (w.setCell ⟨g, i, none⟩ (.int .i64 (valAt t i : Nat))) g c t (i + 1) := by
  obtain ⟨h1, h2, h3, h4, h5⟩ := h
  obtain ⟨v0, hv0⟩ := Option.isSome_iff_exists.1 (h2 i hi)
  refine ⟨fun j hj => ?_, fun j hj => ?_, fun j => by rw [World.frozen?_setCell]; exact h3 j, by rw [World.size_setCell]; exact h4, fun j hj => ?_⟩
  · by_cases e : j = i
    · subst e; exact World.cell?_setCell_same _ _ _ hv0
    · rw [World.cell?_setCell_other _ _ _ _ (by intro k; injection k with _ k2 _; omega)]; exact h1 j (by omega)
  · by_cases e : j = i
    · subst e; rw [World.cell?_setCell_same _ _ _ hv0]; rfl
    · rw [World.cell?_setCell_other _ _ _ _ (by intro k; injection k with _ k2 _; omega)]; exact h2 j hj
  · by_cases e : j = i
    · subst e; exact hv
    · exact h5 j (by omega)
set_option maxRecDepth 100000 in
set_option maxHeartbeats 4000000 in
theorem toInts_any (s : ByteArray) (hs : s.size < 140737488351233) (w : World) :
    Calls Try.prog 45 #[.string s] w fun e w' => tiPost w s e w' := by
  obtain ⟨i0, hi, hz0, hz1, hz2⟩ := infoInt
  by_cases h8n : ¬ s.size % 8 = 0
  · have h8 := h8n
    have HF : Hid (tiB s.data.toList = false) := by
      show tiB s.data.toList = false
      unfold tiB; rw [ba_len, decide_eq_false h8, Bool.false_and, Bool.false_and]
    have h8' : ¬ ((s.size : Int) % 8 = 0) := by omega
    have s47 : (s.size : Int) < 140737488351233 := by omega
    clear h8 hs h8n
    go_enter Try.func45, Try.ntmps45
    go_wp2_with fail
    exact bodyPost_ret (v := .tuple #[.slice none 0 0, .int .i64 4]) (by simp [results, Try.results45, go_sem]) rfl (tiPost_no HF.out (Below.refl _ _))
  have h8 : s.size % 8 = 0 := Classical.not_not.1 h8n
  clear h8n
  by_cases hk : 8000 < s.size
  · have HF : Hid (tiB s.data.toList = false) := by
      show tiB s.data.toList = false
      unfold tiB; rw [ba_len, decide_eq_false (show ¬ s.size ≤ 8000 by omega), Bool.and_false, Bool.false_and]
    have h8' : ((s.size : Int) % 8 = 0) := by omega
    have hk' : (8000 : Int) < (s.size : Int) := by omega
    have s47 : (s.size : Int) < 140737488351233 := by omega
    clear h8 hs hk
    go_enter Try.func45, Try.ntmps45
    go_wp2_with fail
    exact bodyPost_ret (v := .tuple #[.slice none 0 0, .int .i64 4]) (by simp [results, Try.results45, go_sem]) rfl (tiPost_no HF.out (Below.refl _ _))
  obtain ⟨c, hc⟩ : ∃ c, c = s.size / 8 := ⟨_, rfl⟩
  have HC : Hid (c = s.size / 8 ∧ s.size % 8 = 0 ∧ s.size ≤ 8000 ∧ s.size = 8 * c) := ⟨hc, h8, by omega, by omega⟩
  have h8' : ((s.size : Int) % 8 = 0) := by omega
  have hk' : ¬ ((8000 : Int) < (s.size : Int)) := by omega
  have hq : (s.size : Int) / 8 = (c : Nat) := by omega
  have c1 : (c : Int) ≤ 1000 := by omega
  clear h8 hs hk hc
  go_enter Try.func45, Try.ntmps45
  go_wp2_with (at_make; refine wpList_make_full _ rfl _ _ 80 rfl w.heap.size 3 i0 (.int .i64 0) 1 Try.underlying80 hi hz0 hz1 .i64 .i64 (c : Nat) (c : Nat) c rfl rfl rfl rfl (by rw [hz2]; omega) (by unfold maxLen; omega) (Nat.le_refl _) ?_; intro w1 ho1 hg1; have H1 : Hid (PartI w1 w.heap.size c s.data.toList 0 ∧ Below w.heap.size w w1) := ⟨PartI.of_owns ho1, (Below.refl _ _).grown hg1 (Nat.le_refl _) (fun k hk => by cases hk)⟩; clear ho1 hg1)
  rename_i Kr hKr
  have HKr : Hid _ := hKr
  clear hKr
  clear h8' hk' hq
  go_loopw [22] (fun iv wr => ∃ i : Nat, i ≤ c ∧ iv = .int .i64 (i : Nat) ∧ PartI wr w.heap.size c s.data.toList i ∧ Below w.heap.size w wr) (fun iv _ => c - (Go.RowKit.intOf iv).toNat)
  case atStart => exact ⟨0, Nat.zero_le _, rfl, H1.out⟩
  case round =>
    obtain ⟨i, hi', rfl, hP, hB⟩ := hrel
    rename World => wr
    clear H1
    have HP : Hid (PartI wr w.heap.size c s.data.toList i ∧ Below w.heap.size w wr) := ⟨hP, hB⟩
    clear hP hB
    by_cases hlt : i < c
    · clear HKr
      have hlt' : (i : Int) < (c : Int) := Int.ofNat_lt.2 hlt
      obtain ⟨v0, hv0⟩ := Option.isSome_iff_exists.1 (HP.out.1.2.1 i hlt)
      have fz := HP.out.1.2.2.1 i
      obtain ⟨A, hA⟩ : ∃ A, A = 8 * i := ⟨_, rfl⟩
      obtain ⟨B, hB⟩ : ∃ B, B = 8 * (i + 1) := ⟨_, rfl⟩
      obtain ⟨X, hX⟩ : ∃ X, X = s.extract A B := ⟨_, rfl⟩
      have xe : s.extract A B = X := hX.symm
      have a1 : (8 : Int) * (i : Int) = (A : Nat) := by omega
      have a2 : (8 : Int) * ((i : Int) + 1) = (B : Nat) := by omega
      have a3 : (A : Int) ≤ (B : Int) := by omega
      have a4 : (B : Int) ≤ (s.size : Int) := by have := HC.out; omega
      have xd : X.data.toList = (s.data.toList.drop (8 * i)).take 8 := by
        rw [hX, ba_extract, hA, hB, show 8 * (i + 1) - 8 * i = 8 from by omega]
      have KJ : Hid _ := fun (w' : World) => joined_any X (by rw [← ba_len, xd, List.length_take]; omega) w'
      rw [xd] at KJ
      have KJ : Hid (∀ w' : World, Calls Try.prog 48 #[.string X] w' fun e w'' => e = .returned (.int .u64 (valAt s.data.toList i : Nat)) ∧ w'' = w') := KJ.out
      obtain ⟨v, hv⟩ : ∃ v, v = valAt s.data.toList i := ⟨_, rfl⟩
      rw [← hv] at KJ
      have HV : Hid (v = valAt s.data.toList i) := hv
      clear hA hB hX xd hv
      by_cases hbig : 9223372036854775807 < v
      · have hbig' : (9223372036854775807 : Int) < (v : Int) := by omega
        have HF : Hid (tiB s.data.toList = false) := tiB_bad (i := i) (by rw [ba_len, ← HC.out.1]; exact hlt) (by rw [← HV.out]; omega)
        clear hbig hlt
        go_wp2_with fail
        refine (KJ.out _).mono ?_
        rintro e w2 ⟨rfl, rfl⟩
        go_wp2_with fail
        exact bodyPost_ret (v := .tuple #[.slice none 0 0, .int .i64 4]) (by simp [results, Try.results45, go_sem]) rfl (tiPost_no HF.out HP.out.2)
      · have hbig' : ¬ ((9223372036854775807 : Int) < (v : Int)) := by omega
        have vb : (v : Int) ≤ 9223372036854775807 := by omega
        have HN : Hid (PartI (wr.setCell ⟨w.heap.size, i, none⟩ (.int .i64 (v : Nat))) w.heap.size c s.data.toList (i + 1) ∧ Below w.heap.size w (wr.setCell ⟨w.heap.size, i, none⟩ (.int .i64 (v : Nat)))) := by
          refine ⟨?_, HP.out.2.setCell (Nat.le_refl _) _⟩
          rw [HV.out]
          exact HP.out.1.set hlt (by rw [← HV.out]; omega)
        clear hbig
        go_wp2_with fail
        refine (KJ.out _).mono ?_
        rintro e w2 ⟨rfl, rfl⟩
        go_wp2_with fail
        go_roundw
        case rel => first | exact ⟨i + 1, hlt, by go_num, HN.out⟩ | ((repeat apply Exists.intro); exact ⟨⟨i + 1, hlt, by go_num, HN.out⟩, rfl⟩)
        case measure => simp [Go.RowKit.intOf]; omega
    · obtain rfl : i = c := by omega
      have hnl : ¬ ((i : Int) < (i : Int)) := Int.lt_irrefl _
      have HF : Hid (tiB s.data.toList = true) := tiB_all (by rw [ba_len]; exact HC.out.2.1) (by rw [ba_len]; exact HC.out.2.2.1) (fun j hj => HP.out.1.2.2.2.2 j (by rw [ba_len, ← HC.out.1] at hj; exact hj))
      clear hlt hi'
      go_wp2_with fail
      refine HKr.out _ _ ?_
      clear HKr
      go_wp2_with fail
      refine bodyPost_ret (v := .tuple #[.slice (some ⟨w.heap.size, 0, none⟩) i i, .int .i64 0]) (by simp [results, Try.results45, go_sem]) rfl ?_
      obtain ⟨g1, g2⟩ := ti_yes HF.out
      have hlen : (tiL s.data.toList).length = i := by rw [g2, List.length_map, List.length_range, ba_len, ← HC.out.1]
      refine ⟨some ⟨w.heap.size, 0, none⟩, i, by rw [g1, hlen], fun j n hj => ?_, HP.out.2⟩
      have hji : j < i := by rw [← hlen]; exact (List.getElem?_eq_some_iff.1 hj).1
      rw [g2, List.getElem?_map, List.getElem?_range (by rw [ba_len, ← HC.out.1]; exact hji)] at hj
      simp at hj
      subst hj
      exact ⟨_, 0, rfl, by rw [Nat.zero_add]; exact HP.out.1.1 j hji, HP.out.1.2.2.2.1⟩
end Go.Proofs.Ytadcjdffjhiniaa
