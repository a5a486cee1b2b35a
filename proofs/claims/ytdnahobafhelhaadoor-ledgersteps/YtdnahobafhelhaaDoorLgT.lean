/- Package ledger: the iterator told: what it promises. -/
import Derived.Test.YtdnahobafhelhaaDoorLgC
import Derived.Test.YtdnahobafhelhaaDoorLgR
import Derived.Shelf.Abstract
import Derived.Shelf.RegionOpen
import Derived.WalkKit
import Derived.TacticsInMore
import Derived.LoopNIn
import Derived.LoopIn
namespace Go.Proofs.YtdnahobafhelhaaDoor
open Go Go.RowKit Go.Lib Go.Shelf
attribute [local go_sem] Oper.semAt_some

/-- The records that bytes tell, the first of them of number k. -/
inductive Told : Nat → ByteArray → List ByteArray → Prop
  | done {k : Nat} {b : ByteArray} (h : firstS k b = none) : Told k b []
  | more {k : Nat} {b r : ByteArray} {xs : List ByteArray} (h : firstS k b = some r) (t : Told (k + 1) (b.extract (r.size + 6) b.size) xs) : Told k b (r :: xs)
theorem firstS_size {k : Nat} {b r : ByteArray} (h : firstS k b = some r) : r.size + 6 ≤ b.size ∧ r.size ≤ 9000 := by
  unfold firstS at h
  split at h
  · split at h
    · cases h
    · rename_i h1 h2
      split at h
      · cases h
        rw [ByteArray.size_extract]
        omega
      · cases h
  · cases h
theorem told_any : ∀ (m k : Nat) (b : ByteArray), b.size ≤ m → ∃ xs, Told k b xs := by
  intro m
  induction m with
  | zero =>
    intro k b hb
    exact ⟨[], .done (by unfold firstS; rw [dif_neg (by omega)])⟩
  | succ m ih =>
    intro k b hb
    cases e : firstS k b with
    | none => exact ⟨[], .done e⟩
    | some r =>
      have := firstS_size e
      obtain ⟨xs, hx⟩ := ih (k + 1) (b.extract (r.size + 6) b.size) (by rw [ByteArray.size_extract]; omega)
      exact ⟨r :: xs, .more e hx⟩
theorem GlobD.off {Q : Nat → Prop} {w w' : World} (h : GlobD w) (ho : Off Q w w') (h1 : ¬ Q 0) (h2 : ¬ Q 1) : GlobD w' :=
  ⟨fun j hj => (ho.cell (p := ⟨0, j, none⟩) h1).trans (h.1 j hj), Nat.lt_of_lt_of_le h.2.1 ho.size, fun j hj => (ho.cell (p := ⟨1, j, none⟩) h2).trans (h.2.2.1 j hj), Nat.lt_of_lt_of_le h.2.2.2 ho.size⟩
theorem off_set (w : World) (c o : Nat) (v : Value) {Q : Nat → Prop} (hq : ∀ k, k = c → Q k) : Off Q w (w.setCell ⟨c, o, none⟩ v) := by
  have h := But.set (g := c) (o := o) (But.refl c (fun _ => False) w) v
  exact ⟨h.os, h.tape, h.output, h.size, fun k hk => h.block k (fun x => x) fun e => hk (hq k e)⟩
/-- How many bytes a box holds. -/
def boxN (w : World) (c : Nat) : Nat := match w.cell? ⟨c, 0, none⟩ with | some (.string s) => s.size | _ => 0

set_option maxRecDepth 20000 in
set_option maxHeartbeats 2000000 in
theorem told_tells (n : Nat) (hn : 1 ≤ n) (c : Nat) (b : ByteArray) (hb : b.size < 4611686018427387904) (xs : List ByteArray) (hx : Told 0 b xs) (w : World)
    (hG : GlobD w) (hz : 1 < w.heap.size) (hc : w.cell? ⟨c, 0, none⟩ = some (.string b)) (hf : w.frozen? ⟨c, 0, none⟩ = false) (hcz : c < w.heap.size) (hcg : 0 ≠ c ∧ 1 ≠ c) :
    TellsB Fence.wide n Tryd.prog 33 #[.pointer (some ⟨c, 0, none⟩)] (fun x : ByteArray => #[.string x]) c (fun k => k = c ∨ k = 0 ∨ k = 1) xs w := by
  intro l X J Jx W hW hJ hJx hX hl hY h0
  refine callsIn_of_wp Tryd.func33 rfl trivial ?_ rfl
  simp only [Tryd.ntmps33, List.size_toArray, List.length_cons, List.length_nil, Nat.reduceAdd, Nat.reduceSub, Array.replicate_succ, Array.replicate_zero, List.push_toArray, List.append_toArray, List.nil_append, List.cons_append]
  gi_wp2
  gi_loopw [3] (fun p wr => ∃ (k : Nat) (pre rest : List ByteArray) (s : ByteArray), p = .int .i64 (k : Nat) ∧ xs = pre ++ rest ∧ Told k s rest ∧ k + s.size ≤ b.size ∧ wr.cell? ⟨c, 0, none⟩ = some (.string s) ∧ wr.frozen? ⟨c, 0, none⟩ = false ∧ w.heap.size ≤ wr.heap.size ∧ GlobD wr ∧ J pre wr)
    (fun _ wr => boxN wr c)
  case atStart =>
    exact ⟨0, [], xs, b, rfl, rfl, hx, by omega, (hW.cell (p := ⟨c, 0, none⟩) hcz).trans hc, (hW.frozen (p := ⟨c, 0, none⟩) hcz).trans hf, hW.size, hG.call hW, h0⟩
  case round =>
    obtain ⟨k, pre, rest, s, rfl, hxs, ht, hks, hcr, hfr, hsz, hGr, hJr⟩ := hrel
    have HJ : Hid (J pre wr ∧ xs = pre ++ rest ∧ GlobD wr ∧ w.heap.size ≤ wr.heap.size) := ⟨hJr, hxs, hGr, hsz⟩
    have K1 : Hid _ := first_any k s wr hGr (Nat.lt_of_lt_of_le hz hsz)
    clear hJr hxs hGr
    cases ht with
    | done h =>
      rw [h] at K1
      gi_wp2_with (refine ⟨trivial, ?_⟩; gi_at_call 34; refine (callsIn_wide.2 K1.out).mono ?_; rintro e w2 ⟨rfl, hb2⟩)
      refine ⟨fun _ h => (by cases h), ?_⟩
      gi_wp2
      refine bodyPost_ret (results_none rfl _ _ _) rfl ?_
      refine ⟨⟨_, rfl⟩, .inl ?_⟩
      rw [HJ.out.2.1, List.append_nil]
      exact hJ _ _ _ HJ.out.1 (Off.of_below hb2 fun k hk => .inr hk)
    | @more _ _ r rest h t =>
      have hrs := firstS_size h
      rw [h] at K1
      gi_wp2_with (refine ⟨trivial, ?_⟩; gi_at_call 34; refine (callsIn_wide.2 K1.out).mono ?_; rintro e w2 ⟨rfl, hb2⟩; clear K1; have hJ2 := hJ _ _ _ HJ.out.1 (Off.of_below hb2 fun k hk => .inr hk); obtain ⟨fn, tmps, assign, body, hy, hR⟩ := hY pre r w2 ⟨rest, (by rw [HJ.out.2.1]; simp)⟩ hJ2; have HR : Hid _ := hR; clear hR hJ2)
      refine RoundIn.mono HR.out ?_
      rintro e W3 (⟨rfl, hJ3, hk3⟩ | ⟨rfl, hJx3⟩)
      · have hcw : c < w2.heap.size := Nat.lt_of_lt_of_le (Nat.lt_of_lt_of_le hcz hsz) hb2.size
        have hXc : ¬ (X c ∨ c = l ∨ w2.heap.size ≤ c) := by rintro (h | h | h); exact hX c (.inl rfl) h; omega; omega
        have hc3 : W3.cell? ⟨c, 0, none⟩ = some (.string s) := ((hk3.cell (p := ⟨c, 0, none⟩) hXc).trans (hb2.cell (p := ⟨c, 0, none⟩) (Nat.lt_of_lt_of_le hcz hsz))).trans hcr
        have hf3 : W3.frozen? ⟨c, 0, none⟩ = false := ((hk3.frozen (p := ⟨c, 0, none⟩) hXc).trans (hb2.frozen (p := ⟨c, 0, none⟩) (Nat.lt_of_lt_of_le hcz hsz))).trans hfr
        have H3 : Hid (c < W3.heap.size ∧ W3.cell? ⟨c, 0, none⟩ = some (.string s) ∧ W3.frozen? ⟨c, 0, none⟩ = false) := ⟨Nat.lt_of_lt_of_le hcw hk3.size, hc3, hf3⟩
        obtain ⟨q6, hq6⟩ : ∃ q6, q6 = r.size + 6 := ⟨_, rfl⟩
        have K2 : Hid _ := fun (w : World) => lsize_any r (by omega) w
        rw [← hq6] at K2 t
        have z2 : (q6 : Int) ≤ (s.size : Int) := by omega
        have z3 : 6 ≤ q6 ∧ q6 ≤ s.size := by omega
        have HZ : Hid (6 ≤ q6 ∧ q6 ≤ s.size ∧ k + s.size ≤ b.size ∧ b.size < 4611686018427387904) := ⟨z3.1, z3.2, hks, hb⟩
        clear hq6 z3 hrs h
        have HT : Hid (Told (k + 1) (s.extract q6 s.size) rest ∧ Off (fun k => X k ∨ k = l ∨ w2.heap.size ≤ k) w2 W3 ∧ J (pre ++ [r]) W3 ∧ Below wr.heap.size wr w2) := ⟨t, hk3, hJ3, hb2⟩
        clear hc3 hf3 hk3 hJ3 hb2 t
        gi_wp2
        refine wpIn_wide.2 ?_
        refine wp_region_N (fun w' => Below W3.heap.size W3 w') 4 5 rfl (by kernel_rfl) ?_
        refine wpAnyN_take (i := 0) (oi := ?o0) (v := ?v0) ?hi0 (by kernel_rfl) (by kernel_rfl) (by kernel_rfl) (by kernel_rfl) (by decide) (by kernel_rfl) ?hQ0 ?hy0 (Below.drew (Below.refl _ _)) ?more0
        case hi0 => rw [List.getElem?_toArray]; exact rfl
        case hQ0 => exact fun _ _ _ h => h
        case hy0 =>
          refine Or.inl ⟨by rfl, ?_⟩
          intro w' hSw
          have hcc := (hSw.cell (p := ⟨c, 0, none⟩) H3.out.1).trans H3.out.2.1
          clear hSw
          go_simp
          try with_reducible rfl
        simp only [Act.put, List.setIfInBounds_toArray, List.set_cons_zero, List.set_cons_succ]
        refine wpAnyN_takeF (i := 1) (oi := ?o1) (v := ?v1) ?hi1 (by kernel_rfl) (by kernel_rfl) (by kernel_rfl) (by decide) ?hQ1 ?hy1 (Below.drew (Below.refl _ _)) ?more1
        case hi1 => rw [List.getElem?_toArray]; exact rfl
        case hQ1 => exact fun _ _ _ h => h
        case hy1 =>
          refine Or.inl ⟨by rfl, ?_⟩
          intro w' hSw
          clear hSw
          go_simp
          try with_reducible rfl
        simp only [Act.put, List.setIfInBounds_toArray, List.set_cons_zero, List.set_cons_succ]
        refine wpAnyN_one (i := 2) (o := ?o2) (by kernel_rfl) ?hi2 ?hw2 ?st2
        case hi2 => rw [List.getElem?_toArray]; exact rfl
        case hw2 => exact rfl
        intro K hK
        have HK2 : Hid _ := hK
        clear hK
        go_simp
        refine (K2.out _).mono ?_
        rintro e w4 ⟨rfl, hq⟩
        have H4 : Hid (Below W3.heap.size W3 w4) := below_call0 (Below.drew (Below.refl _ _)) hq
        have hc4 : w4.cell? ⟨c, 0, none⟩ = some (.string s) := (H4.out.cell (p := ⟨c, 0, none⟩) H3.out.1).trans H3.out.2.1
        have hf4 : w4.frozen? ⟨c, 0, none⟩ = false := (H4.out.frozen (p := ⟨c, 0, none⟩) H3.out.1).trans H3.out.2.2
        clear hq
        go_wp2_with fail
        refine HK2.out _ _ ⟨fun _ => H4.out, ?_⟩
        clear HK2 K
        try simp only [Act.put, List.setIfInBounds_toArray, List.set_cons_zero, List.set_cons_succ]
        refine wpAnyN_takeF (i := 3) (oi := ?o3) (v := ?v3) ?hi3 (by kernel_rfl) (by kernel_rfl) (by kernel_rfl) (by decide) ?hQ3 ?hy3 H4.out ?more3
        case hi3 => rw [List.getElem?_toArray]; exact rfl
        case hQ3 => exact fun _ _ _ h => h
        case hy3 =>
          refine Or.inl ⟨by rfl, ?_⟩
          intro w' hSw
          clear hSw
          go_simp
          try with_reducible rfl
        simp only [Act.put, List.setIfInBounds_toArray, List.set_cons_zero, List.set_cons_succ]
        refine wpAnyN_one (i := 4) (o := ?o4) (by kernel_rfl) ?hi4 ?hw4 ?st4
        case hi4 => rw [List.getElem?_toArray]; exact rfl
        case hw4 => exact rfl
        intro K hK
        have HK4 : Hid _ := hK
        clear hK
        go_simp
        refine HK4.out _ _ ⟨fun h => absurd h (by decide +kernel), ?_⟩
        clear HK4 K
        try simp only [Act.put, List.setIfInBounds_toArray, List.set_cons_zero, List.set_cons_succ]
        refine wpAnyN_done (by kernel_rfl) ?_ _
        have HS : Hid (Off (fun k => k = c ∨ W3.heap.size ≤ k) W3 (w4.setCell ⟨c, 0, none⟩ (.string (s.extract q6 s.size)))) :=
          (Off.of_below H4.out fun k hk => .inr hk).trans (off_set w4 c 0 _ fun k hk => .inl hk)
        gi_wp2
        go_roundw
        case rel =>
          refine ⟨k + 1, pre ++ [r], rest, s.extract q6 s.size, by go_num, by rw [HJ.out.2.1]; simp, HT.out.1, ?_, World.cell?_setCell_same _ _ _ hc4, by rw [World.frozen?_setCell]; exact hf4, ?_, ?_, hJ _ _ _ HT.out.2.2.1 HS.out⟩
          · have := HZ.out
            rw [ByteArray.size_extract]
            omega
          · exact Nat.le_trans HJ.out.2.2.2 (Nat.le_trans HT.out.2.2.2.size (Nat.le_trans HT.out.2.1.size HS.out.size))
          · have s2 := HT.out.2.2.2.size
            have s3 := HT.out.2.1.size
            have s4 := HJ.out.2.2.2
            have g2 := HJ.out.2.2.1.call HT.out.2.2.2
            refine GlobD.off (GlobD.off g2 HT.out.2.1 ?_ ?_) HS.out ?_ ?_
            · rintro (h | h | h); exact hX _ (.inr (.inl rfl)) h; have := hG.2.1; omega; have := hG.2.1; omega
            · rintro (h | h | h); exact hX _ (.inr (.inr rfl)) h; omega; omega
            · rintro (h | h); exact hcg.1 h; have := hG.2.1; omega
            · rintro (h | h); exact hcg.2 h; omega
        case measure =>
          unfold boxN
          rw [World.cell?_setCell_same _ _ _ hc4, hcr]
          have := HZ.out
          show (s.extract q6 s.size).size < s.size
          rw [ByteArray.size_extract]
          omega
      · gi_wp2
        refine bodyPost_ret (results_none rfl _ _ _) rfl ?_
        exact ⟨⟨_, rfl⟩, .inr ⟨pre ++ [r], ⟨rest, by rw [HJ.out.2.1]; simp⟩, hJx3⟩⟩
end Go.Proofs.YtdnahobafhelhaaDoor
