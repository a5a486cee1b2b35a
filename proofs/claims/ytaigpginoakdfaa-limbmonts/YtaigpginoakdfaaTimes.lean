/- wardmoteref01.Times: the digits of a product. -/
import Derived.Test.YtaigpginoakdfaaTimesN
import Derived.Test.YtaigpginoakdfaaDg
import Derived.Deep.OwnRows
namespace Go.Proofs.Ytaigpginoakdfaa
open Go.RowKit

/-- The block g holds the digits o, and may be written. -/
def Rw (w : World) (g : Nat) (o : List Nat) : Prop := (∀ j, j < o.length → w.cell? ⟨g, j, none⟩ = some (.int .i64 (dget o j : Nat))) ∧ (∀ j, j < o.length → w.frozen? ⟨g, j, none⟩ = false) ∧ g < w.heap.size
theorem Rw.set {w : World} {g : Nat} {o : List Nat} {j d : Nat} (h : Rw w g o) (hj : j < o.length) : Rw (w.setCell ⟨g, j, none⟩ (.int .i64 (d : Nat))) g (o.set j d) := by
  obtain ⟨h1, h2, h3⟩ := h
  refine ⟨?_, ?_, by simpa using h3⟩
  · intro i hi
    rw [List.length_set] at hi
    rw [dget_set _ _ _ _ hj]
    by_cases e : i = j
    · subst e
      rw [World.cell?_setCell_same _ _ _ (h1 i hi), if_pos rfl]
    · rw [World.cell?_setCell_other _ _ _ _ (by intro c; injection c with _ c2 _; exact e c2.symm), if_neg e, h1 i hi]
  · intro i hi
    rw [List.length_set] at hi
    rw [World.frozen?_setCell]
    exact h2 i hi
theorem Rw.drewN {w : World} {g k : Nat} {o : List Nat} (h : Rw w g o) : Rw (w.drewN k) g o := h
theorem Rw.dg {w : World} {g cap : Nat} {o : List Nat} (h : Rw w g o) : Dg w (.slice (some ⟨g, 0, none⟩) o.length cap) o := Or.inr ⟨g, cap, rfl, h.2.2, h.1⟩
theorem Rw.new (w : World) (n : Nat) : Rw (w.alloc (.cells (madeCells #[.int .i64 0] n) 3)) w.heap.size (List.replicate n 0) := by
  refine ⟨?_, ?_, by simp⟩
  · intro j hj
    rw [List.length_replicate] at hj
    rw [World.cell?_alloc_new]
    have e : dget (List.replicate n 0) j = 0 := by unfold dget; rw [List.getD_eq_getElem?_getD, List.getElem?_replicate]; split <;> rfl
    rw [e]
    simp [madeCells, hj, Nat.mod_one]
  · intro j _
    simp

set_option maxRecDepth 100000 in
set_option maxHeartbeats 2000000 in
theorem times_ref (v u : Value) (a b : List Nat) (ha : Dok a) (hb : Dok b) (la : 0 < a.length ∧ a.length < 100) (lb : 0 < b.length ∧ b.length < 100) (w : World) (hv : Dg w v a) (hu : Dg w u b) :
    Calls Try.prog 18 #[v, u] w fun e w' => ∃ x l, e = .returned x ∧ Dg w' x l ∧ (Dok l ∧ l.length = a.length + b.length ∧ dval l = dval a * dval b) ∧ Below w.heap.size w w' := by
  have hmk : ∀ w, (Instr.makeSlice 27 (.int .i64 ((a.length + b.length : Nat) : Int)) (.int .i64 ((a.length + b.length : Nat) : Int))).run Try.prog w = .ok (.slice (some ⟨w.heap.size, 0, none⟩) (a.length + b.length) (a.length + b.length)) (w.alloc (.cells (madeCells #[.int .i64 0] (a.length + b.length)) 3)) := fun w =>
    run_make_row' 27 3 (.int .i64 0) 8 Try.underlying27 infoInt rfl .i64 .i64 (a.length + b.length) (by omega) (by omega) w
  rcases hv with ⟨rfl, rfl⟩ | ⟨g, cap, rfl, hg, hca⟩
  · simp at la
  rcases hu with ⟨rfl, rfl⟩ | ⟨g2, cap2, rfl, hg2, hcb⟩
  · simp at lb
  obtain ⟨n, hn⟩ : ∃ n, n = a.length := ⟨_, rfl⟩
  obtain ⟨m, hm⟩ : ∃ m, m = b.length := ⟨_, rfl⟩
  rw [← hn, ← hm] at hmk
  rw [← hn] at la hca ⊢
  rw [← hm] at lb hcb ⊢
  obtain ⟨la0, la1⟩ := la
  obtain ⟨lb0, lb1⟩ := lb
  have HL : Hid (n = a.length ∧ m = b.length) := ⟨hn, hm⟩
  have HAB : Hid (Dok a ∧ Dok b) := ⟨ha, hb⟩
  have hmk2 : ∀ w, (Instr.makeSlice 27 (.int .i64 ((n : Int) + (m : Int))) (.int .i64 ((n : Int) + (m : Int)))).run Try.prog w = .ok (.slice (some ⟨w.heap.size, 0, none⟩) (n + m) (n + m)) (w.alloc (.cells (madeCells #[.int .i64 0] (n + m)) 3)) := hmk
  have HC : Hid _ := And.intro hca hcb
  clear hn hm ha hb hmk hca hcb
  go_enter Try.func18, Try.ntmps18
  go_wp2_with fail
  obtain ⟨X, hX⟩ : ∃ X, X = w.alloc (.cells (madeCells #[.int .i64 0] (n + m)) 3) := ⟨_, rfl⟩
  have RX : Rw X w.heap.size (List.replicate (n + m) 0) := by rw [hX]; exact Rw.new w (n + m)
  have WX : Below w.heap.size w X := by rw [hX]; exact (Below.refl _ _).alloc (Nat.le_refl _) _
  rw [← hX]
  clear hX
  go_loopw [18] (fun i wr => ∃ (k : Nat) (o : List Nat), k ≤ n ∧ i = .int .i64 k ∧ TimesAt a b k o ∧ Rw wr w.heap.size o ∧ Below w.heap.size w wr)
    (fun i _ => n - (intOf i).toNat)
  case atStart => exact ⟨0, _, Nat.zero_le _, rfl, by rw [HL.out.1, HL.out.2]; exact TimesAt.start a b, RX, WX⟩
  case round =>
    obtain ⟨k, o, hk, rfl, hT, hR, hbel⟩ := hrel
    by_cases hlt : k < n
    · have ca : wr.cell? ⟨g, k, none⟩ = some (.int .i64 (dget a k : Nat)) := (hbel.cell (p := ⟨g, k, none⟩) hg).trans (HC.out.1 k hlt)
      have HT : Hid _ := hT.row
      have HR : Hid _ := And.intro hR hbel
      clear hT hR hbel
      go_wp2_with fail
      go_loopw [7, 23] (fun c j wq => ∃ (q c0 : Nat) (o : List Nat), q ≤ m ∧ j = .int .i64 q ∧ c = .int .i64 c0 ∧ RowAt a b k q c0 o ∧ Rw wq w.heap.size o ∧ Below w.heap.size w wq)
        (fun _ j _ => m - (intOf j).toNat)
      case atStart => exact ⟨0, 0, o, Nat.zero_le _, rfl, rfl, HT.out, HR.out.1, HR.out.2⟩
      case round =>
        clear ca HT HR
        obtain ⟨q, c0, o, hq, rfl, rfl, hT, hR, hbel⟩ := hrel
        by_cases hlt2 : q < m
        · have kl : k + q < o.length := by rw [hT.2.1, ← HL.out.1, ← HL.out.2]; omega
          have ca : wr.cell? ⟨g, k, none⟩ = some (.int .i64 (dget a k : Nat)) := (hbel.cell (p := ⟨g, k, none⟩) hg).trans (HC.out.1 k hlt)
          have cb : wr.cell? ⟨g2, q, none⟩ = some (.int .i64 (dget b q : Nat)) := (hbel.cell (p := ⟨g2, q, none⟩) hg2).trans (HC.out.2 q hlt2)
          have co := hR.1 (k + q) kl
          have cf := hR.2.1 (k + q) kl
          obtain ⟨l1, l2, l3⟩ := hT.lt HAB.out.1 HAB.out.2
          obtain ⟨x, hx⟩ : ∃ x, x = dget o (k + q) := ⟨_, rfl⟩
          obtain ⟨y, hy⟩ : ∃ y, y = dget a k := ⟨_, rfl⟩
          obtain ⟨z, hz⟩ : ∃ z, z = dget b q := ⟨_, rfl⟩
          obtain ⟨p, hp⟩ : ∃ p, p = y * z := ⟨_, rfl⟩
          obtain ⟨s, hs⟩ : ∃ s, s = x + p + c0 := ⟨_, rfl⟩
          obtain ⟨r, hr⟩ : ∃ r, r = s % 65536 := ⟨_, rfl⟩
          obtain ⟨t, ht⟩ : ∃ t, t = s / 65536 := ⟨_, rfl⟩
          have HS := hT.step HAB.out.1 HAB.out.2 (by rw [← HL.out.1]; exact hlt) (by rw [← HL.out.2]; exact hlt2) s (by rw [hs, hp, hx, hy, hz])
          rw [← hr, ← ht] at HS
          rw [← hx] at co l1
          rw [← hy] at ca l2
          rw [← hz] at cb l2
          rw [← hp] at l2
          have e1 : (y : Int) * (z : Int) = (p : Nat) := by rw [hp]; exact (Int.natCast_mul y z).symm
          have e2 : (x : Int) + (p : Int) + (c0 : Int) = (s : Nat) := by omega
          have e3 : (s : Int).tmod 65536 = (r : Nat) := by rw [Int.tmod_eq_emod_of_nonneg (by omega)]; omega
          have e4 : (s : Int).tdiv 65536 = (t : Nat) := by rw [Int.tdiv_eq_ediv_of_nonneg (by omega)]; omega
          have e5 : (s : Int) % 65536 = (r : Nat) := by omega
          have e6 : (s : Int) / 65536 = (t : Nat) := by omega
          have s1 : s < 5000000000 := by omega
          have HH : Hid _ := HS
          have HB : Hid _ := And.intro hR (And.intro hbel kl)
          clear HS hT hR hbel kl hx hy hz hp hs hr ht l3
          go_wp2_with fail
          go_quiet (fail)
          go_wp2_with fail
          go_roundw
          case rel => exact ⟨q + 1, t, _, by omega, by go_num, rfl, HH.out, Rw.set (HB.out.1.drewN (k := nq)) HB.out.2.2, Below.setCell (below_drewN HB.out.2.1 nq) (Nat.le_refl _) _⟩
          case measure => simp [intOf]; omega
        · have hqm : q = m := by omega
          subst hqm
          have kl : k + q < o.length := by rw [hT.2.1, ← HL.out.1, ← HL.out.2]; omega
          have hD := hT
          rw [HL.out.2] at hD
          obtain ⟨zz, hT2⟩ := hD.done (by rw [← HL.out.1]; exact hlt)
          have co := hR.1 (k + q) kl
          rw [← HL.out.2] at zz hT2
          rw [zz] at co
          have cf := hR.2.1 (k + q) kl
          have l3 := hT.2.2.2.1
          have HH : Hid _ := hT2
          have HB : Hid _ := And.intro hR (And.intro hbel kl)
          clear hT hD zz hT2 hR hbel kl
          go_wp2_with fail
          go_roundw
          case rel => exact ⟨k + 1, _, by omega, by go_num, HH.out, Rw.set HB.out.1 HB.out.2.2, Below.setCell HB.out.2.1 (Nat.le_refl _) _⟩
          case measure => simp [intOf]; omega
    · have hkn : k = n := by omega
      subst hkn
      have hD := hT
      rw [HL.out.1] at hD
      have hE := hD.done
      have hl := hE.2.1
      rw [← HL.out.1, ← HL.out.2] at hE hl
      have hd := hR.dg (cap := k + m)
      rw [hl] at hd
      have HH : Hid _ := And.intro hE (And.intro hd hbel)
      clear hT hD hE hl hd hR hbel
      go_wp2_with fail
      go_ret
      exact ⟨_, o, rfl, HH.out.2.1, HH.out.1, HH.out.2.2⟩
end Go.Proofs.Ytaigpginoakdfaa
