/- The law LedgerSteps: its step in memory; a record that is too long; a number that is none. -/
import Derived.Test.YtdnahobafhelhaaDoorLgLn
import Derived.Test.YtdnahobafhelhaaDoorLgM
import Derived.Test.YtdnahobafhelhaaDoorLgP
namespace Go.Proofs.YtdnahobafhelhaaDoor
open Go Go.RowKit Go.Lib
theorem sizes9 : ∀ (rs : List ByteArray), (∀ x ∈ rs, x.size ≤ 9000) → sizesN rs ≤ 9006 * rs.length
  | [], _ => Nat.le_refl _
  | r :: rs, h => by
    have h1 := sizes9 rs (fun x hx => h x (by simp [hx]))
    have h2 := h r (by simp)
    simp only [sizesN, List.length_cons]
    omega
theorem sizes_take9 : ∀ (rs : List ByteArray) (n : Nat), sizesN (rs.take n) ≤ sizesN rs
  | [], n => by simp [sizesN]
  | r :: rs, 0 => Nat.zero_le _
  | r :: rs, n + 1 => by
    have := sizes_take9 rs n
    simp only [List.take_succ_cons, sizesN]
    omega
/-- A block of colour 3 and its cells. -/
def Stp (w : World) (c : Nat → Nat) (K : Nat) (vs : List Value) : Prop := c K = 3 ∧ K < w.heap.size ∧ ∀ j u, vs[j]? = some u → w.cell? ⟨K, j, none⟩ = some u
theorem Stp.off {w w' : World} {c c' : Nat → Nat} {K : Nat} {vs : List Value} {D : Nat → Prop} (h : Stp w c K vs) (hb : Off D w w') (hD : ∀ k, k < w.heap.size → c k = 3 → ¬ D k) (hc : ∀ k, k < w.heap.size → c' k = c k) : Stp w' c' K vs :=
  ⟨(hc K h.2.1).trans h.1, Nat.lt_of_lt_of_le h.2.1 hb.size, fun j u hu => (hb.cell (p := ⟨K, j, none⟩) (hD K h.2.1 h.1)).trans (h.2.2 j u hu)⟩
theorem Stp.call {w w' : World} {c : Nat → Nat} {K : Nat} {vs : List Value} (x : Nat) (h : Stp w c K vs) (hb : Below w.heap.size w w') : Stp w' (paint c w w' x) K vs :=
  h.off (Off.of_below hb (fun _ q => q)) (fun _ hk _ q => absurd hk (Nat.not_lt_of_le q)) (fun _ hk => paint_old hk)
theorem Stp.new (w : World) (c : Nat → Nat) (vs : List Value) (t : TypeId) : Stp (w.alloc (.cells vs.toArray t)) (paint c w (w.alloc (.cells vs.toArray t)) 3) w.heap.size vs :=
  ⟨paint_new (Nat.le_refl _) (by simp), by simp, fun j u hu => by rw [World.cell?_alloc_new, List.getElem?_toArray]; exact hu⟩
set_option maxHeartbeats 2000000 in
theorem lappend_long (q : Option Addr) (s : ByteArray) (hs : 9000 < s.size) (w : World) : Calls Tryd.prog 18 #[.pointer q, .string s] w fun e w' => e = .returned (.tuple #[.int .i64 0, .int .i64 2]) ∧ w' = w := by
  have hs' : (9000 : Int) < (s.size : Int) := by omega
  clear hs
  go_enter Tryd.func18, Tryd.ntmps18
  go_wp2_with fail
  go_ret2
  exact ⟨rfl, rfl⟩
set_option maxHeartbeats 2000000 in
theorem lget_none (c : Nat → Nat) (G L : Nat) (N : Int) (rs : List ByteArray) (hN : N < 0 ∨ (rs.length : Int) ≤ N) (w : World) (hD : Led w c G L rs) : Calls Tryd.prog 23 #[.pointer (some ⟨L, 0, none⟩), .int .i64 N] w fun e w' => e = .returned (.tuple #[.string ⟨#[]⟩, .int .i64 6]) ∧ w' = w := by
  obtain ⟨a, cap, hcL, c0, c1, fz, hlt, hRow⟩ := hD
  obtain ⟨n, hn⟩ : ∃ n, n = rs.length := ⟨_, rfl⟩
  rw [← hn] at c1 hN
  clear hRow fz hcL hn c0
  by_cases h0 : N < 0
  · clear hN
    go_enter Tryd.func23, Tryd.ntmps23
    go_wp2_with fail
    go_ret2
    exact ⟨rfl, rfl⟩
  · have k1 : (n : Int) ≤ N := by omega
    have k2 : ¬ (N < (n : Int)) := by omega
    clear hN
    go_enter Tryd.func23, Tryd.ntmps23
    go_wp2_with fail
    go_ret2
    exact ⟨rfl, rfl⟩
/-- What LedgerSteps keeps from step to step. -/
def LS (w wr : World) (G i : Nat) (s4 s6 s7 s8 : Value) : Prop := ∃ (rs : List ByteArray) (j : Nat) (c : Nat → Nat) (L : Nat) (aa : Option Addr) (nA capA : Nat), s4 = .pointer (some ⟨L, 0, none⟩) ∧ s6 = .slice aa nA capA ∧ nA = rs.length ∧ s7 = .string (logS 0 rs) ∧ s8 = .int .i64 (j : Nat) ∧ Tr w wr c G L (sizesN (rs.take j)) rs aa capA rs ∧ j ≤ rs.length ∧ rs.length ≤ i ∧ ∀ x ∈ rs, x.size ≤ 9000
/-- The same beside a step's block. -/
def LT (w wr : World) (G i K : Nat) (vs : List Value) (s4 s6 s7 s8 : Value) : Prop := ∃ (rs : List ByteArray) (j : Nat) (c : Nat → Nat) (L : Nat) (aa : Option Addr) (nA capA : Nat), s4 = .pointer (some ⟨L, 0, none⟩) ∧ s6 = .slice aa nA capA ∧ nA = rs.length ∧ s7 = .string (logS 0 rs) ∧ s8 = .int .i64 (j : Nat) ∧ Tr w wr c G L (sizesN (rs.take j)) rs aa capA rs ∧ Stp wr c K vs ∧ j ≤ rs.length ∧ rs.length ≤ i ∧ ∀ x ∈ rs, x.size ≤ 9000
theorem LT.down {w wr wr' : World} {G i K : Nat} {vs : List Value} {s4 s6 s7 s8 : Value} (h : LT w wr G i K vs s4 s6 s7 s8) (hb : Below wr.heap.size wr wr') : LS w wr' G i s4 s6 s7 s8 := by
  obtain ⟨rs, j, c, L, aa, nA, capA, h1, h2, h3, h4, h5, h6, h7, h8, h9, h10⟩ := h
  exact ⟨rs, j, _, L, aa, nA, capA, h1, h2, h3, h4, h5, h6.call 3 hb, h8, h9, h10⟩
theorem log_bound {rs : List ByteArray} {i : Nat} (h : rs.length ≤ i) (_hi : i ≤ 100) (hs : ∀ x ∈ rs, x.size ≤ 9000) : (logS 0 rs).size ≤ 9006 * i := by
  rw [logS_size]
  exact Nat.le_trans (sizes9 rs hs) (Nat.mul_le_mul_left _ h)
/-- However the file crashes: what it holds then, and what that tells. -/
theorem crash_any {w : World} {c : Nat → Nat} {G k q m0 : Nat} {rs : List ByteArray} {j0 : Nat} (hz : (logS 0 rs).size ≤ 1000000) (h9 : ∀ x ∈ rs, x.size ≤ 9000) (hj0 : j0 ≤ rs.length) (hm0 : m0 = sizesN (rs.take j0)) (kb : m0 + k ≤ (logS 0 rs).size) (qb : q < 256) (hF : Fil w c 1 11 G m0 (logS 0 rs)) :
    ∃ (m1 : Nat) (bs1 : ByteArray) (j : Nat), (Calls Tryd.prog 21 #[.pointer (some ⟨G, 0, none⟩), .int .i64 (k : Nat), .int .i64 (q : Nat)] w fun e w'' => e = .returned (.int .i64 0) ∧ Fil w'' (paint c w w'' 1) 1 11 G m1 bs1 ∧ Chg w c 1 11 w'') ∧ j ≤ rs.length ∧ j0 ≤ j ∧ Told 0 bs1 (rs.take j) ∧ bs1.extract 0 (sizesN (rs.take j)) = logS 0 (rs.take j) ∧ bs1.size ≤ 1000000 := by
  by_cases hc : q = 0 ∨ m0 + k = (logS 0 rs).size
  · obtain ⟨j, j1, j2, j3, j4⟩ := torn_cut rs j0 (m0 + k) h9 hj0 (by rw [hm0]; exact Nat.le_add_right _ _)
    exact ⟨m0 + k, (logS 0 rs).extract 0 (m0 + k), j, hF.op fun P hf => fcrash_ok G P m0 k q (logS 0 rs) kb (by omega) qb hc w hf, j1, j2, j3, j4, by rw [ByteArray.size_extract]; omega⟩
  · have kl : m0 + k < (logS 0 rs).size := by omega
    obtain ⟨j, j1, j2, j3, j4⟩ := torn_byte rs j0 (m0 + k) q h9 hj0 (by rw [hm0]; exact Nat.le_add_right _ _) kl (by omega) qb
    exact ⟨m0 + k + 1, _, j, hF.op fun P hf => fcrash_byte G P m0 k q (logS 0 rs) kl (by omega) qb (by omega) w hf, j1, j2, j3, j4, by rw [ByteArray.size_append, ByteArray.size_extract]; show _ + 1 ≤ _; omega⟩
end Go.Proofs.YtdnahobafhelhaaDoor
