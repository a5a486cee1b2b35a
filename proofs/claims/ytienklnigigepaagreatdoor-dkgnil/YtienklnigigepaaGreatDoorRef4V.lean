/- The reference's cubes and Words. -/
import Derived.Test.YtienklnigigepaaGreatDoorRef4S
import Derived.Test.YtienklnigigepaaGreatDoorShaF
import Derived.Laws.MakeOwn
namespace Go.Proofs.YtienklnigigepaaGreatDoor
open Go.RowKit

/-- Cells of a kind in a block of one's own. -/
def RowK (K : IntKind) (w : World) (p n : Nat) (f : Nat → Nat) : Prop := (∀ j, j < n → w.cell? ⟨p, j, none⟩ = some (.int K (f j : Nat))) ∧ (∀ o, w.frozen? ⟨p, o, none⟩ = false) ∧ p < w.heap.size
theorem RowK.set {K : IntKind} {w : World} {p n i x : Nat} {f g : Nat → Nat} (h : RowK K w p n f) (hi : i < n) (hx : x = g i) (ho : ∀ j, j < n → j ≠ i → g j = f j) : RowK K (w.setCell ⟨p, i, none⟩ (.int K (x : Nat))) p n g := by
  refine ⟨fun j hj => ?_, fun o => by rw [World.frozen?_setCell]; exact h.2.1 o, by rw [World.size_setCell]; exact h.2.2⟩
  by_cases e : j = i
  · subst e
    rw [World.cell?_setCell_same _ _ _ (h.1 j hj), hx]
  · rw [World.cell?_setCell_other _ _ _ _ (by intro c; injection c with _ c2 _; exact e c2.symm), h.1 j hj, ho j hj e]
theorem RowK.other {K : IntKind} {w : World} {p q n o : Nat} {v : Value} {f : Nat → Nat} (h : RowK K w p n f) (hne : q ≠ p) : RowK K (w.setCell ⟨q, o, none⟩ v) p n f :=
  ⟨fun j hj => by rw [World.cell?_setCell_other _ _ _ _ (by intro c; injection c with c1 _ _; exact hne c1)]; exact h.1 j hj, fun o' => by rw [World.frozen?_setCell]; exact h.2.1 o', by rw [World.size_setCell]; exact h.2.2⟩
theorem RowK.alloc {K : IntKind} {w : World} {p n : Nat} {f : Nat → Nat} {ob : Obj} (h : RowK K w p n f) : RowK K (w.alloc ob) p n f := by
  have hb : Below w.heap.size w (w.alloc ob) := (Below.refl _ _).alloc (Nat.le_refl _) ob
  exact ⟨fun j hj => (hb.cell (p := ⟨p, j, none⟩) h.2.2).trans (h.1 j hj), fun o => (hb.frozen (p := ⟨p, o, none⟩) h.2.2).trans (h.2.1 o), Nat.lt_of_lt_of_le h.2.2 hb.size⟩
theorem RowK.made (K : IntKind) (w : World) (n : Nat) (t : TypeId) : RowK K (w.alloc (.cells (madeCells #[.int K 0] n) t)) w.heap.size n (fun _ => 0) := by
  refine ⟨fun j hj => ?_, fun o => by simp, by simp⟩
  rw [World.cell?_alloc_new]
  simp [madeCells, hj, Nat.mod_one]
theorem info_of (t : TypeId) (z : Value) (sz by' : Nat) (h : (Tryz.prog.info? t).map (fun i => (i.zero, i.size, i.bytes)) = some (some z, sz, by')) : ∃ i, Tryz.prog.info? t = some i ∧ i.zero = some z ∧ i.size = sz ∧ i.bytes = by' := by
  cases e : Tryz.prog.info? t with
  | none => rw [e] at h; cases h
  | some i =>
    rw [e] at h
    simp at h
    exact ⟨i, rfl, h.1, h.2.1, h.2.2⟩
theorem make_u8 (n : Nat) (hn : n < 140737488355328) (w : World) : (Instr.makeSlice 95 (.int .i64 (n : Nat)) (.int .i64 (n : Nat))).run Tryz.prog w = .ok (.slice (some ⟨w.heap.size, 0, none⟩) n n) (w.alloc (.cells (madeCells #[.int .u8 0] n) 5)) := by
  obtain ⟨i, hi, hz, hs, hb⟩ := info_of 5 (.int .u8 0) 1 1 (by kernel_rfl)
  have h := run_make w 95 5 i (.int .u8 0) Tryz.underlying95 hi hz .i64 .i64 (n : Int) (n : Int) (by omega) (by omega) (by rw [hb]; omega) (by omega)
  rw [hs] at h
  simpa [Value.cells] using h
theorem make_i64 (n : Nat) (hn : n < 35184372088832) (w : World) : (Instr.makeSlice 30 (.int .i64 (n : Nat)) (.int .i64 (n : Nat))).run Tryz.prog w = .ok (.slice (some ⟨w.heap.size, 0, none⟩) n n) (w.alloc (.cells (madeCells #[.int .i64 0] n) 3)) := by
  obtain ⟨i, hi, hz, hs, hb⟩ := info_of 3 (.int .i64 0) 1 8 (by kernel_rfl)
  have h := run_make w 30 3 i (.int .i64 0) Tryz.underlying30 hi hz .i64 .i64 (n : Int) (n : Int) (by omega) (by omega) (by rw [hb]; omega) (by omega)
  rw [hs] at h
  simpa [Value.cells] using h
theorem sb_index (s : ByteArray) (k : Nat) (hk : k < s.size) : ∀ h, (s[k]'h).toNat = sb s k := fun h => by
  have l : s.data.toList.length = s.size := (Lib.size_eq s).symm
  unfold sb
  rw [List.getD_eq_getElem?_getD, List.getElem?_map, List.getElem?_eq_getElem (by omega)]
  simp
  rfl
/-- The bytes while they are laid: the text's first k. -/
def fA (s : ByteArray) (k j : Nat) : Nat := if j < k then sb s j else 0
/-- .. and behind it 128, and the length's last m bytes. -/
def fB (s : ByteArray) (N m j : Nat) : Nat := if j < s.size then sb s j else if j = s.size then 128 else if j + m < N then 0 else 8 * s.size / 256 ^ (N - 1 - j) % 256
def padN (L : Nat) : Nat := L + (64 - (L + 8) % 64) + 8
theorem padN_facts (L : Nat) : padN L % 64 = 0 ∧ L + 9 ≤ padN L ∧ padN L < L + 73 := by unfold padN; omega
theorem padN_eq (L z : Nat) (h1 : L + 9 ≤ z) (h2 : z ≤ padN L) (h3 : z % 64 = 0) : z = padN L := by
  obtain ⟨a, b, c⟩ := padN_facts L
  omega
theorem fB_full (s : ByteArray) (m : Nat) (hm : m ≤ 8) (h0 : 8 * s.size / 256 ^ m = 0) (j : Nat) (hj : j < padN s.size) : fB s (padN s.size) m j = padT s j := by
  have hN : padN s.size = s.size + (64 - (s.size + 8) % 64) + 8 := rfl
  unfold fB padT
  by_cases c1 : j < s.size
  · rw [if_pos c1, if_pos c1]
  · rw [if_neg c1, if_neg c1]
    by_cases c2 : j = s.size
    · rw [if_pos c2, if_pos c2]
    · rw [if_neg c2, if_neg c2]
      by_cases c3 : j < s.size + (64 - (s.size + 8) % 64)
      · rw [if_pos c3, if_pos (by omega)]
      · rw [if_neg c3]
        have e : padN s.size - 1 - j = 7 - (j - (s.size + (64 - (s.size + 8) % 64))) := by omega
        by_cases c4 : j + m < padN s.size
        · rw [if_pos c4, ← e]
          have hp : 256 ^ m ≤ 256 ^ (padN s.size - 1 - j) := Nat.pow_le_pow_right (by decide) (by omega)
          have hq : 0 < 256 ^ m := Nat.pow_pos (by decide)
          have l1 : 8 * s.size < 256 ^ m := by
            rcases Nat.lt_or_ge (8 * s.size) (256 ^ m) with h | h
            · exact h
            · have := Nat.div_pos h hq
              omega
          rw [Nat.div_eq_of_lt (Nat.lt_of_lt_of_le l1 hp)]
        · rw [if_neg c4, e]
theorem div_step (x m : Nat) : x / 256 ^ m / 256 = x / 256 ^ (m + 1) := by rw [Nat.div_div_eq_div_mul, Nat.pow_succ]
theorem div_small (L m : Nat) (hL : L < 140737488351233) (h : 0 < 8 * L / 256 ^ m) : m < 8 := by
  rcases Nat.lt_or_ge m 8 with h1 | h1
  · exact h1
  · have hp : 256 ^ 8 ≤ 256 ^ m := Nat.pow_le_pow_right (by decide) h1
    have : 8 * L / 256 ^ m = 0 := Nat.div_eq_of_lt (Nat.lt_of_lt_of_le (by omega) hp)
    omega
theorem fA_else (s : ByteArray) (k j : Nat) (hne : j ≠ k) : fA s (k + 1) j = fA s k j := by
  unfold fA
  by_cases c : j < k
  · rw [if_pos c, if_pos (Nat.lt_succ_of_lt c)]
  · rw [if_neg c, if_neg (by omega)]
theorem fB_start (s : ByteArray) (N : Nat) (j : Nat) (hj : j < N) : fB s N 0 j = if j = s.size then 128 else fA s s.size j := by
  unfold fB fA
  by_cases c1 : j < s.size
  · rw [if_pos c1, if_neg (by omega), if_pos c1]
  · by_cases c2 : j = s.size
    · rw [if_neg c1, if_pos c2, if_pos c2]
    · rw [if_neg c1, if_neg c2, if_neg c2, if_neg c1, if_pos (by omega)]
theorem fB_at (s : ByteArray) (N m : Nat) (hN : s.size + 9 ≤ N) (hm : m < 8) : fB s N (m + 1) (N - 1 - m) = 8 * s.size / 256 ^ m % 256 := by
  unfold fB
  rw [if_neg (by omega), if_neg (by omega), if_neg (by omega), show N - 1 - (N - 1 - m) = m from by omega]
theorem fB_else (s : ByteArray) (N m j : Nat) (h : j ≠ N - 1 - m) : fB s N (m + 1) j = fB s N m j := by
  unfold fB
  by_cases c1 : j < s.size
  · rw [if_pos c1, if_pos c1]
  · rw [if_neg c1, if_neg c1]
    by_cases c2 : j = s.size
    · rw [if_pos c2, if_pos c2]
    · rw [if_neg c2, if_neg c2]
      by_cases c3 : j + m < N
      · rw [if_pos c3, if_pos (by omega)]
      · rw [if_neg c3, if_neg (by omega)]
theorem d_facts (d : Nat) (hd : d < 1152921504606846976) : (d : Int).tmod 256 = ((d % 256 : Nat) : Int) ∧ (d : Int) % 256 = ((d % 256 : Nat) : Int) ∧ IntKind.u8.wrap ((d % 256 : Nat) : Int) = ((d % 256 : Nat) : Int) ∧ (d : Int).tdiv 256 = ((d / 256 : Nat) : Int) ∧ (d : Int) / 256 = ((d / 256 : Nat) : Int) ∧ wrap64 ((d / 256 : Nat) : Int) = ((d / 256 : Nat) : Int) ∧ IntKind.i64.wrap ((d / 256 : Nat) : Int) = ((d / 256 : Nat) : Int) := ⟨by rw [Int.tmod_eq_emod_of_nonneg (by omega)]; omega, by omega, by rw [IntKind.wrap_u8]; omega, by rw [Int.tdiv_eq_ediv_of_nonneg (by omega)]; omega, by omega, by unfold wrap64; omega, by rw [IntKind.wrap_i64]; omega⟩
theorem tdiv4 (z : Nat) : (z : Int).tdiv 4 = ((z / 4 : Nat) : Int) ∧ (z : Int) / 4 = ((z / 4 : Nat) : Int) := ⟨by rw [Int.tdiv_eq_ediv_of_nonneg (by omega)]; omega, by omega⟩
theorem sub1_facts (x : Nat) (h0 : 0 < x) (h : x < 1152921504606846976) : (x : Int) - 1 = ((x - 1 : Nat) : Int) ∧ wrap64 ((x - 1 : Nat) : Int) = ((x - 1 : Nat) : Int) ∧ IntKind.i64.wrap ((x - 1 : Nat) : Int) = ((x - 1 : Nat) : Int) := ⟨by omega, by unfold wrap64; omega, by rw [IntKind.wrap_i64]; omega⟩
/-- Four bytes, the first m of them, as a number. -/
def pw (f : Nat → Nat) (j : Nat) : Nat → Nat
  | 0 => 0
  | m + 1 => 256 * pw f j m + f (4 * j + m)
def gW (f : Nat → Nat) (k j : Nat) : Nat := pw f j (min (k - 4 * j) 4)
theorem pw_lt (f : Nat → Nat) (hf : ∀ j, f j < 256) (j m : Nat) : pw f j m < 256 ^ m := by
  induction m with
  | zero => exact Nat.one_pos
  | succ m ih =>
    have := hf (4 * j + m)
    rw [Nat.pow_succ]
    show 256 * pw f j m + f (4 * j + m) < _
    omega
theorem or_add (a b k K : Nat) (hK : 2 ^ k = K) (hb : b < K) (ha : a * K + b < 4294967296) : or32 (a * K % 4294967296) b = a * K + b := by
  have h1 : a * K < 4294967296 := by omega
  have h2 : b < 4294967296 := by omega
  unfold or32
  rw [Nat.mod_mod, Nat.mod_eq_of_lt h1, Nat.mod_eq_of_lt h2]
  have h := Nat.shiftLeft_add_eq_or_of_lt (i := k) (b := b) (by rw [hK]; exact hb) a
  rw [Nat.shiftLeft_eq, hK] at h
  exact h.symm
theorem or_one (b0 b1 : Nat) (h0 : b0 < 256) (h1 : b1 < 256) : or32 (b0 * 16777216 % 4294967296) (b1 * 65536 % 4294967296) = b0 * 16777216 + b1 * 65536 := by
  rw [Nat.mod_eq_of_lt (by omega : b1 * 65536 < 4294967296)]
  exact or_add b0 (b1 * 65536) 24 16777216 (by decide) (by omega) (by omega)
theorem or_two (b0 b1 b2 : Nat) (h0 : b0 < 256) (h1 : b1 < 256) (h2 : b2 < 256) : or32 (b0 * 16777216 + b1 * 65536) (b2 * 256 % 4294967296) = b0 * 16777216 + b1 * 65536 + b2 * 256 := by
  have h := or_add (b0 * 256 + b1) (b2 * 256) 16 65536 (by decide) (by omega) (by omega)
  rw [Nat.mod_eq_of_lt (by omega : b2 * 256 < 4294967296)]
  rw [Nat.mod_eq_of_lt (by omega : (b0 * 256 + b1) * 65536 < 4294967296), show (b0 * 256 + b1) * 65536 = b0 * 16777216 + b1 * 65536 from by omega] at h
  exact h
theorem or_three (b0 b1 b2 b3 : Nat) (h0 : b0 < 256) (h1 : b1 < 256) (h2 : b2 < 256) (h3 : b3 < 256) : or32 (b0 * 16777216 + b1 * 65536 + b2 * 256) b3 = b0 * 16777216 + b1 * 65536 + b2 * 256 + b3 := by
  have h := or_add (b0 * 65536 + b1 * 256 + b2) b3 8 256 (by decide) (by omega) (by omega)
  rw [Nat.mod_eq_of_lt (by omega : (b0 * 65536 + b1 * 256 + b2) * 256 < 4294967296), show (b0 * 65536 + b1 * 256 + b2) * 256 = b0 * 16777216 + b1 * 65536 + b2 * 256 from by omega] at h
  exact h
set_option maxRecDepth 100000 in
theorem word4_pw (f : Nat → Nat) (hf : ∀ j, f j < 256) (j : Nat) : pw f j 4 = word4 f j := by
  have a0 := hf (4 * j)
  have a1 := hf (4 * j + 1)
  have a2 := hf (4 * j + 2)
  have a3 := hf (4 * j + 3)
  have e : pw f j 4 = 256 * (256 * (256 * (256 * 0 + f (4 * j + 0)) + f (4 * j + 1)) + f (4 * j + 2)) + f (4 * j + 3) := rfl
  rw [e, Nat.add_zero]
  unfold word4
  generalize f (4 * j) = b0 at *
  generalize f (4 * j + 1) = b1 at *
  generalize f (4 * j + 2) = b2 at *
  generalize f (4 * j + 3) = b3 at *
  rw [or_one b0 b1 a0 a1, or_two b0 b1 b2 a0 a1 a2, or_three b0 b1 b2 b3 a0 a1 a2 a3]
  omega
theorem gW_same (f : Nat → Nat) (k : Nat) : gW f (k + 1) (k / 4) = 256 * gW f k (k / 4) + f k := by
  unfold gW
  rw [show min (k + 1 - 4 * (k / 4)) 4 = min (k - 4 * (k / 4)) 4 + 1 from by omega]
  show 256 * _ + f (4 * (k / 4) + min (k - 4 * (k / 4)) 4) = _
  rw [show 4 * (k / 4) + min (k - 4 * (k / 4)) 4 = k from by omega]
theorem gW_other (f : Nat → Nat) (k j : Nat) (h : j ≠ k / 4) : gW f (k + 1) j = gW f k j := by
  unfold gW
  rw [show min (k + 1 - 4 * j) 4 = min (k - 4 * j) 4 from by omega]
theorem gW_full (f : Nat → Nat) (n j : Nat) (h : 4 * j + 4 ≤ n) : gW f n j = pw f j 4 := by
  unfold gW
  rw [show min (n - 4 * j) 4 = 4 from by omega]
theorem gW_lt (f : Nat → Nat) (hf : ∀ j, f j < 256) (k j : Nat) : gW f k j < 4294967296 := by
  have h := pw_lt f hf j (min (k - 4 * j) 4)
  have h2 : 256 ^ (min (k - 4 * j) 4) ≤ 256 ^ 4 := Nat.pow_le_pow_right (by decide) (Nat.min_le_right _ _)
  unfold gW
  omega
theorem w_index (k N : Nat) (hk : k < N) (h4 : N % 4 = 0) : k / 4 < N / 4 ∧ (k : Int).tdiv 4 = ((k / 4 : Nat) : Int) ∧ (k : Int) / 4 = ((k / 4 : Nat) : Int) ∧ ((k / 4 : Nat) : Int) < ((N / 4 : Nat) : Int) := ⟨by omega, by rw [Int.tdiv_eq_ediv_of_nonneg (by omega)]; omega, by omega, by omega⟩
theorem w_step (x d : Nat) (hx : 256 * x + d < 9223372036854775808) : (256 : Int) * (x : Int) = ((256 * x : Nat) : Int) ∧ IntKind.i64.wrap ((256 * x : Nat) : Int) = ((256 * x : Nat) : Int) ∧ wrap64 ((256 * x : Nat) : Int) = ((256 * x : Nat) : Int) ∧ ((256 * x : Nat) : Int) + (d : Int) = ((256 * x + d : Nat) : Int) ∧ IntKind.i64.wrap ((256 * x + d : Nat) : Int) = ((256 * x + d : Nat) : Int) ∧ wrap64 ((256 * x + d : Nat) : Int) = ((256 * x + d : Nat) : Int) := ⟨by omega, by rw [IntKind.wrap_i64]; omega, by unfold wrap64; omega, by omega, by rw [IntKind.wrap_i64]; omega, by unfold wrap64; omega⟩

end Go.Proofs.YtienklnigigepaaGreatDoor
