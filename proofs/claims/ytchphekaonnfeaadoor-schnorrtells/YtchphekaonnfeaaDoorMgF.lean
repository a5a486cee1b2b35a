/- Several texts laid together. -/
import Derived.Lib.AppendStr
import Derived.Test.YtchphekaonnfeaaDoorRef4S
import Derived.Test.YtchphekaonnfeaaDoorMgM
import Derived.Laws.MakeOwn
import Derived.BigQuiet
import Derived.Test.YtchphekaonnfeaaDoorMgE
import Derived.Test.YtchphekaonnfeaaDoorShaS
import Derived.Test.YtchphekaonnfeaaDoorMgK
import Derived.Deep.MidRow
import Derived.FnLit
import Derived.Test.YtchphekaonnfeaaDoorFdB
import Derived.Test.YtchphekaonnfeaaDoorMgB
import Derived.Test.YtchphekaonnfeaaDoorMgA
namespace Go.Proofs.YtchphekaonnfeaaDoor
open Go Go.Lib

theorem ba_ext {a b : ByteArray} (h : a.data.toList = b.data.toList) : a = b := by
  obtain ⟨x⟩ := a; obtain ⟨y⟩ := b
  exact congrArg ByteArray.mk (Array.ext' h)
theorem ba_len (a : ByteArray) : a.data.toList.length = a.size := by have := strCells_length a; rw [strCells, List.length_map] at this; exact this
theorem ba_append (a b : ByteArray) : (a ++ b).data.toList = a.data.toList ++ b.data.toList := by simp [ByteArray.data_append]
/-- A list as bytes. -/
def ofL (l : List UInt8) : ByteArray := ⟨l.toArray⟩
theorem ofL_data (l : List UInt8) : (ofL l).data.toList = l := by simp [ofL]
theorem ofL_size (l : List UInt8) : (ofL l).size = l.length := by rw [← ba_len, ofL_data]
/-- A number's bytes, the highest first. -/
def nbyL : Nat → Nat → List UInt8
  | _, 0 => []
  | n, k + 1 => nbyL (n / 256) k ++ [UInt8.ofNat n]
theorem nbyL_length (k : Nat) : ∀ n, (nbyL n k).length = k := by
  induction k with
  | zero => intro n; rfl
  | succ k ih => intro n; unfold nbyL; rw [List.length_append, ih]; rfl
end Go.Proofs.YtchphekaonnfeaaDoor

namespace Go.Proofs.YtchphekaonnfeaaDoor
open Go Go.Lib

theorem nbyL_cons (k : Nat) : ∀ n, nbyL n (k + 1) = UInt8.ofNat (n / 256 ^ k) :: nbyL n k := by
  induction k with
  | zero => intro n; simp [nbyL]
  | succ k ih =>
    intro n
    have h1 : nbyL n (k + 1 + 1) = nbyL (n / 256) (k + 1) ++ [UInt8.ofNat n] := rfl
    have h2 : nbyL n (k + 1) = nbyL (n / 256) k ++ [UInt8.ofNat n] := rfl
    rw [h1, ih, h2, Nat.div_div_eq_div_mul, List.cons_append, Nat.pow_succ, Nat.mul_comm]
end Go.Proofs.YtchphekaonnfeaaDoor

namespace Go.Proofs.YtchphekaonnfeaaDoor
open Go Go.Lib

/-- What parts are as bytes. -/
def partsL : List ByteArray → List UInt8
  | [] => []
  | s :: r => nbyL s.size 4 ++ (s.data.toList ++ partsL r)
theorem partsL_append (a b : List ByteArray) : partsL (a ++ b) = partsL a ++ partsL b := by
  induction a with
  | nil => rfl
  | cons s r ih => simp only [List.cons_append, partsL, ih, List.append_assoc]
theorem partsL_take_succ {l : List ByteArray} {k : Nat} (hk : k < l.length) : partsL (l.take (k + 1)) = partsL (l.take k) ++ (nbyL (l[k]'hk).size 4 ++ (l[k]'hk).data.toList) := by
  rw [List.take_succ_eq_append_getElem hk, partsL_append]
  simp only [partsL, List.append_nil]
/-- How many bytes parts have in sum. -/
def bytesN : List ByteArray → Nat
  | [] => 0
  | s :: r => s.size + bytesN r
theorem partsL_length (l : List ByteArray) : (partsL l).length = 4 * l.length + bytesN l := by
  induction l with
  | nil => rfl
  | cons s r ih => simp only [partsL, List.length_append, nbyL_length, ba_len, ih, List.length_cons, bytesN]; omega
theorem bytesN_append (a b : List ByteArray) : bytesN (a ++ b) = bytesN a + bytesN b := by
  induction a with
  | nil => simp [bytesN]
  | cons s r ih => simp only [List.cons_append, bytesN, ih]; omega
theorem bytesN_take (l : List ByteArray) (k : Nat) : bytesN (l.take k) ≤ bytesN l := by
  have h := bytesN_append (l.take k) (l.drop k)
  rw [List.take_append_drop] at h
  omega
/-- What is hashed. -/
def hashdL (t : ByteArray) (l : List ByteArray) : List UInt8 := nbyL t.size 1 ++ (t.data.toList ++ partsL l)
def hashB (t : ByteArray) (l : List ByteArray) : ByteArray := ofL (hashdL t l)
theorem hashB_size (t : ByteArray) (l : List ByteArray) : (hashB t l).size = 1 + t.size + 4 * l.length + bytesN l := by
  unfold hashB hashdL
  rw [ofL_size, List.length_append, List.length_append, nbyL_length, ba_len, partsL_length]
  omega
/-- The text of what is hashed, as far as the k'th part. -/
theorem hashB_zero (t : ByteArray) (l : List ByteArray) : (ofL (nbyL t.size 1) ++ t) = hashB t (l.take 0) := by
  refine ba_ext ?_
  rw [ba_append, ofL_data]
  unfold hashB
  rw [ofL_data]
  simp [hashdL, partsL]
theorem hashB_succ (t : ByteArray) {l : List ByteArray} {k : Nat} (hk : k < l.length) : (hashB t (l.take k) ++ ofL (nbyL (l[k]'hk).size 4)) ++ (l[k]'hk) = hashB t (l.take (k + 1)) := by
  refine ba_ext ?_
  unfold hashB
  rw [ba_append, ba_append, ofL_data, ofL_data, ofL_data]
  unfold hashdL
  rw [partsL_take_succ hk]
  simp only [List.append_assoc]
theorem hashB_take (t : ByteArray) (l : List ByteArray) (k : Nat) : (hashB t (l.take k)).size ≤ (hashB t l).size := by
  rw [hashB_size, hashB_size]
  have h1 := bytesN_take l k
  have h2 : (l.take k).length ≤ l.length := by rw [List.length_take]; omega
  omega
end Go.Proofs.YtchphekaonnfeaaDoor

namespace Go.Proofs.YtchphekaonnfeaaDoor
open Go.RowKit

/-- Cells of a kind in a block of one's own. -/
def RowK (K : IntKind) (w : World) (p n : Nat) (f : Nat → Nat) : Prop := (∀ j, j < n → w.cell? ⟨p, j, none⟩ = some (.int K (f j : Nat))) ∧ (∀ o, w.frozen? ⟨p, o, none⟩ = false) ∧ p < w.heap.size
theorem RowK.set {K : IntKind} {w : World} {p n i x : Nat} {f g : Nat → Nat} (h : RowK K w p n f) (hi : i < n) (hx : x = g i) (ho : ∀ j, j < n → j ≠ i → g j = f j) : RowK K (w.setCell ⟨p, i, none⟩ (.int K (x : Nat))) p n g := by
  refine ⟨fun j hj => ?_, fun o => by rw [World.frozen?_setCell]; exact h.2.1 o, by rw [World.size_setCell]; exact h.2.2⟩
  by_cases e : j = i
  · subst e
    rw [World.cell?_setCell_same _ _ _ (h.1 j hj), hx]
  · rw [World.cell?_setCell_other _ _ _ _ (by intro c; injection c with _ c2 _; exact e c2.symm), h.1 j hj, ho j hj e]
theorem RowK.other {K : IntKind} {w : World} {p q n o : Nat} {v : Value} {f : Nat → Nat} (h : RowK K w p n f) (hne : q ≠ p) : RowK K (w.setCell ⟨q, o, none⟩ v) p n f :=
  ⟨fun j hj => by rw [World.cell?_setCell_other _ _ _ _ (by intro c; injection c with c1 _ _; exact hne c1)]; exact h.1 j hj, fun o' => by rw [World.frozen?_setCell]; exact h.2.1 o', by rw [World.size_setCell]; exact h.2.2⟩
theorem RowK.alloc {K : IntKind} {w : World} {p n : Nat} {f : Nat → Nat} {ob : Obj} (h : RowK K w p n f) : RowK K (w.alloc ob) p n f := by
  have hb : Below w.heap.size w (w.alloc ob) := (Below.refl _ _).alloc (Nat.le_refl _) ob
  exact ⟨fun j hj => (hb.cell (p := ⟨p, j, none⟩) h.2.2).trans (h.1 j hj), fun o => (hb.frozen (p := ⟨p, o, none⟩) h.2.2).trans (h.2.1 o), Nat.lt_of_lt_of_le h.2.2 hb.size⟩
theorem RowK.made (K : IntKind) (w : World) (n : Nat) (t : TypeId) : RowK K (w.alloc (.cells (madeCells #[.int K 0] n) t)) w.heap.size n (fun _ => 0) := by
  refine ⟨fun j hj => ?_, fun o => by simp, by simp⟩
  rw [World.cell?_alloc_new]
  simp [madeCells, hj, Nat.mod_one]
theorem info_of (t : TypeId) (z : Value) (sz by' : Nat) (h : (Tryd.prog.info? t).map (fun i => (i.zero, i.size, i.bytes)) = some (some z, sz, by')) : ∃ i, Tryd.prog.info? t = some i ∧ i.zero = some z ∧ i.size = sz ∧ i.bytes = by' := by
  cases e : Tryd.prog.info? t with
  | none => rw [e] at h; cases h
  | some i =>
    rw [e] at h
    simp at h
    exact ⟨i, rfl, h.1, h.2.1, h.2.2⟩
theorem make_u8 (n : Nat) (hn : n < 140737488355328) (w : World) : (Instr.makeSlice 100 (.int .i64 (n : Nat)) (.int .i64 (n : Nat))).run Tryd.prog w = .ok (.slice (some ⟨w.heap.size, 0, none⟩) n n) (w.alloc (.cells (madeCells #[.int .u8 0] n) 5)) := by
  obtain ⟨i, hi, hz, hs, hb⟩ := info_of 5 (.int .u8 0) 1 1 (by kernel_rfl)
  have h := run_make w 100 5 i (.int .u8 0) Tryd.underlying100 hi hz .i64 .i64 (n : Int) (n : Int) (by omega) (by omega) (by rw [hb]; omega) (by omega)
  rw [hs] at h
  simpa [Value.cells] using h
end Go.Proofs.YtchphekaonnfeaaDoor

namespace Go.Proofs.YtchphekaonnfeaaDoor
open Go Go.RowKit Go.Lib

theorem nbyL_get (n : Nat) : ∀ (z j : Nat), j < z → (nbyL n z)[j]? = some (UInt8.ofNat (n / 256 ^ (z - 1 - j)))
  | 0, j, h => absurd h (by omega)
  | z + 1, 0, _ => by rw [nbyL_cons]; rfl
  | z + 1, j + 1, h => by
    rw [nbyL_cons, List.getElem?_cons_succ, nbyL_get n z j (by omega)]
    rw [show z - 1 - j = z + 1 - 1 - (j + 1) by omega]
def byteH (n z j : Nat) : Nat := n / 256 ^ (z - 1 - j) % 256
theorem num_text (w : World) (g n z cap : Nat) (h : RowK .u8 w g z (byteH n z)) : (convert 100 9 (.slice (some ⟨g, 0, none⟩) z cap)).run Tryd.prog w = .ok (.string (ofL (nbyL n z))) w := by
  have e1 : (nbyL n z).length = z := nbyL_length z n
  have g2 := run_convert_bytes_back (P := Tryd.prog) w 100 9 5 ⟨g, 0, none⟩ cap (nbyL n z) Tryd.underlying100 Tryd.underlying5 Tryd.underlying9 (fun j hj => by
    have hj' := hj
    rw [e1] at hj'
    have e2 : (Addr.add ⟨g, 0, none⟩ j) = ⟨g, j, none⟩ := by
      simp only [Addr.add]
      split
      · rename_i h0; have : j = 0 := by simpa using h0
        subst this; rfl
      · simp
    have e3 := nbyL_get n z j hj'
    rw [List.getElem?_eq_getElem hj] at e3
    rw [e2, h.1 j hj', Option.some.inj e3]
    unfold byteH
    simp)
  rw [e1] at g2
  exact g2
set_option maxRecDepth 100000 in
set_option maxHeartbeats 1000000 in
theorem highFirst_any (n z : Nat) (hn : n < 9223372036854775808) (hz1 : 1 ≤ z) (hz : z ≤ 8) (w : World) :
    Calls Tryd.prog 81 #[.int .i64 (n : Nat), .int .i64 (z : Nat)] w fun e w' => e = .returned (.string (ofL (nbyL n z))) ∧ Below w.heap.size w w' := by
  have m1 := fun w => make_u8 z (by omega) w
  have z8 : (z : Int) ≤ 8 := by omega
  have HZ : Hid (n < 9223372036854775808 ∧ 1 ≤ z ∧ z ≤ 8) := ⟨hn, hz1, hz⟩
  clear hz1 hz hn
  go_enter Tryd.func81, Tryd.ntmps81
  go_wp2_with fail
  go_loopw [11] (fun i wr => ∃ k : Nat, k ≤ z ∧ i = .int .i64 k ∧ RowK .u8 wr w.heap.size z (fun j => if j < k then byteH n z j else 0) ∧ Below w.heap.size w wr)
    (fun i _ => z - (intOf i).toNat)
  case atStart =>
    exact ⟨0, by omega, rfl, RowK.made .u8 w z _, below_alloc0' (Below.refl _ _) _⟩
  case round =>
    obtain ⟨k, hk, rfl, hR, hB⟩ := hrel
    rename World => wr
    by_cases hlt : k < z
    · have hlt' : (k : Int) < (z : Int) := Int.ofNat_lt.2 hlt
      obtain ⟨sh, hsh⟩ : ∃ sh, sh = 8 * (z - 1 - k) := ⟨_, rfl⟩
      obtain ⟨x, hx⟩ : ∃ x, x = byteH n z k := ⟨_, rfl⟩
      have e0 : (8 : Int) * ((z : Int) - 1 - (k : Int)) = (sh : Nat) := by omega
      have e1 : ((z : Int) - 1 - (k : Int)) = ((z - 1 - k : Nat) : Int) := by omega
      have e5 : IntKind.u8.wrap ((n : Int) / 2 ^ sh) = (x : Nat) := by
        have e : (n : Int) / 2 ^ sh = ((n / 256 ^ (z - 1 - k) : Nat) : Int) := by
          rw [hsh, Int.natCast_ediv, Int.natCast_pow, Int.pow_mul]
          rfl
        rw [e, hx]
        unfold byteH
        generalize n / 256 ^ (z - 1 - k) = y
        rw [IntKind.wrap_u8]
        omega
      have s2 : (sh : Int) < 64 := by omega
      have g2 := hR.1 k hlt
      have gf := hR.2.1 k
      simp only [Nat.lt_irrefl, if_false] at g2
      have HL : Hid (RowK .u8 (wr.setCell ⟨w.heap.size, k, none⟩ (.int .u8 (x : Nat))) w.heap.size z (fun j => if j < k + 1 then byteH n z j else 0) ∧ Below w.heap.size w (wr.setCell ⟨w.heap.size, k, none⟩ (.int .u8 (x : Nat)))) := by
        refine ⟨hR.set hlt (by simp [hx]) fun j _ hj => ?_, hB.setCell (p := ⟨w.heap.size, k, none⟩) (Nat.le_refl _) _⟩
        by_cases c : j < k
        · rw [if_pos c, if_pos (by omega)]
        · rw [if_neg c, if_neg (by omega)]
      clear hR hB hsh hx e1
      go_wp2_with fail
      go_roundw
      case rel => exact ⟨k + 1, by omega, by go_num, HL.out.1, HL.out.2⟩
      case measure => simp [intOf]; omega
    · obtain rfl : k = z := by omega
      have hR' : RowK .u8 wr w.heap.size k (byteH n k) := ⟨fun j hj => by have e := hR.1 j hj; simp only [hj, if_true] at e; exact e, hR.2⟩
      have hcv := num_text wr w.heap.size n k k hR'
      have hnl : ¬ ((k : Int) < (k : Int)) := Int.lt_irrefl _
      have HB : Hid (Below w.heap.size w wr) := hB
      clear hR hR' hB
      go_wp2_with fail
      go_ret
      exact ⟨rfl, HB.out⟩
def tagB (s : ByteArray) : Bool := decide (1 ≤ s.size ∧ s.size ≤ 40)
theorem isTag_any (s : ByteArray) (w : World) : Calls Tryd.prog 54 #[.string s] w fun e w' => e = .returned (.bool (tagB s)) ∧ w' = w := by
  unfold tagB
  obtain ⟨n, hn⟩ : ∃ n, n = s.size := ⟨_, rfl⟩
  by_cases h1 : 1 ≤ s.size
  · have h1' : ¬ ((s.size : Int) < 1) := by omega
    have h1'' : (1 : Int) ≤ (s.size : Int) := by omega
    by_cases h2 : s.size ≤ 40
    · have h2' : (s.size : Int) ≤ 40 := by omega
      have hd : decide (1 ≤ s.size ∧ s.size ≤ 40) = true := decide_eq_true ⟨h1, h2⟩
      rw [hd]
      clear hd h1 h2 hn
      go_enter Tryd.func54, Tryd.ntmps54
      go_wp2
      go_ret
      exact ⟨rfl, rfl⟩
    · have h2' : ¬ ((s.size : Int) ≤ 40) := by omega
      have hd : decide (1 ≤ s.size ∧ s.size ≤ 40) = false := decide_eq_false (by omega)
      rw [hd]
      clear hd h1 h2 hn
      go_enter Tryd.func54, Tryd.ntmps54
      go_wp2
      go_ret
      exact ⟨rfl, rfl⟩
  · have h1' : ¬ ((1 : Int) ≤ (s.size : Int)) := by omega
    have hd : decide (1 ≤ s.size ∧ s.size ≤ 40) = false := decide_eq_false (by omega)
    rw [hd]
    clear hd h1 hn
    go_enter Tryd.func54, Tryd.ntmps54
    go_wp2
    go_ret
    exact ⟨rfl, rfl⟩
end Go.Proofs.YtchphekaonnfeaaDoor

namespace Go.Proofs.YtchphekaonnfeaaDoor
open Go Go.RowKit Go.Lib

/-- Texts that lie behind an address. -/
def Strs (w : World) (a : Option Addr) (l : List ByteArray) : Prop :=
  ∀ j s, l[j]? = some s → ∃ p o, a = some ⟨p, o, none⟩ ∧ w.cell? ⟨p, o + j, none⟩ = some (.string s) ∧ p < w.heap.size
theorem Strs.call {w w' : World} {a : Option Addr} {l : List ByteArray} (h : Strs w a l) (hb : Below w.heap.size w w') : Strs w' a l := fun j s hj => by
  obtain ⟨p, o, h1, h2, h3⟩ := h j s hj
  exact ⟨p, o, h1, (hb.cell (p := ⟨p, o + j, none⟩) h3).trans h2, Nat.lt_of_lt_of_le h3 hb.size⟩
theorem Strs.get {w : World} {a : Option Addr} {l : List ByteArray} (h : Strs w a l) {k : Nat} (hk : k < l.length) : ∃ p o, a = some ⟨p, o, none⟩ ∧ w.cell? ⟨p, o + k, none⟩ = some (.string (l[k]'hk)) ∧ p < w.heap.size :=
  h k _ (List.getElem?_eq_getElem hk)

def one (x : UInt8) : ByteArray := ⟨#[x]⟩
end Go.Proofs.YtchphekaonnfeaaDoor

namespace Go.Proofs.YtchphekaonnfeaaDoor
open Go.RowKit

end Go.Proofs.YtchphekaonnfeaaDoor

namespace Go.Proofs.YtchphekaonnfeaaDoor
open Go.RowKit

end Go.Proofs.YtchphekaonnfeaaDoor

namespace Go.Proofs.YtchphekaonnfeaaDoor
open Go.RowKit

end Go.Proofs.YtchphekaonnfeaaDoor

namespace Go.Proofs.YtchphekaonnfeaaDoor
open Go.RowKit

def put8 (w : World) (p : Nat) (r : E8) : World := ((((((((w.setCell ⟨p, 0, none⟩ (.int .i64 (r.a : Nat))).setCell ⟨p, 1, none⟩ (.int .i64 (r.b : Nat))).setCell ⟨p, 2, none⟩ (.int .i64 (r.c : Nat))).setCell ⟨p, 3, none⟩ (.int .i64 (r.d : Nat))).setCell ⟨p, 4, none⟩ (.int .i64 (r.e : Nat))).setCell ⟨p, 5, none⟩ (.int .i64 (r.f : Nat))).setCell ⟨p, 6, none⟩ (.int .i64 (r.g : Nat))).setCell ⟨p, 7, none⟩ (.int .i64 (r.h : Nat)))
def ovr (f : Nat → Nat) (r : E8) (k j : Nat) : Nat := if j < k then r.get j else f j
theorem RowK.step {w : World} {p k v : Nat} {f : Nat → Nat} {r : E8} (h : RowK .i64 w p 8 (ovr f r k)) (hk : k < 8) (hv : v = r.get k) : RowK .i64 (w.setCell ⟨p, k, none⟩ (.int .i64 (v : Nat))) p 8 (ovr f r (k + 1)) :=
  h.set hk (by rw [hv]; unfold ovr; rw [if_pos (Nat.lt_succ_self k)]) (fun j _ hne => by
    unfold ovr
    by_cases c : j < k
    · rw [if_pos c, if_pos (Nat.lt_succ_of_lt c)]
    · rw [if_neg c, if_neg (by omega)])
theorem RowK.put8 {w : World} {p : Nat} {f : Nat → Nat} {r : E8} (h : RowK .i64 w p 8 f) : RowK .i64 (put8 w p r) p 8 r.get := by
  have h0 : RowK .i64 w p 8 (ovr f r 0) := ⟨fun j hj => by rw [h.1 j hj]; unfold ovr; rw [if_neg (Nat.not_lt_zero j)], h.2⟩
  have h8 := (((((((h0.step (v := r.a) (by decide) rfl).step (v := r.b) (by decide) rfl).step (v := r.c) (by decide) rfl).step (v := r.d) (by decide) rfl).step (v := r.e) (by decide) rfl).step (v := r.f) (by decide) rfl).step (v := r.g) (by decide) rfl).step (v := r.h) (by decide) rfl
  exact ⟨fun j hj => (h8.1 j hj).trans (by unfold ovr; rw [if_pos hj]), h8.2⟩
theorem RowK.put8o {K : IntKind} {w : World} {p q n : Nat} {f : Nat → Nat} {r : E8} (h : RowK K w q n f) (hne : p ≠ q) : RowK K (Go.Proofs.YtchphekaonnfeaaDoor.put8 w p r) q n f :=
  (((((((h.other hne).other hne).other hne).other hne).other hne).other hne).other hne).other hne
theorem IntsAt.other {w : World} {p q o n k : Nat} {v : Value} {f : Nat → Nat} (h : IntsAt w q o n f) (hne : p ≠ q) : IntsAt (w.setCell ⟨p, k, none⟩ v) q o n f :=
  ⟨fun j hj => by rw [World.cell?_setCell_other _ _ _ _ (by intro c; injection c with c1 _ _; exact hne c1)]; exact h.1 j hj, by rw [World.size_setCell]; exact h.2⟩
theorem IntsAt.put8 {w : World} {p q o n : Nat} {f : Nat → Nat} {r : E8} (h : IntsAt w q o n f) (hne : p ≠ q) : IntsAt (Go.Proofs.YtchphekaonnfeaaDoor.put8 w p r) q o n f :=
  (((((((h.other hne).other hne).other hne).other hne).other hne).other hne).other hne).other hne
theorem below_put8 {B : Nat} {a w : World} {p : Nat} {r : E8} (h : Below B a w) (hp : B ≤ p) : Below B a (put8 w p r) :=
  Below.setCell (p := ⟨p, 7, none⟩) (Below.setCell (p := ⟨p, 6, none⟩) (Below.setCell (p := ⟨p, 5, none⟩) (Below.setCell (p := ⟨p, 4, none⟩) (Below.setCell (p := ⟨p, 3, none⟩) (Below.setCell (p := ⟨p, 2, none⟩) (Below.setCell (p := ⟨p, 1, none⟩) (Below.setCell (p := ⟨p, 0, none⟩) h hp _) hp _) hp _) hp _) hp _) hp _) hp _) hp _
theorem RowK.call {K : IntKind} {W w1 : World} {p n : Nat} {f : Nat → Nat} (h : RowK K W p n f) (hb : Below W.heap.size W w1) : RowK K w1 p n f :=
  ⟨fun j hj => (hb.cell (p := ⟨p, j, none⟩) h.2.2).trans (h.1 j hj), fun o => (hb.frozen (p := ⟨p, o, none⟩) h.2.2).trans (h.2.1 o), Nat.lt_of_lt_of_le h.2.2 hb.size⟩
/-- What stays while the blocks are gone through. -/
def SB (w wr : World) (p gl gk M : Nat) (T : Nat → Nat) (x : E8) : Prop := RowK .i64 wr p 8 x.get ∧ IntsAt wr gl 0 M (word4 T) ∧ IntsAt wr gk 0 64 cube ∧ Below w.heap.size w wr ∧ w.heap.size ≤ p ∧ p ≠ gl ∧ p ≠ gk
theorem SB.call {w W w1 : World} {p gl gk M : Nat} {T : Nat → Nat} {x : E8} (h : SB w W p gl gk M T x) (hb : Below W.heap.size W w1) : SB w w1 p gl gk M T x :=
  ⟨h.1.call hb, h.2.1.call hb, h.2.2.1.call hb, below_call0' h.2.2.2.1 hb, h.2.2.2.2⟩
theorem SB.put {w wr : World} {p gl gk M q : Nat} {T : Nat → Nat} {x r : E8} (h : SB w wr p gl gk M T x) (h1 : q ≠ p) (h2 : q ≠ gl) (h3 : q ≠ gk) (h4 : w.heap.size ≤ q) : SB w (put8 wr q r) p gl gk M T x :=
  ⟨h.1.put8o h1, h.2.1.put8 h2, h.2.2.1.put8 h3, below_put8 h.2.2.2.1 h4, h.2.2.2.2⟩
def SY (w wr : World) (p gl gk M : Nat) (T : Nat → Nat) (x : E8) (py gw : Nat) (b : Nat → Nat) (t : Nat) : Prop := SB w wr p gl gk M T x ∧ RowK .i64 wr py 8 (rounds b x t).get ∧ IntsAt wr gw 0 64 (wAt b) ∧ (py ≠ p ∧ py ≠ gl ∧ py ≠ gk ∧ py ≠ gw ∧ w.heap.size ≤ py)
theorem SY.drew {w wr : World} {p gl gk M py gw t : Nat} {T b : Nat → Nat} {x : E8} (h : SY w wr p gl gk M T x py gw b t) : SY w wr.drew p gl gk M T x py gw b t := ⟨⟨h.1.1, h.1.2.1, h.1.2.2.1, h.1.2.2.2.1.drew, h.1.2.2.2.2⟩, h.2⟩
theorem SY.call {w W w1 : World} {p gl gk M py gw t : Nat} {T b : Nat → Nat} {x : E8} (h : SY w W p gl gk M T x py gw b t) (hb : Below W.heap.size W w1) : SY w w1 p gl gk M T x py gw b t := ⟨h.1.call hb, h.2.1.call hb, h.2.2.1.call hb, h.2.2.2⟩
theorem SY.next {w wr : World} {p gl gk M py gw t : Nat} {T b : Nat → Nat} {x : E8} (h : SY w wr p gl gk M T x py gw b t) : SY w (put8 wr py (rounds b x (t + 1))) p gl gk M T x py gw b (t + 1) :=
  ⟨h.1.put h.2.2.2.1 h.2.2.2.2.1 h.2.2.2.2.2.1 h.2.2.2.2.2.2.2, h.2.1.put8, h.2.2.1.put8 h.2.2.2.2.2.2.1, h.2.2.2⟩

theorem row_cells {wr : World} {py : Nat} {f : Nat → Nat} {ya yb yc yd ye yf yg yh : Nat} (h : RowK .i64 wr py 8 f) (e : f = (⟨ya, yb, yc, yd, ye, yf, yg, yh⟩ : E8).get) : (wr.cell? ⟨py, 0, none⟩ = some (.int .i64 (ya : Nat)) ∧ wr.cell? ⟨py, 1, none⟩ = some (.int .i64 (yb : Nat)) ∧ wr.cell? ⟨py, 2, none⟩ = some (.int .i64 (yc : Nat)) ∧ wr.cell? ⟨py, 3, none⟩ = some (.int .i64 (yd : Nat)) ∧ wr.cell? ⟨py, 4, none⟩ = some (.int .i64 (ye : Nat)) ∧ wr.cell? ⟨py, 5, none⟩ = some (.int .i64 (yf : Nat)) ∧ wr.cell? ⟨py, 6, none⟩ = some (.int .i64 (yg : Nat)) ∧ wr.cell? ⟨py, 7, none⟩ = some (.int .i64 (yh : Nat))) ∧ (wr.frozen? ⟨py, 0, none⟩ = false ∧ wr.frozen? ⟨py, 1, none⟩ = false ∧ wr.frozen? ⟨py, 2, none⟩ = false ∧ wr.frozen? ⟨py, 3, none⟩ = false ∧ wr.frozen? ⟨py, 4, none⟩ = false ∧ wr.frozen? ⟨py, 5, none⟩ = false ∧ wr.frozen? ⟨py, 6, none⟩ = false ∧ wr.frozen? ⟨py, 7, none⟩ = false) ∧ py < wr.heap.size := by
  subst e
  exact ⟨⟨h.1 0 (by decide), h.1 1 (by decide), h.1 2 (by decide), h.1 3 (by decide), h.1 4 (by decide), h.1 5 (by decide), h.1 6 (by decide), h.1 7 (by decide)⟩, ⟨h.2.1 0, h.2.1 1, h.2.1 2, h.2.1 3, h.2.1 4, h.2.1 5, h.2.1 6, h.2.1 7⟩, h.2.2⟩
theorem SY.facts {w wr : World} {p gl gk M py gw t : Nat} {T b : Nat → Nat} {x : E8} {ya yb yc yd ye yf yg yh kc vw : Nat} (h : SY w wr p gl gk M T x py gw b t) (ht : t < 64) (e : rounds b x t = ⟨ya, yb, yc, yd, ye, yf, yg, yh⟩) (hk : kc = cube t) (hv : vw = wAt b t) : (wr.cell? ⟨py, 0, none⟩ = some (.int .i64 (ya : Nat)) ∧ wr.cell? ⟨py, 1, none⟩ = some (.int .i64 (yb : Nat)) ∧ wr.cell? ⟨py, 2, none⟩ = some (.int .i64 (yc : Nat)) ∧ wr.cell? ⟨py, 3, none⟩ = some (.int .i64 (yd : Nat)) ∧ wr.cell? ⟨py, 4, none⟩ = some (.int .i64 (ye : Nat)) ∧ wr.cell? ⟨py, 5, none⟩ = some (.int .i64 (yf : Nat)) ∧ wr.cell? ⟨py, 6, none⟩ = some (.int .i64 (yg : Nat)) ∧ wr.cell? ⟨py, 7, none⟩ = some (.int .i64 (yh : Nat))) ∧ wr.cell? ⟨gk, t, none⟩ = some (.int .i64 (kc : Nat)) ∧ wr.cell? ⟨gw, t, none⟩ = some (.int .i64 (vw : Nat)) ∧ (wr.frozen? ⟨py, 0, none⟩ = false ∧ wr.frozen? ⟨py, 1, none⟩ = false ∧ wr.frozen? ⟨py, 2, none⟩ = false ∧ wr.frozen? ⟨py, 3, none⟩ = false ∧ wr.frozen? ⟨py, 4, none⟩ = false ∧ wr.frozen? ⟨py, 5, none⟩ = false ∧ wr.frozen? ⟨py, 6, none⟩ = false ∧ wr.frozen? ⟨py, 7, none⟩ = false) ∧ py < wr.heap.size := by
  have h1 := row_cells h.2.1 (by rw [e])
  have h2 := h.1.2.2.1.1 t ht
  have h3 := h.2.2.1.1 t ht
  rw [Nat.zero_add, ← hk] at h2
  rw [Nat.zero_add, ← hv] at h3
  exact ⟨h1.1, h2, h3, h1.2⟩
theorem SY.done {w wr : World} {p gl gk M py gw t : Nat} {T b : Nat → Nat} {x r : E8} (h : SY w wr p gl gk M T x py gw b t) : SB w (put8 wr p r) p gl gk M T r :=
  ⟨h.1.1.put8, h.1.2.1.put8 h.1.2.2.2.2.2.1, h.1.2.2.1.put8 h.1.2.2.2.2.2.2, below_put8 h.1.2.2.2.1 h.1.2.2.2.2.1, h.1.2.2.2.2⟩
def fin (ws : Nat → Nat) (J : Nat) : Nat := ws (J / 4) / 256 ^ (3 - J % 4) % 256
def gO (ws : Nat → Nat) (k m J : Nat) : Nat := if J / 4 < k ∨ (J / 4 = k ∧ 3 - J % 4 < m) then fin ws J else 0
theorem gO_at (ws : Nat → Nat) (k m : Nat) (h : m < 4) : gO ws k (m + 1) (4 * k + (3 - m)) = ws k / 256 ^ m % 256 := by
  have e1 : (4 * k + (3 - m)) / 4 = k := by omega
  have e2 : 3 - (4 * k + (3 - m)) % 4 = m := by omega
  unfold gO fin
  rw [e1, e2, if_pos (Or.inr ⟨rfl, Nat.lt_succ_self m⟩)]
theorem gO_else (ws : Nat → Nat) (k m J : Nat) (h : J ≠ 4 * k + (3 - m)) (hm : m < 4) : gO ws k m J = gO ws k (m + 1) J := by
  unfold gO
  by_cases c : J / 4 < k ∨ (J / 4 = k ∧ 3 - J % 4 < m)
  · rw [if_pos c, if_pos (by omega)]
  · rw [if_neg c, if_neg (by omega)]
def SO (w wv : World) (po ps : Nat) (ws : Nat → Nat) (k m : Nat) : Prop := RowK .u8 wv po 32 (gO ws k m) ∧ IntsAt wv ps 0 8 ws ∧ Below w.heap.size w wv ∧ po ≠ ps ∧ w.heap.size ≤ po
theorem SO.put {w wv : World} {po ps k m : Nat} {ws : Nat → Nat} (h : SO w wv po ps ws k m) (hk : k < 8) (hm : m < 4) {J r : Nat} (hJ : J = 4 * k + (3 - m)) (hr : r = ws k / 256 ^ m % 256) : SO w (wv.setCell ⟨po, J, none⟩ (.int .u8 (r : Nat))) po ps ws k (m + 1) := by
  subst hJ
  exact ⟨h.1.set (by omega) (by rw [hr, gO_at ws k m hm]) (fun j _ hne => (gO_else ws k m j hne hm).symm), h.2.1.other h.2.2.2.1, h.2.2.1.setCell (p := ⟨po, 4 * k + (3 - m), none⟩) h.2.2.2.2 _, h.2.2.2⟩
end Go.Proofs.YtchphekaonnfeaaDoor

namespace Go.Proofs.YtchphekaonnfeaaDoor
open Go.RowKit

end Go.Proofs.YtchphekaonnfeaaDoor

namespace Go.Proofs.YtchphekaonnfeaaDoor
open Go.RowKit

end Go.Proofs.YtchphekaonnfeaaDoor

namespace Go.Proofs.YtchphekaonnfeaaDoor
open Go.RowKit

theorem word4_congr {b b' : Nat → Nat} (h : ∀ j, j < 64 → b j = b' j) (t : Nat) (ht : t < 16) : word4 b t = word4 b' t := by
  unfold word4
  rw [h (4 * t) (by omega), h (4 * t + 1) (by omega), h (4 * t + 2) (by omega), h (4 * t + 3) (by omega)]
theorem wl_congr {b b' : Nat → Nat} (h : ∀ j, j < 64 → b j = b' j) (t : Nat) : wl b t = wl b' t := by
  induction t with
  | zero => rfl
  | succ t ih =>
    unfold wl
    rw [ih]
    by_cases c : t < 16
    · simp only [if_pos c, word4_congr h t c]
    · simp only [if_neg c]
theorem wAt_congr {b b' : Nat → Nat} (h : ∀ j, j < 64 → b j = b' j) (t : Nat) : wAt b t = wAt b' t := by unfold wAt; rw [wl_congr h]
theorem rounds_congr {b b' : Nat → Nat} (h : ∀ j, j < 64 → b j = b' j) (x : E8) (t : Nat) : rounds b x t = rounds b' x t := by
  induction t with
  | zero => rfl
  | succ t ih => unfold rounds; rw [ih, wAt_congr h]
theorem hashAt_congr {T T' : Nat → Nat} (n : Nat) (h : ∀ j, j < 64 * n → T j = T' j) : hashAt T n = hashAt T' n := by
  induction n with
  | zero => rfl
  | succ n ih =>
    unfold hashAt
    rw [ih (fun j hj => h j (by omega))]
    unfold mixN
    rw [rounds_congr (b := fun j => T (64 * n + j)) (b' := fun j => T' (64 * n + j)) (fun j hj => h _ (by omega))]
theorem HashT.text {w : World} {g len : Nat} {T T' : Nat → Nat} (h : HashT w g T len) (e : ∀ j, j < len → T j = T' j) : HashT w g T' len := by
  obtain ⟨b, h1, h2⟩ := h
  refine ⟨b, fun j hj => (h1 j hj).trans (e _ (by omega)), ?_⟩
  rw [← hashAt_congr (T := T) (T' := T') (len / 64) (fun j hj => e j (by omega))]
  exact h2
end Go.Proofs.YtchphekaonnfeaaDoor

namespace Go.Proofs.YtchphekaonnfeaaDoor
open Go.RowKit
def hashL (x : E8) (b : Nat → Nat) (n : Nat) : List Value := [.int .u32 (x.a : Nat), .int .u32 (x.b : Nat), .int .u32 (x.c : Nat), .int .u32 (x.d : Nat), .int .u32 (x.e : Nat), .int .u32 (x.f : Nat), .int .u32 (x.g : Nat), .int .u32 (x.h : Nat)] ++ (List.range 64).map (fun j => Value.int .u8 (b j : Nat)) ++ [.int .i64 (n : Nat)]
theorem hashL_length (x : E8) (b : Nat → Nat) (n : Nat) : (hashL x b n).length = 73 := by simp [hashL]
theorem hashL_get (x : E8) (b : Nat → Nat) (n : Nat) : (∀ j, j < 8 → (hashL x b n)[j]? = some (.int .u32 (x.get j : Nat))) ∧ (∀ j, j < 64 → (hashL x b n)[8 + j]? = some (.int .u8 (b j : Nat))) ∧ (hashL x b n)[72]? = some (.int .i64 (n : Nat)) := by
  refine ⟨fun j hj => ?_, fun j hj => ?_, by simp [hashL]⟩
  · match j, hj with
    | 0, _ | 1, _ | 2, _ | 3, _ | 4, _ | 5, _ | 6, _ | 7, _ => rfl
    | n + 8, h => exact absurd h (by omega)
  · unfold hashL
    rw [List.getElem?_append_left (by simp; omega), List.getElem?_append_right (by simp), List.getElem?_map, List.getElem?_range (by simp; omega)]
    simp
theorem hashL_one (x : E8) (b : Nat → Nat) (n : Nat) : ∀ v ∈ hashL x b n, v.oneCell' = true := by
  intro v hv
  simp only [hashL, List.mem_append, List.mem_cons, List.not_mem_nil, or_false, List.mem_map] at hv
  rcases hv with ((rfl | rfl | rfl | rfl | rfl | rfl | rfl | rfl) | ⟨j, _, rfl⟩) | rfl <;> rfl
theorem HashW.range {w : World} {g n : Nat} {x : E8} {b : Nat → Nat} (h : HashW w g x b n) : w.rangeAt g 0 (hashL x b n) := by
  obtain ⟨h1, h2, h3, _, _⟩ := h
  have e := hashL_get x b n
  intro j v hv
  have hj : j < 73 := by
    rcases Nat.lt_or_ge j 73 with c | c
    · exact c
    · rw [List.getElem?_eq_none (by rw [hashL_length]; exact c)] at hv; cases hv
  rw [Nat.zero_add]
  rcases Nat.lt_or_ge j 8 with c | c
  · rw [h1 j c, ← e.1 j c]; exact hv
  · rcases Nat.lt_or_ge j 72 with d | d
    · obtain ⟨i, rfl⟩ : ∃ i, j = 8 + i := ⟨j - 8, by omega⟩
      rw [h2 i (by omega), ← e.2.1 i (by omega)]; exact hv
    · obtain rfl : j = 72 := by omega
      rw [h3, ← e.2.2]; exact hv
theorem HashW.made (w : World) (x : E8) (b : Nat → Nat) (n : Nat) (t : TypeId) : HashW (w.alloc (.cells (hashL x b n).toArray t)) w.heap.size x b n := by
  have e := hashL_get x b n
  refine ⟨fun j hj => ?_, fun j hj => ?_, ?_, fun o => by simp, by simp⟩
  · rw [World.cell?_alloc_new, List.getElem?_toArray]; exact e.1 j hj
  · rw [World.cell?_alloc_new, List.getElem?_toArray]; exact e.2.1 j hj
  · rw [World.cell?_alloc_new, List.getElem?_toArray]; exact e.2.2
theorem store_hash {ops : Array Oper} {rest : List Oper} {o : Oper} {a : Act} {w : World} {c : Array Value} {Q : Exit → Act → World → Prop} (x y : Operand) (cs : List Value) (hgd : o.guard = none) (ho : o.op = .store 133 x y)
    (hx' : ∃ p, a.eval x = .pointer (some ⟨p, 0, none⟩) ∧ p = w.heap.size) (hy : a.eval y = .agg cs.toArray) (hc : c.size = 73) (hl : cs.length = 73) (h1 : ∀ v ∈ cs, v.oneCell' = true)
    (h : wpList Tryd.prog ops Q rest (a.put o.dst undef) (w.alloc (.cells cs.toArray 133))) : wpList Tryd.prog ops Q (o :: rest) a (w.alloc (.cells c 133)) :=
  wpList_plain hgd fun _ hK => by
    obtain ⟨p, hx, rfl⟩ := hx'
    unfold Oper.wp execOp
    simp only [ho, hx, hy, Instr.storeAt, Instr.sureAddr, Sem.run_bind, Sem.run_pure, Result.andThen_ok, run_storeVar_new (P := Tryd.prog) w 133 c cs.toArray (by rw [List.size_toArray, hl]; kernel_rfl) (by rw [hc, List.size_toArray, hl]) (all_oneCell_toArray h1)]
    exact hK _ _ h
end Go.Proofs.YtchphekaonnfeaaDoor

namespace Go.Proofs.YtchphekaonnfeaaDoor
open Go.RowKit
set_option maxRecDepth 100000 in
theorem hash_zero : ∃ zs : Array Value, zs.size = 73 ∧ ∀ w, (zeroValue 133).run Tryd.prog w = .ok (.agg zs) w :=
  ⟨#[.int .u32 0, .int .u32 0, .int .u32 0, .int .u32 0, .int .u32 0, .int .u32 0, .int .u32 0, .int .u32 0, .int .u8 0, .int .u8 0, .int .u8 0, .int .u8 0, .int .u8 0, .int .u8 0, .int .u8 0, .int .u8 0, .int .u8 0, .int .u8 0, .int .u8 0, .int .u8 0, .int .u8 0, .int .u8 0, .int .u8 0, .int .u8 0, .int .u8 0, .int .u8 0, .int .u8 0, .int .u8 0, .int .u8 0, .int .u8 0, .int .u8 0, .int .u8 0, .int .u8 0, .int .u8 0, .int .u8 0, .int .u8 0, .int .u8 0, .int .u8 0, .int .u8 0, .int .u8 0, .int .u8 0, .int .u8 0, .int .u8 0, .int .u8 0, .int .u8 0, .int .u8 0, .int .u8 0, .int .u8 0, .int .u8 0, .int .u8 0, .int .u8 0, .int .u8 0, .int .u8 0, .int .u8 0, .int .u8 0, .int .u8 0, .int .u8 0, .int .u8 0, .int .u8 0, .int .u8 0, .int .u8 0, .int .u8 0, .int .u8 0, .int .u8 0, .int .u8 0, .int .u8 0, .int .u8 0, .int .u8 0, .int .u8 0, .int .u8 0, .int .u8 0, .int .u8 0, .int .i64 0], by kernel_rfl, fun _ => by kernel_rfl⟩
set_option maxRecDepth 100000 in
set_option maxHeartbeats 1000000 in
theorem hsum_any (g : Nat) (s : ByteArray) (hs : s.size < 1152921504606846976) (w : World) (hH : HashT w g (padT s) s.size) (hC : Cube w) (hz : 6 < w.heap.size) : Calls Tryd.prog 78 #[.pointer (some ⟨g, 0, none⟩)] w fun e w' => e = .returned (.string (shaS s)) ∧ Below w.heap.size w w' := by
  have K : Hid _ := fun (g : Nat) (w : World) (hH : HashT w g (padT s) s.size) (hC : Cube w) (hg : 6 < g) => finish_any g (padT s) (padT_lt s) s.size _ _ rfl rfl hs (padT_padded s) w hH hC hg
  obtain ⟨b, hb, hw⟩ := hH
  have fz := hw.2.2.2.2
  have HR : Hid (w.rangeAt g 0 (hashL (hashAt (padT s) (s.size / 64)) b s.size)) := hw.range
  have HM : Hid (HashT (w.alloc (.cells (hashL (hashAt (padT s) (s.size / 64)) b s.size).toArray 133)) w.heap.size (padT s) s.size ∧ Cube (w.alloc (.cells (hashL (hashAt (padT s) (s.size / 64)) b s.size).toArray 133)) ∧ 6 < w.heap.size) := ⟨⟨b, hb, HashW.made _ _ _ _ _⟩, hC.alloc, hz⟩
  obtain ⟨cs, hcs⟩ : ∃ cs, cs = hashL (hashAt (padT s) (s.size / 64)) b s.size := ⟨_, rfl⟩
  rw [← hcs] at HR HM
  have hl : cs.length = 73 := by rw [hcs]; exact hashL_length _ _ _
  have h1 : Hid (∀ v ∈ cs, v.oneCell' = true) := by rw [hcs]; exact hashL_one _ _ _
  clear hw hC hz hb hs hcs
  obtain ⟨zs, hzs, hzv⟩ := hash_zero
  go_enter Tryd.func78, Tryd.ntmps78
  go_wp2_with (first | refine wpList_load_mid rfl 133 _ rfl g 0 rfl cs _ HR.out Tryd.underlying133 rfl (by rw [hl]; kernel_rfl) ?_ | refine store_hash _ _ cs rfl rfl ⟨_, rfl, rfl⟩ rfl hzs hl h1.out ?_)
  refine (K.out _ _ HM.out.1 HM.out.2.1 HM.out.2.2).mono ?_
  rintro e w1 ⟨rfl, hb1⟩
  have H1 : Hid (Below w.heap.size w w1) := (below_alloc0' (Below.refl _ _) _).trans hb1
  clear hb1
  go_wp2_with fail
  go_ret
  exact ⟨rfl, H1.out⟩
end Go.Proofs.YtchphekaonnfeaaDoor

namespace Go.Proofs.YtchphekaonnfeaaDoor
open Go.RowKit

theorem sb_append (a t : ByteArray) (j : Nat) : sb (a ++ t) j = if j < a.size then sb a j else sb t (j - a.size) := by
  have l : a.data.toList.length = a.size := (Lib.size_eq a).symm
  unfold sb
  have e : (a ++ t).data.toList = a.data.toList ++ t.data.toList := by simp [ByteArray.data_append]
  rw [e, List.map_append, List.getD_eq_getElem?_getD, List.getElem?_append, List.length_map, l]
  by_cases c : j < a.size
  · rw [if_pos c, if_pos c, ← List.getD_eq_getElem?_getD]
  · rw [if_neg c, if_neg c, ← List.getD_eq_getElem?_getD]
theorem padT_append (a t : ByteArray) : (∀ j, j < a.size → padT a j = padT (a ++ t) j) ∧ ∀ j, j < t.size → sb t j = padT (a ++ t) (a.size + j) := by
  have hz : (a ++ t).size = a.size + t.size := ByteArray.size_append
  refine ⟨fun j hj => ?_, fun j hj => ?_⟩
  · unfold padT
    rw [if_pos hj, if_pos (by omega), sb_append, if_pos hj]
  · unfold padT
    rw [if_pos (by omega), sb_append, if_neg (by omega), Nat.add_sub_cancel_left]
/-- A piece more. -/
theorem piece_any (g : Nat) (a t : ByteArray) (hs : a.size + t.size < 1152921504606846976) (w : World) (hH : HashT w g (padT a) a.size) (hC : Cube w) (hg : 6 < g) :
    Calls Tryd.prog 76 #[.pointer (some ⟨g, 0, none⟩), .string t] w fun e w' => e = .returned (.int .i64 0) ∧ HashT w' g (padT (a ++ t)) (a ++ t).size ∧ Cube w' ∧ Below g w w' := by
  have hz : (a ++ t).size = a.size + t.size := ByteArray.size_append
  have h := padT_append a t
  rw [hz]
  exact write_any g (padT (a ++ t)) (padT_lt _) a.size (a.size + t.size) t h.2 rfl (by omega) w (hH.text h.1) hC hg
end Go.Proofs.YtchphekaonnfeaaDoor

namespace Go.Proofs.YtchphekaonnfeaaDoor
open Go Go.RowKit Go.Lib

theorem ba_assoc (a b c : ByteArray) : a ++ b ++ c = a ++ (b ++ c) := ba_ext (by simp only [ba_append, List.append_assoc])
/-- Texts in blocks below B. -/
def StrsB (w : World) (B : Nat) (a : Option Addr) (l : List ByteArray) : Prop :=
  ∀ j s, l[j]? = some s → ∃ p o, a = some ⟨p, o, none⟩ ∧ w.cell? ⟨p, o + j, none⟩ = some (.string s) ∧ p < B
theorem Strs.below {w w' : World} {a : Option Addr} {l : List ByteArray} (h : Strs w a l) (hb : Below w.heap.size w w') : StrsB w' w.heap.size a l := fun j s hj => by
  obtain ⟨p, o, h1, h2, h3⟩ := h j s hj
  exact ⟨p, o, h1, (hb.cell (p := ⟨p, o + j, none⟩) h3).trans h2, h3⟩
/-- The method value h.Write. -/
def wrV (g : Nat) : Value := .func (.func 76) #[.pointer (some ⟨g, 0, none⟩)] #[]
set_option maxRecDepth 100000 in
set_option maxHeartbeats 4000000 in
theorem writeHashed_any (g : Nat) (f t : ByteArray) (a : Option Addr) (l : List ByteArray) (cap : Nat) (hb : f.size + (hashB t l).size < 1152921504606846976) (w : World) (hS : StrsB w g a l) (hH : HashT w g (padT f) f.size) (hC : Cube w) (hg : 6 < g) (hgw : g < w.heap.size) :
    Calls Tryd.prog 77 #[wrV g, .string t, .slice a l.length cap] w fun e w' => e = .returned (.tuple #[]) ∧ HashT w' g (padT (f ++ hashB t l)) (f ++ hashB t l).size ∧ Cube w' ∧ Below g w w' := by
  unfold wrV
  have hts : t.size < 1152921504606846976 := by rw [hashB_size] at hb; omega
  have htn : (t.size : Int) < 1152921504606846976 := by omega
  obtain ⟨n, hn⟩ : ∃ n, n = l.length := ⟨_, rfl⟩
  rw [← hn]
  have hn60 : (n : Int) < 1152921504606846976 := by rw [hashB_size] at hb; omega
  have HS : Hid (StrsB w g a l ∧ True ∧ f.size + (hashB t l).size < 1152921504606846976 ∧ 6 < g ∧ n = l.length ∧ g < w.heap.size ∧ True) := ⟨hS, trivial, hb, hg, hn, hgw, trivial⟩
  have HH : Hid (HashT w g (padT f) f.size ∧ Cube w) := ⟨hH, hC⟩
  have K1 : Hid _ := fun (w : World) => highFirst_any t.size 1 (by omega) (by decide) (by decide) w
  clear hS hH hC hg hn hb hgw
  go_enter Tryd.func77, Tryd.ntmps77
  go_wp2_with fail
  refine (K1.out _).mono ?_
  rintro e w1 ⟨rfl, hb1⟩
  have H1 : Hid (HashT w1 g (padT f) f.size ∧ Cube w1 ∧ Below g w w1) := ⟨HH.out.1.call hb1, HH.out.2.call hb1, hb1.mono (Nat.le_of_lt HS.out.2.2.2.2.2.1)⟩
  clear hb1 HH K1
  have P1 : Hid _ := fun (w : World) (hH : HashT w g (padT f) f.size) (hC : Cube w) => piece_any g f (ofL (nbyL t.size 1)) (by have h1 := HS.out.2.2.1; rw [hashB_size] at h1; rw [ofL_size, nbyL_length]; omega) w hH hC HS.out.2.2.2.1
  have P2 : Hid _ := fun (w : World) (hH : HashT w g (padT (f ++ ofL (nbyL t.size 1))) (f ++ ofL (nbyL t.size 1)).size) (hC : Cube w) => piece_any g (f ++ ofL (nbyL t.size 1)) t (by have h1 := HS.out.2.2.1; rw [hashB_size] at h1; rw [ByteArray.size_append, ofL_size, nbyL_length]; omega) w hH hC HS.out.2.2.2.1
  have HP : Hid ((f ++ ofL (nbyL t.size 1)) ++ t = f ++ hashB t (l.take 0)) := by rw [← hashB_zero t l]; exact ba_assoc _ _ _
  rw [HP.out] at P2
  obtain ⟨Y, hY⟩ : ∃ Y, Y = ofL (nbyL t.size 1) := ⟨_, rfl⟩
  rw [← hY] at P1 P2 ⊢
  clear HP hY
  go_wp2_with fail
  refine (P1.out _ H1.out.1 H1.out.2.1).mono ?_
  rintro e w2 ⟨rfl, hH2, hC2, hb2⟩
  have H2 : Hid (HashT w2 g (padT (f ++ Y)) (f ++ Y).size ∧ Cube w2 ∧ Below g w w2) := ⟨hH2, hC2, H1.out.2.2.trans hb2⟩
  clear hH2 hC2 hb2 H1 P1
  go_wp2_with fail
  refine (P2.out _ H2.out.1 H2.out.2.1).mono ?_
  rintro e w3 ⟨rfl, hH3, hC3, hb3⟩
  have H3 : Hid (HashT w3 g (padT (f ++ hashB t (l.take 0))) (f ++ hashB t (l.take 0)).size ∧ Cube w3 ∧ Below g w w3) := ⟨hH3, hC3, H2.out.2.2.trans hb3⟩
  clear hH3 hC3 hb3 H2 P2
  go_wp2_with fail
  go_loopw [18] (fun iv wr => ∃ i : Nat, i ≤ n ∧ iv = .int .i64 (i : Nat) ∧ HashT wr g (padT (f ++ hashB t (l.take i))) (f ++ hashB t (l.take i)).size ∧ Cube wr ∧ Below g w wr) (fun iv _ => n - (intOf iv).toNat)
  case atStart => exact ⟨0, Nat.zero_le _, rfl, H3.out⟩
  case round =>
    obtain ⟨i, hi, rfl, hR⟩ := hrel
    rename World => wr
    have HR : Hid (HashT wr g (padT (f ++ hashB t (l.take i))) (f ++ hashB t (l.take i)).size ∧ Cube wr ∧ Below g w wr) := hR
    clear hR H3
    by_cases hlt : i < n
    · have hil : i < l.length := by rw [← HS.out.2.2.2.2.1]; exact hlt
      obtain ⟨p, o, rfl, hc, hpg⟩ := HS.out.1 i _ (List.getElem?_eq_getElem hil)
      obtain ⟨s, hs⟩ : ∃ s, s = (l[i]'hil) := ⟨_, rfl⟩
      rw [← hs] at hc
      have hc' : wr.cell? ⟨p, o + i, none⟩ = some (.string s) := (HR.out.2.2.cell (p := ⟨p, o + i, none⟩) hpg).trans hc
      have hlt' : (i : Int) < (n : Int) := Int.ofNat_lt.2 hlt
      have e4 : f.size + ((hashB t (l.take i)).size + 4 + s.size) < 1152921504606846976 := by
        have h1 := hashB_take t l (i + 1)
        rw [← hashB_succ t hil, ← hs, ByteArray.size_append, ByteArray.size_append, ofL_size, nbyL_length] at h1
        have h2 := HS.out.2.2.1
        omega
      have HN : Hid ((f ++ hashB t (l.take i)) ++ ofL (nbyL s.size 4) ++ s = f ++ hashB t (l.take (i + 1))) := by
        rw [← hashB_succ t hil, ← hs, ba_assoc, ba_assoc, ba_assoc]; exact rfl
      obtain ⟨X, hX⟩ : ∃ X, X = f ++ hashB t (l.take i) := ⟨_, rfl⟩
      have hXs : X.size = f.size + (hashB t (l.take i)).size := by rw [hX, ByteArray.size_append]
      rw [← hX] at HR HN
      have KN3 : Hid _ := fun (w' : World) => highFirst_any s.size 4 (by omega) (by decide) (by decide) w'
      obtain ⟨Y, hY⟩ : ∃ Y, Y = ofL (nbyL s.size 4) := ⟨_, rfl⟩
      have hYs : Y.size = 4 := by rw [hY, ofL_size, nbyL_length]
      rw [← hY] at HN
      have KN4 : Hid (∀ w' : World, Calls Tryd.prog 81 #[.int .i64 (s.size : Nat), .int .i64 4] w' fun e w'' => e = .returned (.string Y) ∧ Below w'.heap.size w' w'') := by
        rw [hY]; exact KN3.out
      have P1 : Hid _ := fun (w : World) (hH : HashT w g (padT X) X.size) (hC : Cube w) => piece_any g X Y (by omega) w hH hC HS.out.2.2.2.1
      have P2 : Hid _ := fun (w : World) (hH : HashT w g (padT (X ++ Y)) (X ++ Y).size) (hC : Cube w) => piece_any g (X ++ Y) s (by rw [ByteArray.size_append]; omega) w hH hC HS.out.2.2.2.1
      rw [HN.out] at P2
      have sb : (s.size : Int) < 1152921504606846976 := by omega
      have hgr : g < wr.heap.size := Nat.lt_of_lt_of_le HS.out.2.2.2.2.2.1 HR.out.2.2.size
      clear hc hs hX hY KN3 hXs hYs e4 hpg
      go_wp2_with fail
      refine (KN4.out _).mono ?_
      rintro e w1 ⟨rfl, hb1⟩
      have H1 : Hid (HashT w1 g (padT X) X.size ∧ Cube w1 ∧ Below g w w1) := ⟨HR.out.1.call hb1, HR.out.2.1.call hb1, HR.out.2.2.trans (hb1.mono (Nat.le_of_lt hgr))⟩
      clear hb1 KN4 hc'
      go_wp2_with fail
      refine (P1.out _ H1.out.1 H1.out.2.1).mono ?_
      rintro e w2 ⟨rfl, hH2, hC2, hb2⟩
      have H2 : Hid (HashT w2 g (padT (X ++ Y)) (X ++ Y).size ∧ Cube w2 ∧ Below g w w2) := ⟨hH2, hC2, H1.out.2.2.trans hb2⟩
      clear hH2 hC2 hb2 H1 P1
      go_wp2_with fail
      refine (P2.out _ H2.out.1 H2.out.2.1).mono ?_
      rintro e w3 ⟨rfl, hH3, hC3, hb3⟩
      have H3 : Hid (HashT w3 g (padT (f ++ hashB t (l.take (i + 1)))) (f ++ hashB t (l.take (i + 1))).size ∧ Cube w3 ∧ Below g w w3) := ⟨hH3, hC3, H2.out.2.2.trans hb3⟩
      clear hH3 hC3 hb3 H2 P2
      go_wp2_with fail
      go_roundw
      case rel => first | exact ⟨i + 1, hlt, by go_num, H3.out⟩ | ((repeat apply Exists.intro); exact ⟨⟨i + 1, hlt, by go_num, H3.out⟩, rfl⟩)
      case measure => simp [intOf]; omega
    · obtain rfl : i = n := by omega
      have hnl : ¬ ((i : Int) < (i : Int)) := Int.lt_irrefl _
      have et : l.take i = l := by rw [HS.out.2.2.2.2.1]; exact List.take_of_length_le (Nat.le_refl _)
      rw [et] at HR
      clear hlt hi et
      go_wp2_with fail
      go_end0
      exact ⟨rfl, by have h := HR.out; rw [ByteArray.size_append] at h; exact h⟩
end Go.Proofs.YtchphekaonnfeaaDoor

namespace Go.Proofs.YtchphekaonnfeaaDoor
open Go Go.RowKit Go.Lib

set_option maxRecDepth 100000 in
set_option maxHeartbeats 4000000 in
theorem dsum_any (f t : ByteArray) (a : Option Addr) (l : List ByteArray) (cap : Nat) (hb : f.size + (hashB t l).size < 1152921504606846976) (w : World) (hS : Strs w a l) (hG : GlobD w) (hz : 6 < w.heap.size) :
    Calls Tryd.prog 71 #[.string f, .string t, .slice a l.length cap] w fun e w' => e = .returned (.string (shaS (f ++ hashB t l))) ∧ Below w.heap.size w w' := by
  have hmf : ∀ (fn : Fn) (first cap : Array Value) (w : World), (Instr.makeFunc fn first cap).run Tryd.prog w = .ok (.func fn first cap) w := fun _ _ _ _ => rfl
  have hsz : (f ++ hashB t l).size < 1152921504606846976 := by rw [ByteArray.size_append]; exact hb
  have K1 : Hid _ := fun (w : World) (h : GlobD w) => new_any w h (padT f)
  have K2 : Hid _ := fun (g : Nat) (w : World) (hH : HashT w g (padT f) 0) (hC : Cube w) (hg : 6 < g) => write_any g (padT f) (padT_lt f) 0 f.size f (fun j hj => by rw [Nat.zero_add]; unfold padT; rw [if_pos hj]) (Nat.zero_add _) (by omega) w hH hC hg
  have K3 : Hid _ := fun (g : Nat) (w : World) (hS : StrsB w g a l) (hH : HashT w g (padT f) f.size) (hC : Cube w) (hg : 6 < g) (hgw : g < w.heap.size) => writeHashed_any g f t a l cap hb w hS hH hC hg hgw
  have K4 : Hid _ := fun (g : Nat) (w : World) (hH : HashT w g (padT (f ++ hashB t l)) (f ++ hashB t l).size) (hC : Cube w) (hz : 6 < w.heap.size) => hsum_any g (f ++ hashB t l) hsz w hH hC hz
  have HG : Hid (GlobD w ∧ 6 < w.heap.size ∧ Strs w a l) := ⟨hG, hz, hS⟩
  obtain ⟨R, hR⟩ : ∃ R, R = f ++ hashB t l := ⟨_, rfl⟩
  rw [← hR] at K3 K4 ⊢
  unfold wrV at K3
  clear hG hz hb hsz hS hR
  go_enter Tryd.func71, Tryd.ntmps71
  go_wp2_with fail
  refine (K1.out _ HG.out.1).mono ?_
  rintro e w1 ⟨rfl, hH1, hB1⟩
  have H1 : Hid (HashT w1 w.heap.size (padT f) 0 ∧ Cube w1 ∧ Below w.heap.size w w1) := ⟨hH1, HG.out.1.2.2.call hB1, hB1⟩
  have H1s : Hid (w.heap.size < w1.heap.size) := by obtain ⟨b, _, hw⟩ := hH1; exact hw.2.2.2.2
  clear hH1 hB1
  go_wp2_with fail
  refine (K2.out _ _ H1.out.1 H1.out.2.1 HG.out.2.1).mono ?_
  rintro e w2 ⟨rfl, hH2, hC2, hB2⟩
  have H2 : Hid (HashT w2 w.heap.size (padT f) f.size ∧ Cube w2 ∧ Below w.heap.size w w2 ∧ w.heap.size < w2.heap.size) := ⟨hH2, hC2, H1.out.2.2.trans hB2, Nat.lt_of_lt_of_le H1s.out hB2.size⟩
  clear hH2 hC2 hB2 H1 H1s
  go_wp2_with fail
  refine (K3.out _ _ (HG.out.2.2.below H2.out.2.2.1) H2.out.1 H2.out.2.1 HG.out.2.1 H2.out.2.2.2).mono ?_
  rintro e w3 ⟨rfl, hH3, hC3, hB3⟩
  have H3 : Hid (HashT w3 w.heap.size (padT R) R.size ∧ Cube w3 ∧ Below w.heap.size w w3) := ⟨hH3, hC3, H2.out.2.2.1.trans hB3⟩
  clear hH3 hC3 hB3 H2
  go_wp2_with fail
  refine (K4.out _ _ H3.out.1 H3.out.2.1 (Nat.lt_of_lt_of_le HG.out.2.1 H3.out.2.2.size)).mono ?_
  rintro e w4 ⟨rfl, hB4⟩
  have H4 : Hid (Below w.heap.size w w4) := below_call0' H3.out.2.2 hB4
  clear hB4 H3
  go_wp2_with fail
  go_ret
  exact ⟨rfl, H4.out⟩
end Go.Proofs.YtchphekaonnfeaaDoor

namespace Go.Proofs.YtchphekaonnfeaaDoor
open Go Go.RowKit Go.Lib

end Go.Proofs.YtchphekaonnfeaaDoor

namespace Go.Proofs.YtchphekaonnfeaaDoor
open Go.RowKit
attribute [local go_sem] run_eq4

/-- The package's variable of the scalars' prime. -/
theorem has2_any (m a : Nat) (hm : m < R256) (ha : a < R256) (w : World) : Calls Tryd.prog 10 #[.agg #[.int .u64 (limb (m) 0 : Nat), .int .u64 (limb (m) 1 : Nat), .int .u64 (limb (m) 2 : Nat), .int .u64 (limb (m) 3 : Nat), .int .u64 (limb (R256 - (m)) 0 : Nat), .int .u64 (limb (R256 - (m)) 1 : Nat), .int .u64 (limb (R256 - (m)) 2 : Nat), .int .u64 (limb (R256 - (m)) 3 : Nat)], .agg #[.int .u64 (limb (a) 0 : Nat), .int .u64 (limb (a) 1 : Nat), .int .u64 (limb (a) 2 : Nat), .int .u64 (limb (a) 3 : Nat)]] w fun e w' => e = .returned (.bool (decide (a < m))) ∧ Below w.heap.size w w' := by
  obtain ⟨G, hG⟩ : ∃ G, G = R256 - m := ⟨_, rfl⟩
  rw [← hG]
  have K : Hid _ := less_ref a m ha hm
  clear hG ha hm
  go_enter Tryd.func10, Tryd.ntmps10
  go_wp2_with fail
  refine (K.out _).mono ?_
  rintro e w1 ⟨rfl, hb1⟩
  have hz1 := hb1.size
  try simp only [World.size_alloc] at hz1
  have W1 : Below w.heap.size w w1 := by ((repeat' (first | with_reducible exact Below.refl _ _ | with_reducible refine Below.setCell ?_ ?_ _ | with_reducible refine below_alloc0 ?_ _ | with_reducible refine below_drewN ?_ _ | with_reducible refine Below.drew ?_ | refine below_call0 ?_ (by assumption))) <;> (first | omega | (simp; done) | (simp; omega)))
  clear hb1 K
  go_wp2
  go_ret
  exact ⟨rfl, W1⟩
end Go.Proofs.YtchphekaonnfeaaDoor
