/- Several texts laid together. -/
import Derived.Test.YtjdfipfeclphkaaDoorMgA
import Derived.Test.YtjdfipfeclphkaaDoorRef4V
import Derived.BigQuiet
namespace Go.Proofs.YtjdfipfeclphkaaDoor
open Go Go.RowKit Go.Lib

theorem numL_get (n : Nat) : ∀ (z j : Nat), j < z → (numL n z)[j]? = some (UInt8.ofNat (n / 256 ^ (z - 1 - j)))
  | 0, j, h => absurd h (by omega)
  | z + 1, 0, _ => by rw [numL_cons]; rfl
  | z + 1, j + 1, h => by
    rw [numL_cons, List.getElem?_cons_succ, numL_get n z j (by omega)]
    rw [show z - 1 - j = z + 1 - 1 - (j + 1) by omega]
def byteH (n z j : Nat) : Nat := n / 256 ^ (z - 1 - j) % 256
theorem num_text (w : World) (g n z cap : Nat) (h : RowK .u8 w g z (byteH n z)) : (convert 73 9 (.slice (some ⟨g, 0, none⟩) z cap)).run Tryd.prog w = .ok (.string (ofL (numL n z))) w := by
  have e1 : (numL n z).length = z := numL_length z n
  have g2 := run_convert_bytes_back (P := Tryd.prog) w 73 9 5 ⟨g, 0, none⟩ cap (numL n z) Tryd.underlying73 Tryd.underlying5 Tryd.underlying9 (fun j hj => by
    have hj' := hj
    rw [e1] at hj'
    have e2 : (Addr.add ⟨g, 0, none⟩ j) = ⟨g, j, none⟩ := by
      simp only [Addr.add]
      split
      · rename_i h0; have : j = 0 := by simpa using h0
        subst this; rfl
      · simp
    have e3 := numL_get n z j hj'
    rw [List.getElem?_eq_getElem hj] at e3
    rw [e2, h.1 j hj', Option.some.inj e3]
    unfold byteH
    simp)
  rw [e1] at g2
  exact g2
set_option maxRecDepth 100000 in
set_option maxHeartbeats 1000000 in
theorem highFirst_any (n z : Nat) (hn : n < 9223372036854775808) (hz1 : 1 ≤ z) (hz : z ≤ 8) (w : World) :
    Calls Tryd.prog 45 #[.int .i64 (n : Nat), .int .i64 (z : Nat)] w fun e w' => e = .returned (.string (ofL (numL n z))) ∧ Below w.heap.size w w' := by
  have m1 := fun w => make_u8 z (by omega) w
  have z8 : (z : Int) ≤ 8 := by omega
  have HZ : Hid (n < 9223372036854775808 ∧ 1 ≤ z ∧ z ≤ 8) := ⟨hn, hz1, hz⟩
  clear hz1 hz hn
  go_enter Tryd.func45, Tryd.ntmps45
  go_wp2_with fail
  go_loopw [11] (fun i wr => ∃ k : Nat, k ≤ z ∧ i = .int .i64 k ∧ RowK .u8 wr w.heap.size z (fun j => if j < k then byteH n z j else 0) ∧ Below w.heap.size w wr)
    (fun i _ => z - (intOf i).toNat)
  case atStart =>
    exact ⟨0, by omega, rfl, RowK.made .u8 w z _, below_alloc0' (Below.refl _ _) _⟩
  case round =>
    obtain ⟨k, hk, rfl, hR, hB⟩ := hrel
    rename World => wr
    by_cases hlt : k < z
    · have hlt' : (k : Int) < (z : Int) := Int.ofNat_lt.2 hlt
      obtain ⟨sh, hsh⟩ : ∃ sh, sh = 8 * (z - 1 - k) := ⟨_, rfl⟩
      obtain ⟨x, hx⟩ : ∃ x, x = byteH n z k := ⟨_, rfl⟩
      have e0 : (8 : Int) * ((z : Int) - 1 - (k : Int)) = (sh : Nat) := by omega
      have e1 : ((z : Int) - 1 - (k : Int)) = ((z - 1 - k : Nat) : Int) := by omega
      have e5 : IntKind.u8.wrap ((n : Int) / 2 ^ sh) = (x : Nat) := by
        have e : (n : Int) / 2 ^ sh = ((n / 256 ^ (z - 1 - k) : Nat) : Int) := by
          rw [hsh, Int.natCast_ediv, Int.natCast_pow, Int.pow_mul]
          rfl
        rw [e, hx]
        unfold byteH
        generalize n / 256 ^ (z - 1 - k) = y
        rw [IntKind.wrap_u8]
        omega
      have s2 : (sh : Int) < 64 := by omega
      have g2 := hR.1 k hlt
      have gf := hR.2.1 k
      simp only [Nat.lt_irrefl, if_false] at g2
      have HL : Hid (RowK .u8 (wr.setCell ⟨w.heap.size, k, none⟩ (.int .u8 (x : Nat))) w.heap.size z (fun j => if j < k + 1 then byteH n z j else 0) ∧ Below w.heap.size w (wr.setCell ⟨w.heap.size, k, none⟩ (.int .u8 (x : Nat)))) := by
        refine ⟨hR.set hlt (by simp [hx]) fun j _ hj => ?_, hB.setCell (p := ⟨w.heap.size, k, none⟩) (Nat.le_refl _) _⟩
        by_cases c : j < k
        · rw [if_pos c, if_pos (by omega)]
        · rw [if_neg c, if_neg (by omega)]
      clear hR hB hsh hx e1
      go_wp2_with fail
      go_roundw
      case rel => exact ⟨k + 1, by omega, by go_num, HL.out.1, HL.out.2⟩
      case measure => simp [intOf]; omega
    · obtain rfl : k = z := by omega
      have hR' : RowK .u8 wr w.heap.size k (byteH n k) := ⟨fun j hj => by have e := hR.1 j hj; simp only [hj, if_true] at e; exact e, hR.2⟩
      have hcv := num_text wr w.heap.size n k k hR'
      have hnl : ¬ ((k : Int) < (k : Int)) := Int.lt_irrefl _
      have HB : Hid (Below w.heap.size w wr) := hB
      clear hR hR' hB
      go_wp2_with fail
      go_ret
      exact ⟨rfl, HB.out⟩
def tagB (s : ByteArray) : Bool := decide (1 ≤ s.size ∧ s.size ≤ 40)
theorem isTag_any (s : ByteArray) (w : World) : Calls Tryd.prog 20 #[.string s] w fun e w' => e = .returned (.bool (tagB s)) ∧ w' = w := by
  unfold tagB
  obtain ⟨n, hn⟩ : ∃ n, n = s.size := ⟨_, rfl⟩
  by_cases h1 : 1 ≤ s.size
  · have h1' : ¬ ((s.size : Int) < 1) := by omega
    have h1'' : (1 : Int) ≤ (s.size : Int) := by omega
    by_cases h2 : s.size ≤ 40
    · have h2' : (s.size : Int) ≤ 40 := by omega
      have hd : decide (1 ≤ s.size ∧ s.size ≤ 40) = true := decide_eq_true ⟨h1, h2⟩
      rw [hd]
      clear hd h1 h2 hn
      go_enter Tryd.func20, Tryd.ntmps20
      go_wp2
      go_ret
      exact ⟨rfl, rfl⟩
    · have h2' : ¬ ((s.size : Int) ≤ 40) := by omega
      have hd : decide (1 ≤ s.size ∧ s.size ≤ 40) = false := decide_eq_false (by omega)
      rw [hd]
      clear hd h1 h2 hn
      go_enter Tryd.func20, Tryd.ntmps20
      go_wp2
      go_ret
      exact ⟨rfl, rfl⟩
  · have h1' : ¬ ((1 : Int) ≤ (s.size : Int)) := by omega
    have hd : decide (1 ≤ s.size ∧ s.size ≤ 40) = false := decide_eq_false (by omega)
    rw [hd]
    clear hd h1 hn
    go_enter Tryd.func20, Tryd.ntmps20
    go_wp2
    go_ret
    exact ⟨rfl, rfl⟩
theorem tag5_any (s : ByteArray) (w : World) : Calls Tryd.prog 16 #[.string s] w fun e w' => e = .returned (.bool (tagB s)) ∧ w' = w := by
  unfold tagB
  obtain ⟨n, hn⟩ : ∃ n, n = s.size := ⟨_, rfl⟩
  by_cases h1 : 1 ≤ s.size
  · have h1' : ¬ ((s.size : Int) < 1) := by omega
    have h1'' : (1 : Int) ≤ (s.size : Int) := by omega
    by_cases h2 : s.size ≤ 40
    · have h2' : (s.size : Int) ≤ 40 := by omega
      have hd : decide (1 ≤ s.size ∧ s.size ≤ 40) = true := decide_eq_true ⟨h1, h2⟩
      rw [hd]
      clear hd h1 h2 hn
      go_enter Tryd.func16, Tryd.ntmps16
      go_wp2
      go_ret
      exact ⟨rfl, rfl⟩
    · have h2' : ¬ ((s.size : Int) ≤ 40) := by omega
      have hd : decide (1 ≤ s.size ∧ s.size ≤ 40) = false := decide_eq_false (by omega)
      rw [hd]
      clear hd h1 h2 hn
      go_enter Tryd.func16, Tryd.ntmps16
      go_wp2
      go_ret
      exact ⟨rfl, rfl⟩
  · have h1' : ¬ ((1 : Int) ≤ (s.size : Int)) := by omega
    have hd : decide (1 ≤ s.size ∧ s.size ≤ 40) = false := decide_eq_false (by omega)
    rw [hd]
    clear hd h1 hn
    go_enter Tryd.func16, Tryd.ntmps16
    go_wp2
    go_ret
    exact ⟨rfl, rfl⟩
end Go.Proofs.YtjdfipfeclphkaaDoor

namespace Go.Proofs.YtjdfipfeclphkaaDoor
open Go Go.RowKit Go.Lib

theorem below_drewN' {B : Nat} {a w : World} (h : Below B a w) (n : Nat) : Below B a (w.drewN n) := ⟨h.os, h.tape, h.output, h.size, h.block⟩
/-- Texts that lie behind an address. -/
def Strs (w : World) (a : Option Addr) (l : List ByteArray) : Prop :=
  ∀ j s, l[j]? = some s → ∃ p o, a = some ⟨p, o, none⟩ ∧ w.cell? ⟨p, o + j, none⟩ = some (.string s) ∧ p < w.heap.size
theorem Strs.call {w w' : World} {a : Option Addr} {l : List ByteArray} (h : Strs w a l) (hb : Below w.heap.size w w') : Strs w' a l := fun j s hj => by
  obtain ⟨p, o, h1, h2, h3⟩ := h j s hj
  exact ⟨p, o, h1, (hb.cell (p := ⟨p, o + j, none⟩) h3).trans h2, Nat.lt_of_lt_of_le h3 hb.size⟩
theorem Strs.get {w : World} {a : Option Addr} {l : List ByteArray} (h : Strs w a l) {k : Nat} (hk : k < l.length) : ∃ p o, a = some ⟨p, o, none⟩ ∧ w.cell? ⟨p, o + k, none⟩ = some (.string (l[k]'hk)) ∧ p < w.heap.size :=
  h k _ (List.getElem?_eq_getElem hk)

theorem u8wrap (n : Nat) : IntKind.u8.wrap (n : Int) = ((UInt8.ofNat n).toNat : Int) := by
  rw [IntKind.wrap_u8]
  simp
def one (x : UInt8) : ByteArray := ⟨#[x]⟩
theorem conv_one (y : UInt8) (w : World) : (convert 73 9 (.slice (some ⟨w.heap.size, 0, none⟩) 1 1)).run Tryd.prog (w.alloc (.cells #[.int .u8 (y.toNat : Int)] 5)) = .ok (.string (one y)) (w.alloc (.cells #[.int .u8 (y.toNat : Int)] 5)) := by
  have g2 := run_convert_bytes_back (P := Tryd.prog) (w.alloc (.cells #[.int .u8 (y.toNat : Int)] 5)) 73 9 5 ⟨w.heap.size, 0, none⟩ 1 [y] Tryd.underlying73 Tryd.underlying5 Tryd.underlying9 (fun j hj => by
    have hj' : j = 0 := by simpa using hj
    subst hj'
    simp [go_sem])
  exact g2
set_option maxHeartbeats 1000000 in
theorem number_any (n z : Nat) (hn : n < 9223372036854775808) (hz : z ≤ 8) (w : World) :
    Calls Tryd.prog 27 #[.int .i64 (n : Nat), .int .i64 (z : Nat)] w fun e w' => e = .returned (.string (ofL (numL n z))) ∧ Below w.heap.size w w' := by
  have hsz : ∀ w, (Go.sizeOf 5).run Tryd.prog w = .ok 1 w := fun _ => by kernel_rfl
  go_enter Tryd.func27, Tryd.ntmps27
  go_wp2
  go_loopw [0, 5, 6] (fun nv sv iv wr => ∃ k : Nat, k ≤ z ∧ nv = .int .i64 ((n / 256 ^ k : Nat) : Int) ∧ sv = .string (ofL (numL n k)) ∧ iv = .int .i64 (k : Nat) ∧ Below w.heap.size w wr) (fun _ _ iv _ => z - (intOf iv).toNat)
  case atStart => exact ⟨0, Nat.zero_le _, by simp, rfl, rfl, Below.refl _ _⟩
  case round =>
    obtain ⟨k, hk, rfl, rfl, rfl, hB⟩ := hrel
    rename World => wr
    by_cases hlt : k < z
    · have hlt' : (k : Int) < (z : Int) := Int.ofNat_lt.2 hlt
      obtain ⟨m, hm⟩ : ∃ m, m = n / 256 ^ k := ⟨_, rfl⟩
      rw [← hm]
      obtain ⟨x, hx⟩ : ∃ x, x = UInt8.ofNat m := ⟨_, rfl⟩
      have wx : IntKind.u8.wrap (m : Int) = (x.toNat : Int) := by rw [hx]; exact u8wrap m
      have wx' : (m : Int) % 256 = (x.toNat : Int) := by rw [← wx, IntKind.wrap_u8]
      have hmb : (m : Int) < 9223372036854775808 := by have : m ≤ n := by rw [hm]; exact Nat.div_le_self _ _
                                                       omega
      have hl : (ofL (numL n k)).size ≤ 8 := by rw [ofL_size, numL_length]; omega
      have h1 : (one x).size = 1 := rfl
      have z8 : (z : Int) ≤ 8 := by omega
      have hcv : (convert 73 9 (.slice (some ⟨wr.heap.size, 0, none⟩) 1 1)).run Tryd.prog (wr.alloc (.cells #[.int .u8 (x.toNat : Int)] 5)) = .ok (.string (one x)) (wr.alloc (.cells #[.int .u8 (x.toNat : Int)] 5)) := conv_one x wr
      have HN : Hid (one x ++ ofL (numL n k) = ofL (numL n (k + 1)) ∧ ((m : Int) / 256 = ((n / 256 ^ (k + 1) : Nat) : Int))) := by
        refine ⟨ba_ext ?_, ?_⟩
        · rw [ba_append, ofL_data, ofL_data, numL_cons, ← hm, ← hx]; rfl
        · rw [hm, Nat.pow_succ, ← Nat.div_div_eq_div_mul]; rfl
      have HB : Hid (Below w.heap.size w (wr.alloc (.cells #[.int .u8 (x.toNat : Int)] 5))) := below_alloc0' hB _
      clear hm hx hB wx
      go_wp2
      go_roundw
      case rel => first | exact ⟨k + 1, hlt, by rw [← HN.out.2], by rw [← HN.out.1], by go_num, HB.out⟩ | ((repeat apply Exists.intro); exact ⟨⟨k + 1, hlt, by rw [← HN.out.2], by rw [← HN.out.1], by go_num, HB.out⟩, rfl⟩)
      case measure => simp [intOf]; omega
    · obtain rfl : k = z := by omega
      have hnl : ¬ ((k : Int) < (k : Int)) := Int.lt_irrefl _
      have HB : Hid (Below w.heap.size w wr) := hB
      clear hB hlt
      go_wp2
      go_ret
      exact ⟨rfl, HB.out⟩
theorem toList_ne {s t : ByteArray} (h : s ≠ t) : (s.toList == t.toList) = false := by
  rw [ByteArray.toList_eq, ByteArray.toList_eq]
  exact beq_eq_false_iff_ne.2 fun c => h (ba_ext c)
theorem take_succ_eq {l m : List ByteArray} {k : Nat} (h1 : k < l.length) (h2 : k < m.length) (ht : l.take k = m.take k) (he : (l[k]'h1) = (m[k]'h2)) : l.take (k + 1) = m.take (k + 1) := by
  rw [List.take_succ_eq_append_getElem h1, List.take_succ_eq_append_getElem h2, ht, he]
set_option maxRecDepth 100000 in
set_option maxHeartbeats 4000000 in
theorem texts_any (a b : Option Addr) (l m : List ByteArray) (ca cb : Nat) (hl : l.length ≤ 8796093022208) (w : World) (hA : Strs w a l) (hB : Strs w b m) :
    Calls Tryd.prog 17 #[.slice a l.length ca, .slice b m.length cb] w fun e w' => e = .returned (.bool (decide (l = m))) ∧ Below w.heap.size w w' := by
  obtain ⟨n, hn⟩ : ∃ n, n = l.length := ⟨_, rfl⟩
  obtain ⟨q, hq⟩ : ∃ q, q = m.length := ⟨_, rfl⟩
  rw [← hn, ← hq]
  have HL : Hid (n = l.length ∧ q = m.length) := ⟨hn, hq⟩
  have n43 : (n : Int) ≤ 8796093022208 := by omega
  have HS : Hid (Strs w a l ∧ Strs w b m) := ⟨hA, hB⟩
  obtain ⟨D, hD⟩ : ∃ D, D = decide (l = m) := ⟨_, rfl⟩
  rw [← hD]
  have HD : Hid (D = decide (l = m)) := hD
  clear hn hq hl hA hB hD
  go_enter Tryd.func17, Tryd.ntmps17
  go_wp2_with fail
  rename_i Kr hKr
  have HKr : Hid _ := hKr
  clear hKr
  go_loopw [8] (fun iv wr => ∃ k : Nat, k ≤ n ∧ k ≤ q ∧ iv = .int .i64 (k : Nat) ∧ l.take k = m.take k ∧ Below w.heap.size w wr) (fun iv _ => n - (Go.RowKit.intOf iv).toNat)
  case atStart => exact ⟨0, Nat.zero_le _, Nat.zero_le _, rfl, rfl, Below.refl _ _⟩
  case round =>
    obtain ⟨k, hk, hkq, rfl, ht, hB⟩ := hrel
    rename World => wr
    have HB : Hid (Below w.heap.size w wr ∧ l.take k = m.take k) := ⟨hB, ht⟩
    clear hB ht
    by_cases hlt : k < n
    · clear HKr
      have hkl : k < l.length := by rw [← HL.out.1]; exact hlt
      have hlt' : (k : Int) < (n : Int) := Int.ofNat_lt.2 hlt
      by_cases hge : q ≤ k
      · have hge' : (q : Int) ≤ (k : Int) := by omega
        have d1 : decide ((q : Int) ≤ (k : Int)) = true := decide_eq_true hge'
        have d1' : decide (q ≤ k) = true := decide_eq_true hge
        have HF : Hid (D = false) := by
          rw [HD.out]
          exact decide_eq_false fun c => by
            have h1 := HL.out.1
            have h2 := HL.out.2
            rw [c] at h1
            omega
        clear hlt hge
        go_wp2_with fail
        go_quiet (fail)
        go_wp2_with fail
        go_ret
        exact ⟨by rw [HF.out]; rfl, below_drewN' HB.out.1 _⟩
      · have hge' : ¬ ((q : Int) ≤ (k : Int)) := by omega
        have d1 : decide ((q : Int) ≤ (k : Int)) = false := decide_eq_false hge'
        have d1' : decide (q ≤ k) = false := decide_eq_false hge
        have d2 : (k : Int) < (q : Int) := by omega
        have hkm : k < m.length := by rw [← HL.out.2]; omega
        obtain ⟨p, o, rfl, c1, p1⟩ := HS.out.1.get hkl
        obtain ⟨p', o', rfl, c2, p2⟩ := HS.out.2.get hkm
        obtain ⟨s, hs⟩ : ∃ s, s = (l[k]'hkl) := ⟨_, rfl⟩
        obtain ⟨t, ht⟩ : ∃ s, s = (m[k]'hkm) := ⟨_, rfl⟩
        rw [← hs] at c1
        rw [← ht] at c2
        have e1 : wr.cell? ⟨p, o + k, none⟩ = some (.string s) := (HB.out.1.cell (p := ⟨p, o + k, none⟩) p1).trans c1
        have e2 : wr.cell? ⟨p', o' + k, none⟩ = some (.string t) := (HB.out.1.cell (p := ⟨p', o' + k, none⟩) p2).trans c2
        by_cases hst : s = t
        · have HN : Hid (l.take (k + 1) = m.take (k + 1)) := take_succ_eq hkl hkm HB.out.2 (by rw [← hs, ← ht]; exact hst)
          have HQ : Hid (k + 1 ≤ q) := by show k + 1 ≤ q; omega
          subst hst
          have tb : (s.toList == s.toList) = true := by simp only [BEq.rfl]
          clear c1 c2 p1 p2 hs ht hge
          go_wp2_with fail
          go_quiet (fail)
          go_wp2_with fail
          go_roundw
          case rel => first | exact ⟨k + 1, hlt, HQ.out, by go_num, HN.out, below_drewN' HB.out.1 _⟩ | ((repeat apply Exists.intro); exact ⟨⟨k + 1, hlt, HQ.out, by go_num, HN.out, below_drewN' HB.out.1 _⟩, rfl⟩)
          case measure => simp [Go.RowKit.intOf]; omega
        · have tb : (s.toList == t.toList) = false := toList_ne hst
          have HF : Hid (D = false) := by
            rw [HD.out]
            exact decide_eq_false fun c => hst (by rw [hs, ht]; simp only [c])
          clear c1 c2 p1 p2 hs ht hge hst
          go_wp2_with fail
          go_quiet (fail)
          go_wp2_with fail
          go_ret
          exact ⟨by rw [HF.out]; rfl, below_drewN' HB.out.1 _⟩
    · obtain rfl : k = n := by omega
      have hnl : ¬ ((k : Int) < (k : Int)) := Int.lt_irrefl _
      have HF : Hid (((k : Int) == (q : Int)) = D) := by
        rw [HD.out]
        show decide ((k : Int) = (q : Int)) = _
        refine decide_eq_decide.2 ⟨fun c => ?_, fun c => ?_⟩
        · have h1 := HB.out.2
          have h2 : k = q := by omega
          have e1 : l.take k = l := by rw [HL.out.1]; exact List.take_of_length_le (Nat.le_refl _)
          have e2 : m.take k = m := by rw [h2, HL.out.2]; exact List.take_of_length_le (Nat.le_refl _)
          rw [e1, e2] at h1
          exact h1
        · have h1 := HL.out.1
          have h2 := HL.out.2
          rw [c] at h1
          omega
      clear hlt hk hkq
      go_wp2_with fail
      refine HKr.out _ _ ?_
      clear HKr
      go_wp2_with fail
      go_ret
      exact ⟨by rw [← HF.out]; rfl, HB.out.1⟩
end Go.Proofs.YtjdfipfeclphkaaDoor
