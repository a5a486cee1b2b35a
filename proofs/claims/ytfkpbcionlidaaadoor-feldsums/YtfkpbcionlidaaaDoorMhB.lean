/- Several texts laid together. -/
import Derived.Test.YtfkpbcionlidaaaDoorShA
namespace Go.Proofs.YtfkpbcionlidaaaDoor
open Go Go.RowKit Go.Lib

/-- Are all of them below the prime? -/
def allQ (l : List Nat) : Bool := l.all fun n => decide (n < QQ)
theorem allQ_true {l : List Nat} (h : ∀ j (hj : j < l.length), (l[j]'hj) < QQ) : allQ l = true := by
 unfold allQ
 rw [List.all_eq_true]
 intro x hx
 obtain ⟨j, hj, rfl⟩ := List.getElem_of_mem hx
 exact decide_eq_true (h j hj)
theorem allQ_false {l : List Nat} {k : Nat} (hk : k < l.length) (h : ¬ (l[k]'hk) < QQ) : allQ l = false := by
 unfold allQ
 rw [List.all_eq_false]
 exact ⟨_, List.getElem_mem hk, by simpa using h⟩
theorem allQ_mem {l : List Nat} (h : allQ l = true) {x : Nat} (hx : x ∈ l) : x < QQ := of_decide_eq_true (List.all_eq_true.1 h x hx)
theorem allQ_get {l : List Nat} (h : allQ l = true) {k : Nat} (hk : k < l.length) : (l[k]'hk) < QQ := allQ_mem h (List.getElem_mem hk)

set_option maxRecDepth 100000 in
set_option maxHeartbeats 4000000 in
theorem check_all (a : Option Addr) (l : List Nat) (c : Nat) (hl : l.length ≤ 8796093022208) (hR : ∀ n ∈ l, n < R256) (w : World) (hG : GlobQ w) (hN : Nums w a l) :
  Calls Tryd.prog 23 #[.slice a l.length c] w fun e w' => e = .returned (.int .i64 (okE (allQ l) 20)) ∧ Below w.heap.size w w' := by
 obtain ⟨n, hn⟩ : ∃ n, n = l.length := ⟨_, rfl⟩
 rw [← hn]
 have HL : Hid (n = l.length ∧ ∀ n ∈ l, n < R256) := ⟨hn, hR⟩
 have n43 : (n : Int) ≤ 8796093022208 := by omega
 have HN : Hid (Nums w a l ∧ GlobQ w) := ⟨hN, hG⟩
 obtain ⟨D, hD⟩ : ∃ D, D = okE (allQ l) 20 := ⟨_, rfl⟩
 rw [← hD]
 have HD : Hid (D = okE (allQ l) 20) := hD
 clear hn hl hR hN hG hD
 have K1 : Hid _ := fun w h => scalars_any w h
 go_enter Tryd.func23, Tryd.ntmps23
 go_wp2_with fail
 refine (K1.out _ HN.out.2).mono ?_
 rintro e w1 ⟨g, rfl, hF, hb1⟩
 have H1 : Hid (FieldB w1 g QQ ∧ Below w.heap.size w w1) := ⟨hF, hb1⟩
 clear hF hb1 K1
 go_wp2_with fail
 rename_i Kr hKr
 have HKr : Hid _ := hKr
 clear hKr
 go_loopw [10] (fun iv wr => ∃ k : Nat, k ≤ n ∧ iv = .int .i64 (k : Nat) ∧ (∀ j (h : j < l.length), j < k → (l[j]'h) < QQ) ∧ Below w1.heap.size w1 wr) (fun iv _ => n - (Go.RowKit.intOf iv).toNat)
 case atStart => exact ⟨0, Nat.zero_le _, rfl, fun j h c => absurd c (Nat.not_lt_zero _), Below.refl _ _⟩
 case round =>
  obtain ⟨k, hk, rfl, hq, hB⟩ := hrel
  rename World => wr
  have HB : Hid (Below w1.heap.size w1 wr ∧ ∀ j (h : j < l.length), j < k → (l[j]'h) < QQ) := ⟨hB, hq⟩
  clear hB hq
  by_cases hlt : k < n
  ·clear HKr
   have hkl : k < l.length := by rw [← HL.out.1]; exact hlt
   have hlt' : (k : Int) < (n : Int) := Int.ofNat_lt.2 hlt
   obtain ⟨p, o, rfl, ⟨c0, c1, c2, c3⟩, p1⟩ := ((HN.out.1.call H1.out.2).call HB.out.1).get hkl
   obtain ⟨m, hm⟩ : ∃ m, m = (l[k]'hkl) := ⟨_, rfl⟩
   rw [← hm] at c0 c1 c2 c3
   have mR : m < R256 := by rw [hm]; exact HL.out.2 _ (List.getElem_mem hkl)
   by_cases hmq : m < QQ
   ·have K2 : Hid _ := fun w h => check_in g QQ m mR FM_Q.2.1 hmq w h
    have HM : Hid (∀ j (h : j < l.length), j < k + 1 → (l[j]'h) < QQ) := fun j h c => by
     rcases Nat.lt_or_ge j k with c' | c'
     ·exact HB.out.2 j h c'
     ·obtain rfl : j = k := by omega
      rw [← hm]; exact hmq
    clear hm mR hmq
    go_wp2_with fail
    refine (K2.out _ ((H1.out.1.call HB.out.1).alloc)).mono ?_
    rintro e w2 ⟨rfl, hb2⟩
    have HB2 : Hid (Below w1.heap.size w1 w2) := below_call0 (below_alloc0 HB.out.1 _) hb2
    clear hb2 K2 c0 c1 c2 c3 p1
    go_wp2_with fail
    go_roundw
    case rel => first | exact ⟨k + 1, hlt, by go_num, HM.out, HB2.out⟩ | ((repeat apply Exists.intro); exact ⟨⟨k + 1, hlt, by go_num, HM.out, HB2.out⟩, rfl⟩)
    case measure => simp [intOf]; omega
   ·have K2 : Hid _ := fun w h => check_no g QQ m mR FM_Q.2.1 hmq w h
    have HF : Hid (D = 20) := by rw [HD.out, allQ_false hkl (by rw [← hm]; exact hmq)]; rfl
    clear hm mR hmq
    go_wp2_with fail
    refine (K2.out _ ((H1.out.1.call HB.out.1).alloc)).mono ?_
    rintro e w2 ⟨rfl, hb2⟩
    have HB2 : Hid (Below w1.heap.size w1 w2) := below_call0 (below_alloc0 HB.out.1 _) hb2
    clear hb2 K2 c0 c1 c2 c3 p1
    go_wp2_with fail
    go_ret
    exact ⟨by rw [HF.out]; rfl, below_call0 H1.out.2 HB2.out⟩
  ·obtain rfl : k = n := by omega
   have hnl : ¬ ((k : Int) < (k : Int)) := Int.lt_irrefl _
   have HF : Hid (D = 0) := by
    rw [HD.out, allQ_true (fun j hj => HB.out.2 j hj (by rw [HL.out.1]; exact hj))]; rfl
   clear hlt hk
   go_wp2_with fail
   refine HKr.out _ _ ?_
   clear HKr
   go_wp2_with fail
   go_ret
   exact ⟨by rw [HF.out]; rfl, below_call0 H1.out.2 HB.out.1⟩
end Go.Proofs.YtfkpbcionlidaaaDoor

namespace Go.Proofs.YtfkpbcionlidaaaDoor
open Go Go.RowKit Go.Lib

structure ButB (g B : Nat) (w w' : World) : Prop where
 os : w'.os = w.os
 tape : w'.tape = w.tape
 output : w'.output = w.output
 size : w.heap.size ≤ w'.heap.size
 block : ∀ k, k < B → k ≠ g → w'.heap[k]? = w.heap[k]?
theorem ButB.refl (g B : Nat) (w : World) : ButB g B w w := ⟨rfl, rfl, rfl, Nat.le_refl _, fun _ _ _ => rfl⟩
theorem ButB.call {g B : Nat} {w w1 w2 : World} (h : ButB g B w w1) (hb : Below w1.heap.size w1 w2) (hB : B ≤ w1.heap.size) : ButB g B w w2 :=
 ⟨hb.os.trans h.os, hb.tape.trans h.tape, hb.output.trans h.output, Nat.le_trans h.size hb.size, fun k hk hg => (hb.block k (Nat.lt_of_lt_of_le hk hB)).trans (h.block k hk hg)⟩
theorem ButB.alloc {g B : Nat} {w w1 : World} (h : ButB g B w w1) (hB : B ≤ w1.heap.size) (o : Obj) : ButB g B w (w1.alloc o) := h.call ((Below.refl _ _).alloc (Nat.le_refl _) o) hB
theorem ButB.drew {g B : Nat} {w w1 : World} (h : ButB g B w w1) : ButB g B w w1.drew := ⟨h.os, h.tape, h.output, h.size, h.block⟩
theorem ButB.drewN {g B n : Nat} {w w1 : World} (h : ButB g B w w1) : ButB g B w (w1.drewN n) := ⟨h.os, h.tape, h.output, h.size, h.block⟩
theorem ButB.set {g B o : Nat} {w w1 : World} (h : ButB g B w w1) (v : Value) : ButB g B w (w1.setCell ⟨g, o, none⟩ v) :=
 ⟨h.os, h.tape, h.output, by rw [World.size_setCell]; exact h.size, fun k hk hg => (Below.heap_setCell w1 ⟨g, o, none⟩ v k hg).trans (h.block k hk hg)⟩
theorem ButB.put4 {g B : Nat} {w w1 : World} (h : ButB g B w w1) (v0 v1 v2 v3 : Value) : ButB g B w ((((w1.setCell ⟨g, 0, none⟩ v0).setCell ⟨g, 1, none⟩ v1).setCell ⟨g, 2, none⟩ v2).setCell ⟨g, 3, none⟩ v3) := (((h.set v0).set v1).set v2).set v3
theorem ButB.cell {g B : Nat} {w w' : World} (h : ButB g B w w') {p : Addr} (hp : p.block < B) (hg : p.block ≠ g) : w'.cell? p = w.cell? p := World.cell?_of_block (w := w) (h.block p.block hp hg)
theorem ButB.frozen {g B : Nat} {w w' : World} (h : ButB g B w w') {p : Addr} (hp : p.block < B) (hg : p.block ≠ g) : w'.frozen? p = w.frozen? p := World.frozen?_of_block (w := w) (h.block p.block hp hg)
theorem ButB.below {g B C : Nat} {w w' : World} (h : ButB g B w w') (hB : C ≤ B) (hg : C ≤ g) : Below C w w' := ⟨h.os, h.tape, h.output, h.size, fun k hk => h.block k (Nat.lt_of_lt_of_le hk hB) (by omega)⟩
theorem ButB.num4 {g B X n : Nat} {w w' : World} (h : ButB g B w w') (hX : Num4 w X n) (hB : X < B) (hg : X ≠ g) : Num4 w' X n := fun j hj => (h.cell (p := ⟨X, j, none⟩) hB hg).trans (hX j hj)
theorem ButB.own4 {g B X n : Nat} {w w' : World} (h : ButB g B w w') (hX : Own4 w X n) (hB : X < B) (hg : X ≠ g) : Own4 w' X n :=
 ⟨h.num4 hX.1 hB hg, fun j hj => (h.frozen (p := ⟨X, j, none⟩) hB hg).trans (hX.2.1 j hj), Nat.lt_of_lt_of_le hX.2.2 h.size⟩
theorem ButB.pend {g B X : Nat} {w w' : World} (h : ButB g B w w') (hX : Pend w X) (hB : X < B) (hg : X ≠ g) : Pend w' X :=
 ⟨fun j hj => (h.cell (p := ⟨X, j, none⟩) hB hg).trans (hX.1 j hj), fun j hj => (h.frozen (p := ⟨X, j, none⟩) hB hg).trans (hX.2.1 j hj), Nat.lt_of_lt_of_le hX.2.2 h.size⟩
theorem ButB.field {g B X m : Nat} {w w' : World} (h : ButB g B w w') (hX : FieldB w X m) (hB : X < B) (hg : X ≠ g) : FieldB w' X m :=
 ⟨h.num4 hX.1 hB hg, fun j hj => (h.cell (p := ⟨X, j + 4, none⟩) hB hg).trans (hX.2.1 j hj), Nat.lt_of_lt_of_le hX.2.2 h.size⟩
/-- One cell that holds a pointer. -/
def Ptr1 (w : World) (p g : Nat) : Prop := w.cell? ⟨p, 0, none⟩ = some (.pointer (some ⟨g, 0, none⟩)) ∧ p < w.heap.size
theorem Ptr1.new (W : World) (g : Nat) (t : TypeId) : Ptr1 (W.alloc (.cells #[.pointer (some ⟨g, 0, none⟩)] t)) W.heap.size g := ⟨by simp [go_sem], by simp⟩
theorem Ptr1.call {W w1 : World} {p g : Nat} (h : Ptr1 W p g) (hb : Below W.heap.size W w1) : Ptr1 w1 p g := ⟨(hb.cell (p := ⟨p, 0, none⟩) h.2).trans h.1, Nat.lt_of_lt_of_le h.2 hb.size⟩
theorem Ptr1.alloc {W : World} {p g : Nat} {o : Obj} (h : Ptr1 W p g) : Ptr1 (W.alloc o) p g := h.call ((Below.refl _ _).alloc (Nat.le_refl _) o)
theorem ButB.ptr {g B X q : Nat} {w w' : World} (h : ButB g B w w') (hX : Ptr1 w X q) (hB : X < B) (hg : X ≠ g) : Ptr1 w' X q := ⟨(h.cell (p := ⟨X, 0, none⟩) hB hg).trans hX.1, Nat.lt_of_lt_of_le hX.2 h.size⟩
theorem Nums.one (W : World) (n : Nat) (t : TypeId) : Nums (W.alloc (.cells #[.int .u64 (limb n 0 : Nat), .int .u64 (limb n 1 : Nat), .int .u64 (limb n 2 : Nat), .int .u64 (limb n 3 : Nat)] t)) (some ⟨W.heap.size, 0, none⟩) [n] := by
 intro j m hj
 match j, hj with
 | 0, hj =>
  simp at hj
  subst hj
  refine ⟨W.heap.size, 0, rfl, fun i hi => ?_, by simp⟩
  have := (Num4.new W n t) i hi
  simpa using this
 | j + 1, hj => simp at hj
theorem Pend.new' {W : World} {b : Nat} {t : TypeId} (h : b = W.heap.size) : Pend (W.alloc (.cells #[.int .u64 0, .int .u64 0, .int .u64 0, .int .u64 0] t)) b := by
 subst h; exact Pend.new W t
theorem Ptr1.new' {W : World} {b g : Nat} {t : TypeId} (h : b = W.heap.size) : Ptr1 (W.alloc (.cells #[.pointer (some ⟨g, 0, none⟩)] t)) b g := by
 subst h; exact Ptr1.new W g t
theorem Nums.one' {W : World} {b n : Nat} {t : TypeId} (h : b = W.heap.size) : Nums (W.alloc (.cells #[.int .u64 (limb n 0 : Nat), .int .u64 (limb n 1 : Nat), .int .u64 (limb n 2 : Nat), .int .u64 (limb n 3 : Nat)] t)) (some ⟨b, 0, none⟩) [n] := by
 subst h; exact Nums.one W n t
theorem check_yes (a : Option Addr) (l : List Nat) (c : Nat) (hl : l.length ≤ 8796093022208) (hR : allQ l = true) (w : World) (hG : GlobQ w) (hN : Nums w a l) :
  Calls Tryd.prog 23 #[.slice a l.length c] w fun e w' => e = .returned (.int .i64 0) ∧ Below w.heap.size w w' := by
 have h := check_all a l c hl (fun n hn => Nat.lt_trans (allQ_mem hR hn) FM_Q.2.1) w hG hN
 rw [hR] at h
 exact h
theorem check_not (a : Option Addr) (l : List Nat) (c : Nat) (hl : l.length ≤ 8796093022208) (hR : ∀ n ∈ l, n < R256) (hb : allQ l = false) (w : World) (hG : GlobQ w) (hN : Nums w a l) :
  Calls Tryd.prog 23 #[.slice a l.length c] w fun e w' => e = .returned (.int .i64 20) ∧ Below w.heap.size w w' := by
 have h := check_all a l c hl hR w hG hN
 rw [hb] at h
 exact h
theorem QQ_pos : 0 < QQ := by have := FM_Q.pos; omega
theorem allQ_one (x : Nat) : allQ [x] = decide (x < QQ) := by simp [allQ]
theorem hoN_drop (q x : Nat) (l : List Nat) (k : Nat) (hk : k < l.length) : hoN q x (l.drop k) = (hoN q x (l.drop (k + 1)) * x % q + (l[k]'hk)) % q := by
 rw [List.drop_eq_getElem_cons hk]
 rfl
end Go.Proofs.YtfkpbcionlidaaaDoor
