/- Records as bytes: the plain mathematics; no program in sight. -/
import Derived.Lib.AppendStr
namespace Go.Proofs.YtlebhdckgcjacaaGreatDoor
open Go Go.Lib

theorem ba_ext {a b : ByteArray} (h : a.data.toList = b.data.toList) : a = b := by
  obtain ⟨x⟩ := a; obtain ⟨y⟩ := b
  exact congrArg ByteArray.mk (Array.ext' h)
theorem ba_len (a : ByteArray) : a.data.toList.length = a.size := by have := strCells_length a; rw [strCells, List.length_map] at this; exact this
theorem ba_append (a b : ByteArray) : (a ++ b).data.toList = a.data.toList ++ b.data.toList := by simp [ByteArray.data_append]
theorem ba_extract (a : ByteArray) (i j : Nat) : (a.extract i j).data.toList = (a.data.toList.drop i).take (j - i) := by
  simp [ByteArray.data_extract, Array.toList_extract, List.extract]
/-- A list as bytes. -/
def ofL (l : List UInt8) : ByteArray := ⟨l.toArray⟩
theorem ofL_data (l : List UInt8) : (ofL l).data.toList = l := by simp [ofL]
theorem ofL_size (l : List UInt8) : (ofL l).size = l.length := by rw [← ba_len, ofL_data]
theorem ofL_append (a b : List UInt8) : ofL a ++ ofL b = ofL (a ++ b) := ba_ext (by rw [ba_append, ofL_data, ofL_data, ofL_data])
theorem ofL_of (a : ByteArray) : ofL a.data.toList = a := ba_ext (ofL_data _)
/-- A number's bytes, the highest first. -/
def nbyL : Nat → Nat → List UInt8
  | _, 0 => []
  | n, k + 1 => nbyL (n / 256) k ++ [UInt8.ofNat n]
theorem nbyL_length (k : Nat) : ∀ n, (nbyL n k).length = k := by
  induction k with
  | zero => intro n; rfl
  | succ k ih => intro n; unfold nbyL; rw [List.length_append, ih]; rfl
theorem nbyL2 (n : Nat) : nbyL n 2 = [UInt8.ofNat (n / 256), UInt8.ofNat n] := rfl
theorem nbyL1 (n : Nat) : nbyL n 1 = [UInt8.ofNat n] := rfl
/-- What items are as bytes. -/
def itemL (s : ByteArray) : List UInt8 := UInt8.ofNat (s.size / 256) :: UInt8.ofNat s.size :: s.data.toList
def itemsL : List ByteArray → List UInt8
  | [] => []
  | s :: r => itemL s ++ itemsL r
theorem itemsL_append (a b : List ByteArray) : itemsL (a ++ b) = itemsL a ++ itemsL b := by
  induction a with
  | nil => rfl
  | cons s r ih => simp only [List.cons_append, itemsL, ih, List.append_assoc]
/-- How many bytes items are. -/
def sumN : List ByteArray → Nat
  | [] => 0
  | s :: r => 2 + s.size + sumN r
theorem sumN_append (a b : List ByteArray) : sumN (a ++ b) = sumN a + sumN b := by
  induction a with
  | nil => simp [sumN]
  | cons s r ih => simp only [List.cons_append, sumN, ih]; omega
theorem itemL_length (s : ByteArray) : (itemL s).length = 2 + s.size := by
  unfold itemL
  simp only [List.length_cons, ba_len]
  omega
theorem itemsL_length (l : List ByteArray) : (itemsL l).length = sumN l := by
  induction l with
  | nil => rfl
  | cons s r ih => simp only [itemsL, sumN, List.length_append, ih, itemL_length]
def packL (k : Nat) (l : List ByteArray) : List UInt8 := UInt8.ofNat k :: UInt8.ofNat l.length :: itemsL l
def okS (l : List ByteArray) : Bool := l.all fun s => decide (s.size ≤ 8000)
def fitB (l : List ByteArray) : Bool := decide (l.length ≤ 40) && okS l && decide (2 + sumN l ≤ 20000)
def kindB (k : Int) : Bool := decide (1 ≤ k ∧ k ≤ 63)
/-- What Pack answers. -/
def pkS (k : Int) (l : List ByteArray) : ByteArray := if kindB k && fitB l then ofL (packL k.toNat l) else ⟨#[]⟩
def pkE (k : Int) (l : List ByteArray) : Int := if kindB k then (if fitB l then 0 else 2) else 1
theorem sumN_le {l : List ByteArray} (h : okS l = true) : sumN l ≤ l.length * 8002 := by
  induction l with
  | nil => simp [sumN]
  | cons s r ih =>
    simp only [okS, List.all_cons, Bool.and_eq_true, decide_eq_true_eq] at h
    have := ih h.2
    simp only [sumN, List.length_cons]
    omega
theorem okS_take_succ {l : List ByteArray} {k : Nat} (hk : k < l.length) : okS (l.take (k + 1)) = (okS (l.take k) && decide ((l[k]'hk).size ≤ 8000)) := by
  rw [List.take_succ_eq_append_getElem hk]
  unfold okS
  rw [List.all_append]
  simp
theorem sumN_take_succ {l : List ByteArray} {k : Nat} (hk : k < l.length) : sumN (l.take (k + 1)) = sumN (l.take k) + (2 + (l[k]'hk).size) := by
  rw [List.take_succ_eq_append_getElem hk, sumN_append]
  simp [sumN]
theorem itemsL_take_succ {l : List ByteArray} {k : Nat} (hk : k < l.length) : itemsL (l.take (k + 1)) = itemsL (l.take k) ++ itemL (l[k]'hk) := by
  rw [List.take_succ_eq_append_getElem hk, itemsL_append]
  simp [itemsL]
theorem okS_of_mem {l : List ByteArray} (h : okS l = true) {k : Nat} (hk : k < l.length) : (l[k]'hk).size ≤ 8000 := by
  have := List.all_eq_true.1 h _ (List.getElem_mem hk)
  simpa using this
theorem okS_false {l : List ByteArray} {k : Nat} (hk : k < l.length) (h : 8000 < (l[k]'hk).size) : okS l = false := by
  rcases Bool.eq_false_or_eq_true (okS l) with c | c
  · have := okS_of_mem c hk; omega
  · exact c
theorem okS_take {l : List ByteArray} (h : okS l = true) (k : Nat) : okS (l.take k) = true :=
  List.all_eq_true.2 fun s hs => List.all_eq_true.1 h s (List.mem_of_mem_take hs)
end Go.Proofs.YtlebhdckgcjacaaGreatDoor
