/- What is hashed of a tag and parts, as bytes: the plain mathematics; and that it tells tags and parts apart. -/
import Derived.Test.YtienklnigigepaaGreatDoorPiN
namespace Go.Proofs.YtienklnigigepaaGreatDoor
open Go Go.Lib

theorem numL_inj (k m n : Nat) (hm : m < 256 ^ k) (hn : n < 256 ^ k) (h : numL m k = numL n k) : m = n := by
  have e := joinN_numL k m hm
  rw [h, joinN_numL k n hn] at e
  exact e.symm
theorem item_inj {k : Nat} {s t : ByteArray} {x y : List UInt8} (hs : s.size < 256 ^ k) (ht : t.size < 256 ^ k) (h : numL s.size k ++ (s.data.toList ++ x) = numL t.size k ++ (t.data.toList ++ y)) : s = t ∧ x = y := by
  obtain ⟨h1, h2⟩ := List.append_inj h (by rw [numL_length, numL_length])
  have e := numL_inj k _ _ hs ht h1
  obtain ⟨h3, h4⟩ := List.append_inj h2 (by rw [ba_len, ba_len, e])
  exact ⟨ba_ext h3, h4⟩
/-- What parts are as bytes. -/
def partsL : List ByteArray → List UInt8
  | [] => []
  | s :: r => numL s.size 4 ++ (s.data.toList ++ partsL r)
theorem partsL_append (a b : List ByteArray) : partsL (a ++ b) = partsL a ++ partsL b := by
  induction a with
  | nil => rfl
  | cons s r ih => simp only [List.cons_append, partsL, ih, List.append_assoc]
theorem partsL_take_succ {l : List ByteArray} {k : Nat} (hk : k < l.length) : partsL (l.take (k + 1)) = partsL (l.take k) ++ (numL (l[k]'hk).size 4 ++ (l[k]'hk).data.toList) := by
  rw [List.take_succ_eq_append_getElem hk, partsL_append]
  simp only [partsL, List.append_nil]
/-- How many bytes parts have in sum. -/
def bytesN : List ByteArray → Nat
  | [] => 0
  | s :: r => s.size + bytesN r
theorem partsL_length (l : List ByteArray) : (partsL l).length = 4 * l.length + bytesN l := by
  induction l with
  | nil => rfl
  | cons s r ih => simp only [partsL, List.length_append, numL_length, ba_len, ih, List.length_cons, bytesN]; omega
theorem bytesN_append (a b : List ByteArray) : bytesN (a ++ b) = bytesN a + bytesN b := by
  induction a with
  | nil => simp [bytesN]
  | cons s r ih => simp only [List.cons_append, bytesN, ih]; omega
theorem bytesN_take (l : List ByteArray) (k : Nat) : bytesN (l.take k) ≤ bytesN l := by
  have h := bytesN_append (l.take k) (l.drop k)
  rw [List.take_append_drop] at h
  omega
theorem bytesN_take_succ {l : List ByteArray} {k : Nat} (hk : k < l.length) : bytesN (l.take (k + 1)) = bytesN (l.take k) + (l[k]'hk).size := by
  rw [List.take_succ_eq_append_getElem hk, bytesN_append]
  simp [bytesN]
theorem bytesN_mem {l : List ByteArray} {s : ByteArray} (h : s ∈ l) : s.size ≤ bytesN l := by
  induction l with
  | nil => cases h
  | cons x r ih =>
    simp only [bytesN]
    rcases List.mem_cons.1 h with rfl | h
    · omega
    · have := ih h; omega
theorem partsL_inj : ∀ {l m : List ByteArray}, (∀ s ∈ l, s.size < 256 ^ 4) → (∀ s ∈ m, s.size < 256 ^ 4) → partsL l = partsL m → l = m
  | [], [], _, _, _ => rfl
  | [], t :: m, _, _, h => by
    have e := congrArg List.length h
    rw [partsL_length, partsL_length] at e
    simp only [List.length_nil, List.length_cons, bytesN] at e
    omega
  | s :: l, [], _, _, h => by
    have e := congrArg List.length h
    rw [partsL_length, partsL_length] at e
    simp only [List.length_nil, List.length_cons, bytesN] at e
    omega
  | s :: l, t :: m, h1, h2, h => by
    obtain ⟨e1, e2⟩ := item_inj (h1 s List.mem_cons_self) (h2 t List.mem_cons_self) h
    rw [e1, partsL_inj (fun x hx => h1 x (List.mem_cons_of_mem _ hx)) (fun x hx => h2 x (List.mem_cons_of_mem _ hx)) e2]
/-- What is hashed. -/
def hashdL (t : ByteArray) (l : List ByteArray) : List UInt8 := numL t.size 1 ++ (t.data.toList ++ partsL l)
def hashB (t : ByteArray) (l : List ByteArray) : ByteArray := ofL (hashdL t l)
theorem hashB_size (t : ByteArray) (l : List ByteArray) : (hashB t l).size = 1 + t.size + 4 * l.length + bytesN l := by
  unfold hashB hashdL
  rw [ofL_size, List.length_append, List.length_append, numL_length, ba_len, partsL_length]
  omega
theorem hashB_inj {s t : ByteArray} {l m : List ByteArray} (hs : s.size < 256) (ht : t.size < 256) (hl : ∀ s ∈ l, s.size < 256 ^ 4) (hm : ∀ s ∈ m, s.size < 256 ^ 4) (h : hashB s l = hashB t m) : s = t ∧ l = m := by
  have e : hashdL s l = hashdL t m := by
    have := congrArg (fun b : ByteArray => b.data.toList) h
    simp only [hashB, ofL_data] at this
    exact this
  obtain ⟨e1, e2⟩ := item_inj (k := 1) hs ht e
  exact ⟨e1, partsL_inj hl hm e2⟩
/-- The text of what is hashed, as far as the k'th part. -/
theorem hashB_zero (t : ByteArray) (l : List ByteArray) : (ofL (numL t.size 1) ++ t) = hashB t (l.take 0) := by
  refine ba_ext ?_
  rw [ba_append, ofL_data]
  unfold hashB
  rw [ofL_data]
  simp [hashdL, partsL]
theorem hashB_succ (t : ByteArray) {l : List ByteArray} {k : Nat} (hk : k < l.length) : (hashB t (l.take k) ++ ofL (numL (l[k]'hk).size 4)) ++ (l[k]'hk) = hashB t (l.take (k + 1)) := by
  refine ba_ext ?_
  unfold hashB
  rw [ba_append, ba_append, ofL_data, ofL_data, ofL_data]
  unfold hashdL
  rw [partsL_take_succ hk]
  simp only [List.append_assoc]
theorem hashB_take (t : ByteArray) (l : List ByteArray) (k : Nat) : (hashB t (l.take k)).size ≤ (hashB t l).size := by
  rw [hashB_size, hashB_size]
  have h1 := bytesN_take l k
  have h2 : (l.take k).length ≤ l.length := by rw [List.length_take]; omega
  omega
end Go.Proofs.YtienklnigigepaaGreatDoor
