/- Package parcel: split. -/
import Derived.Test.YtdnahobafhelhaaDoorPcC
import Derived.Test.YtdnahobafhelhaaDoorPcM
import Derived.WalkMore
namespace Go.Proofs.YtdnahobafhelhaaDoor
open Go Go.RowKit Go.Lib

theorem byte0 {t : ByteArray} {x y : UInt8} {r : List UInt8} (h : t.data.toList = x :: y :: r) : (∀ q, (t[0]'q) = x) ∧ (∀ q, (t[1]'q) = y) := by
  constructor
  · intro q
    have : t.data.toList[0]? = some x := by rw [h]; rfl
    rw [List.getElem?_eq_getElem (by rw [ba_len]; exact q)] at this
    exact Option.some.inj this
  · intro q
    have : t.data.toList[1]? = some y := by rw [h]; rfl
    rw [List.getElem?_eq_getElem (by rw [ba_len]; exact q)] at this
    exact Option.some.inj this
theorem ext2 {t : ByteArray} {x y : UInt8} {r : List UInt8} (h : t.data.toList = x :: y :: r) : t.extract 2 t.size = ofL r := by
  apply ba_ext
  rw [ba_extract, h, ofL_data]
  have := ba_len t
  rw [h] at this
  simp only [List.length_cons] at this
  exact List.take_of_length_le (by simp; omega)
theorem bits_or64 (a b : Nat) (ha : a < 4611686018427387904) (hb : b < 4611686018427387904) : bits .or .i64 (a : Int) (b : Int) = ((a ||| b : Nat) : Int) := by
  show IntKind.i64.wrap ((BitVec.ofInt 64 (a : Int) ||| BitVec.ofInt 64 (b : Int)).toNat : Int) = _
  have h : a ||| b < 2 ^ 62 := Nat.or_lt_two_pow (n := 62) ha hb
  rw [BitVec.toNat_or]
  have ea : (BitVec.ofInt 64 (a : Int)).toNat = a := by simp; omega
  have eb : (BitVec.ofInt 64 (b : Int)).toNat = b := by simp; omega
  rw [ea, eb, IntKind.wrap_i64]
  omega
theorem or_bytes (x y : UInt8) : bits .or .i64 ((x.toNat : Int) * 256) (y.toNat : Int) = ((256 * x.toNat + y.toNat : Nat) : Int) := by
  have hx := x.toNat_lt
  have hy := y.toNat_lt
  have e : (x.toNat : Int) * 256 = ((x.toNat * 256 : Nat) : Int) := by omega
  rw [e, bits_or64 _ _ (by omega) (by omega)]
  have h := Nat.shiftLeft_add_eq_or_of_lt (i := 8) (b := y.toNat) hy x.toNat
  rw [Nat.shiftLeft_eq] at h
  have h' : x.toNat * 256 ||| y.toNat = x.toNat * 256 + y.toNat := h.symm
  rw [h']
  omega
end Go.Proofs.YtdnahobafhelhaaDoor
