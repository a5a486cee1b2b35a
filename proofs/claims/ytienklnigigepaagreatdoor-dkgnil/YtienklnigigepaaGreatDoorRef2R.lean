/- wardmoteref02.Field.Reduce: the remainder of a wide number, by the reference. -/
import Derived.Test.YtienklnigigepaaGreatDoorRef2T
import Derived.Test.YtienklnigigepaaGreatDoorFdA
import Derived.Deep.DeepCutAuto
namespace Go.Proofs.YtienklnigigepaaGreatDoor
open Go.RowKit

/-- The gap to 2^256 is small: so few rounds are enough. -/
def FS (m : Nat) : Prop := R256 - m < 2 ^ 130
theorem FS_P : FS PP := by unfold FS; decide
theorem FS_Q : FS QQ := by unfold FS; decide
/-- What is left behind i rounds is below this. -/
def UB : Nat → Nat
  | 0 => R256 * R256
  | 1 => R256 * 2 ^ 131
  | 2 => R256 * 64
  | 3 => R256 + 2 ^ 136
  | _ + 4 => R256
theorem mul_lt_of {g G h H : Nat} (hg : g < G) (hh : h < H) : g * h ≤ G * H := Nat.mul_le_mul (Nat.le_of_lt hg) (Nat.le_of_lt hh)
theorem UB_step (i lo hi g : Nat) (hlo : lo < R256) (h : lo + R256 * hi < UB i) (h0 : hi ≠ 0) (hg : g < 2 ^ 130) : lo + hi * g < UB (i + 1) := by
  match i with
  | 0 =>
    have hh : hi < R256 := by
      rcases Nat.lt_or_ge hi R256 with q | q
      · exact q
      · have := Nat.mul_le_mul_left R256 q
        have e : UB 0 = R256 * R256 := rfl
        omega
    have p := mul_lt_of hh hg
    show lo + hi * g < R256 * 2 ^ 131
    have e : R256 * 2 ^ 130 + R256 ≤ R256 * 2 ^ 131 := by decide
    omega
  | 1 =>
    have hh : hi < 2 ^ 131 := by
      have e : UB 1 = R256 * 2 ^ 131 := rfl
      rw [e] at h
      exact Nat.lt_of_mul_lt_mul_left (a := R256) (by omega)
    have p := mul_lt_of hh hg
    show lo + hi * g < R256 * 64
    have e : 2 ^ 131 * 2 ^ 130 + R256 ≤ R256 * 64 := by decide
    omega
  | 2 =>
    have hh : hi < 64 := by
      have e : UB 2 = R256 * 64 := rfl
      rw [e] at h
      exact Nat.lt_of_mul_lt_mul_left (a := R256) (by omega)
    have p := mul_lt_of hh hg
    show lo + hi * g < R256 + 2 ^ 136
    have e : 64 * 2 ^ 130 = 2 ^ 136 := by decide
    omega
  | 3 =>
    have e3 : UB 3 = R256 + 2 ^ 136 := rfl
    rw [e3] at h
    have h1 : hi = 1 := by
      rcases Nat.lt_or_ge hi 2 with q | q
      · omega
      · have := Nat.mul_le_mul_left R256 q
        have e : 2 ^ 136 < R256 := by decide
        omega
    subst h1
    show lo + 1 * g < R256
    have e : 2 ^ 136 + 2 ^ 130 < R256 := by decide
    omega
  | i + 4 =>
    have e : UB (i + 4) = R256 := rfl
    rw [e] at h
    have : R256 * 1 ≤ R256 * hi := Nat.mul_le_mul_left _ (by omega)
    omega
theorem UB_le (i : Nat) : UB i ≤ R256 * R256 := by
  match i with
  | 0 => exact Nat.le_refl _
  | 1 => show R256 * 2 ^ 131 ≤ R256 * R256; decide
  | 2 => show R256 * 64 ≤ R256 * R256; decide
  | 3 => show R256 + 2 ^ 136 ≤ R256 * R256; decide
  | i + 4 => show R256 ≤ R256 * R256; decide

/-- What the loops of the reference's Reduce keep. -/
def RdAt (w wx : World) (m lo hi : Nat) : Prop := FieldB wx w.heap.size m ∧ Pend wx (w.heap.size + 1 + 1) ∧ Own4 wx (w.heap.size + 1 + 1 + 1) lo ∧ Own4 wx (w.heap.size + 1 + 1 + 1 + 1) hi ∧ Below w.heap.size w wx
theorem RdAt.call {w W w1 : World} {m lo hi : Nat} (h : RdAt w W m lo hi) (hb : Below W.heap.size W w1) : RdAt w w1 m lo hi :=
  ⟨h.1.call hb, h.2.1.call hb, h.2.2.1.call hb, h.2.2.2.1.call hb, below_call0 h.2.2.2.2 hb⟩
theorem RdAt.alloc {w W : World} {m lo hi : Nat} {o : Obj} (h : RdAt w W m lo hi) : RdAt w (W.alloc o) m lo hi := h.call ((Below.refl _ _).alloc (Nat.le_refl _) o)
theorem FieldB.setB {W : World} {g m : Nat} {a : Addr} {v : Value} (h : FieldB W g m) (hne : a.block ≠ g) : FieldB (W.setCell a v) g m :=
  ⟨h.1.set hne, fun j hj => by rw [World.cell?_setCell_other _ _ _ _ (by intro c; apply hne; rw [c])]; exact h.2.1 j hj, by rw [World.size_setCell]; exact h.2.2⟩
theorem RdAt.putLo {w W : World} {m lo hi : Nat} (h : RdAt w W m lo hi) (k : Nat) : RdAt w ((((W.setCell ⟨w.heap.size + 1 + 1 + 1, 0, none⟩ (.int .u64 (limb k 0 : Nat))).setCell ⟨w.heap.size + 1 + 1 + 1, 1, none⟩ (.int .u64 (limb k 1 : Nat))).setCell ⟨w.heap.size + 1 + 1 + 1, 2, none⟩ (.int .u64 (limb k 2 : Nat))).setCell ⟨w.heap.size + 1 + 1 + 1, 3, none⟩ (.int .u64 (limb k 3 : Nat))) m k hi := by
  have n1 : w.heap.size + 1 + 1 + 1 ≠ w.heap.size := by omega
  have n2 : w.heap.size + 1 + 1 + 1 ≠ w.heap.size + 1 + 1 := by omega
  have n3 : w.heap.size + 1 + 1 + 1 ≠ w.heap.size + 1 + 1 + 1 + 1 := by omega
  have n5 : w.heap.size ≤ w.heap.size + 1 + 1 + 1 := by omega
  exact ⟨(((h.1.setB n1).setB n1).setB n1).setB n1, (((h.2.1.set n2).set n2).set n2).set n2, h.2.2.1.put, (((h.2.2.2.1.set n3).set n3).set n3).set n3, (((h.2.2.2.2.setCell n5 _).setCell n5 _).setCell n5 _).setCell n5 _⟩
theorem RdAt.putHi {w W : World} {m lo hi : Nat} (h : RdAt w W m lo hi) (k : Nat) : RdAt w ((((W.setCell ⟨w.heap.size + 1 + 1 + 1 + 1, 0, none⟩ (.int .u64 (limb k 0 : Nat))).setCell ⟨w.heap.size + 1 + 1 + 1 + 1, 1, none⟩ (.int .u64 (limb k 1 : Nat))).setCell ⟨w.heap.size + 1 + 1 + 1 + 1, 2, none⟩ (.int .u64 (limb k 2 : Nat))).setCell ⟨w.heap.size + 1 + 1 + 1 + 1, 3, none⟩ (.int .u64 (limb k 3 : Nat))) m lo k := by
  have n1 : w.heap.size + 1 + 1 + 1 + 1 ≠ w.heap.size := by omega
  have n2 : w.heap.size + 1 + 1 + 1 + 1 ≠ w.heap.size + 1 + 1 := by omega
  have n3 : w.heap.size + 1 + 1 + 1 + 1 ≠ w.heap.size + 1 + 1 + 1 := by omega
  have n5 : w.heap.size ≤ w.heap.size + 1 + 1 + 1 + 1 := by omega
  exact ⟨(((h.1.setB n1).setB n1).setB n1).setB n1, (((h.2.1.set n2).set n2).set n2).set n2, (((h.2.2.1.set n3).set n3).set n3).set n3, h.2.2.2.1.put, (((h.2.2.2.2.setCell n5 _).setCell n5 _).setCell n5 _).setCell n5 _⟩
def cellNat (w : World) (b j : Nat) : Nat := match w.cell? ⟨b, j, none⟩ with
  | some (.int _ n) => n.toNat
  | _ => 0
def numAt (w : World) (b : Nat) : Nat := join4 (cellNat w b 0) (cellNat w b 1) (cellNat w b 2) (cellNat w b 3)
theorem numAt_eq {w : World} {b n : Nat} (h : Num4 w b n) (hn : n < R256) : numAt w b = n := by
  obtain ⟨h0, h1, h2, h3⟩ := h.facts
  unfold numAt cellNat
  rw [h0, h1, h2, h3]
  exact join_limb n hn

theorem addK_val' (a b : Nat) : R256 * addK a b + addN a b = a + b := by unfold addK addN; rw [Nat.add_comm, Nat.mod_add_div]
theorem limb_some' (m : Nat) (hm : m < R256) (h0 : 0 < m) : ¬ (limb m 0 = 0 ∧ limb m 1 = 0 ∧ limb m 2 = 0 ∧ limb m 3 = 0) := by
  rintro ⟨e0, e1, e2, e3⟩
  have j := join_limb m hm
  rw [e0, e1, e2, e3] at j
  unfold join4 at j
  omega
end Go.Proofs.YtienklnigigepaaGreatDoor
