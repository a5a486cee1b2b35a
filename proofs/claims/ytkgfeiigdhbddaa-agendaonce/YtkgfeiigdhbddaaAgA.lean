/- Package agenda: a pile in memory, and the calls that only look. -/
import Derived.Test.YtkgfeiigdhbddaaAgN
import Derived.Test.YtkgfeiigdhbddaaPnt
import Derived.Maps.OwnSet
namespace Go.Proofs.Ytkgfeiigdhbddaa
open Go Go.RowKit Go.Lib Go.WideMaps Go.Maps

theorem lawA : Keyed Try.prog 3 := int_keyed Try.underlying3
theorem zeroA (w : World) : (zeroValue 3).run Try.prog w = .ok (.int .i64 0) w := by kernel_rfl
/-- What a key is known for. -/
def KeyAt (D : DataW Unit) (t : Nat) : Option Nat → Prop
  | some k => has D (.int .i64 (t : Nat)) = true ∧ D.atKey (.int .i64 (t : Nat)) (.lit (.int .i64 0)) = .lit (.int .i64 (k : Nat))
  | none => has D (.int .i64 (t : Nat)) = false ∧ D.atKey (.int .i64 (t : Nat)) (.lit (.int .i64 0)) = .lit (.int .i64 0)
/-- Block B is a map of N tickets to their places. -/
def MapT (w : World) (B N : Nat) (p : Nat → Option Nat) : Prop := ∃ D : DataW Unit, w.ownsMap Try.prog 3 (plainElem Try.prog 3) B N D ∧ Maps.size D = N ∧ ∀ t : Nat, KeyAt D t (p t)
theorem MapT.made (w : World) : MapT (w.alloc (.map #[] 0)) w.heap.size 0 (fun _ => none) := ⟨.map [], World.ownsMap_made _ _ _ _, rfl, fun _ => ⟨rfl, rfl⟩⟩
theorem MapT.block {w w' : World} {B k : Nat} {p : Nat → Option Nat} (h : MapT w B k p) (hb : w'.heap[B]? = w.heap[B]?) : MapT w' B k p := by
  obtain ⟨D, ⟨es, clock, h1, h2⟩, h3⟩ := h
  exact ⟨D, ⟨es, clock, hb.trans h1, h2⟩, h3⟩
theorem MapT.lt {w : World} {B k : Nat} {p : Nat → Option Nat} (h : MapT w B k p) : B < w.heap.size := by
  obtain ⟨D, h1, _⟩ := h
  exact h1.lt
theorem keyA {t : Nat} (h : t < 9223372036854775808) : keyOf Try.prog 3 (.int .i64 (t : Nat)) = some (.int .i64 (t : Nat)) := keyOf_int_mk Try.underlying3 (WalkArith.wf_i64 (by omega))
theorem MapT.look {w : World} {B N t : Nat} {p : Nat → Option Nat} (h : MapT w B N p) (ht : t < 9223372036854775808) : (Instr.lookup 52 (.map (some B)) (.int .i64 (t : Nat)) true).run Try.prog w = .ok (.tuple #[.int .i64 (((p t).getD 0 : Nat)), .bool (p t).isSome]) w := by
  obtain ⟨D, h1, _, h3⟩ := h
  obtain ⟨v, ps, hrun, hv⟩ := h1.look_ok lawA Try.underlying52 (zeroA w) (plainElem_int (a := 0) Try.underlying3 (WalkArith.wf_i64 (by decide))) (keyA ht)
  obtain ⟨c, rfl, hc, _⟩ := plainElem_int_inv Try.underlying3 hv
  simp only [Prod.mk.injEq] at hc
  have h4 := h3 t
  cases e : p t with
  | none =>
    rw [e] at h4
    rw [hrun, h4.1]
    have := hc.1.symm.trans h4.2
    injection this with this
    injection this with _ this
    rw [this]; rfl
  | some k =>
    rw [e] at h4
    rw [hrun, h4.1]
    have := hc.1.symm.trans h4.2
    injection this with this
    injection this with _ this
    rw [this]; rfl
theorem KeyAt.other {D D' : DataW Unit} {t : Nat} {o : Option Nat} (h : KeyAt D t o) (h1 : has D' (.int .i64 (t : Nat)) = has D (.int .i64 (t : Nat))) (h2 : D'.atKey (.int .i64 (t : Nat)) (.lit (.int .i64 0)) = D.atKey (.int .i64 (t : Nat)) (.lit (.int .i64 0))) : KeyAt D' t o := by
  cases o with
  | none => exact ⟨h1.trans h.1, h2.trans h.2⟩
  | some k => exact ⟨h1.trans h.1, h2.trans h.2⟩
theorem MapT.update {w : World} {B N t k : Nat} {p : Nat → Option Nat} (h : MapT w B N p) (hN : N < 1000) (ht : t < 9223372036854775808) (hk : k < 1000) : ∃ w', (Instr.mapUpdate 52 (.map (some B)) (.int .i64 (t : Nat)) (.int .i64 (k : Nat))).run Try.prog w = .ok () w' ∧ MapT w' B (if (p t).isSome then N else N + 1) (upd p t (some k)) ∧ w.mapTurned w' B := by
  obtain ⟨D, h1, h2, h3⟩ := h
  obtain ⟨w', hrun, ho, hg⟩ := h1.store lawA Try.underlying52 (by unfold maxLen; omega) (keyA ht) (plainElem_int (a := (k : Nat)) Try.underlying3 (WalkArith.wf_i64 (by omega)))
  have hs := size_put (k := .int .i64 (t : Nat)) (h1.tidy lawA) (.lit (.int .i64 (k : Nat)))
  have hh : has D (.int .i64 (t : Nat)) = (p t).isSome := by
    have := h3 t
    cases e : p t with
    | none => rw [e] at this; exact this.1
    | some k => rw [e] at this; exact this.1
  rw [hh, h2] at hs
  refine ⟨w', hrun, ⟨_, ?_, hs, fun x => ?_⟩, hg⟩
  · obtain ⟨es, clock, hb, F, hle, hD⟩ := ho
    refine ⟨es, clock, hb, F, ?_, hD⟩
    rw [← hs, hD]
    simp [Maps.size, length_sorted]
  · by_cases q : x = t
    · subst q
      rw [upd_s]
      exact ⟨has_put_same (k := .int .i64 (x : Nat)) h1.isMap trivial _, atKey_put_same (k := .int .i64 (x : Nat)) h1.isMap trivial _ _⟩
    · rw [upd_o q]
      have hne : Lit.int .i64 (x : Nat) ≠ Lit.int .i64 (t : Nat) := fun c => q (by injection c with _ c; omega)
      exact (h3 x).other (has_put_other hne _) (atKey_put_other hne _ _)
theorem MapT.drop {w : World} {B N t : Nat} {p : Nat → Option Nat} (h : MapT w B (N + 1) p) (ht : t < 9223372036854775808) (hp : (p t).isSome = true) (ty : TypeId) : ∃ w', (Builtin.delete_ #[52, 3] ty #[.map (some B), .int .i64 (t : Nat)]).run Try.prog w = .ok (.tuple #[]) w' ∧ MapT w' B N (upd p t none) ∧ w.mapTurned w' B := by
  obtain ⟨D, h1, h2, h3⟩ := h
  obtain ⟨w', hrun, ho, hg⟩ := h1.drop lawA Try.underlying52 (keyA ht) ty
  have hs := size_del (k := .int .i64 (t : Nat)) (h1.tidy lawA)
  have hh : has D (.int .i64 (t : Nat)) = true := by
    have := h3 t
    cases e : p t with
    | none => rw [e] at hp; cases hp
    | some k => rw [e] at this; exact this.1
  rw [hh, h2] at hs
  have hs' : Maps.size (D.del (.int .i64 (t : Nat))) = N := by simp at hs; exact hs
  refine ⟨w', hrun, ⟨_, ?_, hs', fun x => ?_⟩, hg⟩
  · obtain ⟨es, clock, hb, F, hle, hD⟩ := ho
    refine ⟨es, clock, hb, F, ?_, hD⟩
    rw [← hs', hD]
    simp [Maps.size, length_sorted]
  · by_cases q : x = t
    · subst q
      rw [upd_s]
      exact ⟨has_del_same, atKey_del_same _⟩
    · rw [upd_o q]
      have hne : Lit.int .i64 (x : Nat) ≠ Lit.int .i64 (t : Nat) := fun c => q (by injection c with _ c; omega)
      exact (h3 x).other (has_del_other hne) (atKey_del_other hne _)
/-- The first n entries of block q are those of f. -/
structure Rw (w : World) (q cap n : Nat) (f : Nat → En) : Prop where
  lt : q < w.heap.size
  nc : n ≤ cap
  cl : cap ≤ maxLen
  c0 : ∀ k, k < n → w.cell? ⟨q, k * 3, none⟩ = some (.int .i64 ((f k).t : Nat))
  c1 : ∀ k, k < n → w.cell? ⟨q, k * 3 + 1, none⟩ = some (.int .i64 ((f k).m : Nat))
  c2 : ∀ k, k < n → w.cell? ⟨q, k * 3 + 2, none⟩ = some (.string (f k).s)
  cs : ∀ k, k < cap * 3 → (w.cell? ⟨q, k, none⟩).isSome = true
  fz : ∀ o, w.frozen? ⟨q, o, none⟩ = false
theorem Rw.block {w w' : World} {q cap n : Nat} {f : Nat → En} (h : Rw w q cap n f) (hz : w.heap.size ≤ w'.heap.size) (hb : w'.heap[q]? = w.heap[q]?) : Rw w' q cap n f :=
  have e : ∀ o, w'.cell? ⟨q, o, none⟩ = w.cell? ⟨q, o, none⟩ := fun o => World.cell?_of_block (w := w) (a := ⟨q, o, none⟩) hb
  ⟨Nat.lt_of_lt_of_le h.lt hz, h.nc, h.cl, fun k hk => (e _).trans (h.c0 k hk), fun k hk => (e _).trans (h.c1 k hk), fun k hk => (e _).trans (h.c2 k hk), fun k hk => by rw [e]; exact h.cs k hk,
   fun o => (World.frozen?_of_block (w := w) (a := ⟨q, o, none⟩) hb).trans (h.fz o)⟩
/-- The pile of an agenda at block g: its entries in block q, their places in the map of block B. -/
structure PileI (w : World) (Z : Nat → Prop) (g l q cap B n : Nat) (f : Nat → En) (p : Nat → Option Nat) : Prop where
  zg : Z g
  zq : Z q
  zB : Z B
  gq : g ≠ q
  gB : g ≠ B
  qB : q ≠ B
  gl : g < w.heap.size
  c0 : w.cell? ⟨g, 0, none⟩ = some (.slice (some ⟨q, 0, none⟩) n cap)
  c1 : w.cell? ⟨g, 1, none⟩ = some (.map (some B))
  fg : ∀ o, w.frozen? ⟨g, o, none⟩ = false
  rw : Rw w q cap n f
  mp : MapT w B n p
  pl : PlIs p f n
  nb : n ≤ 512
  tb : ∀ k, k < n → (f k).t < 4611686018427387904
  mb : ∀ k, k < n → (f k).m ≤ 1099511627776
  c2 : w.cell? ⟨g, 2, none⟩ = some (.int .i64 (l : Nat))
theorem PileI.keep {w w' : World} {Z : Nat → Prop} {g l q cap B n : Nat} {f : Nat → En} {p : Nat → Option Nat} (h : PileI w Z g l q cap B n f p) (hz : w.heap.size ≤ w'.heap.size) (h1 : w'.heap[g]? = w.heap[g]?) (h2 : w'.heap[q]? = w.heap[q]?) (h3 : w'.heap[B]? = w.heap[B]?) : PileI w' Z g l q cap B n f p :=
  ⟨h.zg, h.zq, h.zB, h.gq, h.gB, h.qB, Nat.lt_of_lt_of_le h.gl hz, (World.cell?_of_block (w := w) (a := ⟨g, 0, none⟩) h1).trans h.c0, (World.cell?_of_block (w := w) (a := ⟨g, 1, none⟩) h1).trans h.c1,
   fun o => (World.frozen?_of_block (w := w) (a := ⟨g, o, none⟩) h1).trans (h.fg o), h.rw.block hz h2, h.mp.block h3, h.pl, h.nb, h.tb, h.mb, (World.cell?_of_block (w := w) (a := ⟨g, 2, none⟩) h1).trans h.c2⟩
theorem PileI.call {w w' : World} {Z : Nat → Prop} {g l q cap B n : Nat} {f : Nat → En} {p : Nat → Option Nat} (h : PileI w Z g l q cap B n f p) (hb : Below w.heap.size w w') : PileI w' Z g l q cap B n f p :=
  h.keep hb.size (hb.block g h.gl) (hb.block q h.rw.lt) (hb.block B h.mp.lt)
theorem plen_in (g l q cap B n : Nat) (Z : Nat → Prop) (f : Nat → En) (p : Nat → Option Nat) (w : World) (hP : PileI w Z g l q cap B n f p) : Calls Try.prog 22 #[.pointer (some ⟨g, 0, none⟩)] w fun e w' => e = .returned (.int .i64 (n : Nat)) ∧ w' = w := by
  have c0 := hP.c0
  clear hP
  go_enter Try.func22, Try.ntmps22
  go_wp2
  go_ret
  exact ⟨rfl, rfl⟩
end Go.Proofs.Ytkgfeiigdhbddaa
