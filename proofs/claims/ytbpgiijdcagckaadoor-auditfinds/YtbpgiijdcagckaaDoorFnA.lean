/- The first secret that is given away: the plain mathematics; a nonce as a map's key; maps by nonces; shares in memory. -/
import Derived.Test.YtbpgiijdcagckaaDoorTwM
import Derived.Test.YtbpgiijdcagckaaDoorAuF
namespace Go.Proofs.YtbpgiijdcagckaaDoor
open Go Go.RowKit Go.Lib Go.WideMaps Go.Maps
theorem rowNo : (65 : TypeId) < Tryd.prog.types.size := of_decide_eq_true (by kernel_rfl)
theorem wideNo : (match Tryd.prog.underlying 65 with | some (.array _ _) | some (.struct _) => true | _ => false) = true := by kernel_rfl
set_option maxRecDepth 100000 in
theorem lawNo : Keyed Tryd.prog 65 := Keyed.of_law (deep_law_laid laidOutP (m := 6) (by omega) rowNo (by kernel_rfl) wideNo)
theorem cellsO : Tryd.prog.cellsOf 65 = 23 := by kernel_rfl
theorem kl_no (D : Nat) (t : Td) (h : t.W) : ∃ l, Program.keyLits Tryd.prog (D + 5) 65 (noV t) = some l := by
  obtain ⟨l1, h1⟩ := kl_pr D t h
  have h0 := kl_num (D + 2) t.f
  unfold Program.keyLits
  rw [Tryd.underlying65]
  simp only [prV] at h1
  simp only [nuV] at h0
  simp [cellsO, cellsR, cellsN, noV, h0, h1]
theorem key_no (t : Td) (h : t.W) : ∃ l, keyOf Tryd.prog 65 (.agg (noV t).toArray) = some l := by
  have hs : ∃ D, Tryd.prog.types.size + 1 = D + 5 := ⟨Tryd.prog.types.size - 4, by
    have : 4 ≤ Tryd.prog.types.size := of_decide_eq_true (by kernel_rfl)
    omega⟩
  obtain ⟨D, hD⟩ := hs
  obtain ⟨l, hl⟩ := kl_no D t h
  have hk : Tryd.prog.keyType 65 = true := by kernel_rfl
  have hf : (Value.agg (noV t).toArray).formed Tryd.prog 65 = true := by
    simp [Value.formed, Tryd.underlying65, cellsO, noV]
  have hl' : Program.keyLits Tryd.prog (Tryd.prog.types.size + 1) 65 (noV t) = some l := by
    rw [hD]
    exact hl
  refine ⟨.string (keyBytes l), ?_⟩
  unfold keyOf
  rw [Tryd.underlying65]
  show (if (Tryd.prog.keyType 65 && (Value.agg (noV t).toArray).formed Tryd.prog 65) = true then (Program.keyLits Tryd.prog (Tryd.prog.types.size + 1) 65 (noV t)).map fun ls => Lit.string (keyBytes ls) else none) = _
  rw [hk, hf, hl']
  rfl
/-- A nonce's key. -/
noncomputable def klN (t : Td) : Lit := (keyOf Tryd.prog 65 (.agg (noV t).toArray)).getD .nil
theorem keyn_is (t : Td) (h : t.W) : keyOf Tryd.prog 65 (.agg (noV t).toArray) = some (klN t) := by
  obtain ⟨l, hl⟩ := key_no t h
  unfold klN
  rw [hl]
  rfl
theorem eqNo_iff (a b : Td) : eqNo a b = true ↔ noV a = noV b := by
  simp [eqNo, eqPr, eqD, eqE, eqn, eq4, noV, and_assoc]
set_option maxRecDepth 100000 in
theorem kln_iff (a b : Td) (ha : a.W) (hb : b.W) : klN a = klN b ↔ eqNo a b = true := by
  rw [eqNo_iff]
  constructor
  · intro h
    have k1 := keyn_is a ha
    have k2 := keyn_is b hb
    rw [h] at k1
    have e := lawNo.inj k1 k2
    injection e with e
    have e2 : (noV a).toArray.toList = (noV b).toArray.toList := congrArg Array.toList e
    exact e2
  · intro h
    unfold klN
    rw [h]
/-- Block B is a map, of N keys, from nonces to values. -/
def MapN (z : Value) (w : World) (B N : Nat) (n : Nat) (ts : Nat → Td) (p : Nat → Option Value) : Prop := ∃ D : DataW Value, w.ownsMap Tryd.prog 65 anyW B N D ∧ Maps.size D = N ∧ ∀ j, j < n → KeyL z D (klN (ts j)) (p j)
theorem MapN.made (z : Value) (w : World) (n : Nat) (ts : Nat → Td) : MapN z (w.alloc (.map #[] 0)) w.heap.size 0 n ts (fun _ => none) := ⟨.map [], World.ownsMap_made _ _ _ _, rfl, fun _ _ => ⟨rfl, rfl⟩⟩
theorem MapN.block {z : Value} {w w' : World} {B N n : Nat} {ts : Nat → Td} {p : Nat → Option Value} (h : MapN z w B N n ts p) (hb : w'.heap[B]? = w.heap[B]?) : MapN z w' B N n ts p := by
  obtain ⟨D, ⟨es, clock, h1, h2⟩, h3⟩ := h
  exact ⟨D, ⟨es, clock, hb.trans h1, h2⟩, h3⟩
theorem MapN.lt {z : Value} {w : World} {B N n : Nat} {ts : Nat → Td} {p : Nat → Option Value} (h : MapN z w B N n ts p) : B < w.heap.size := by
  obtain ⟨D, h1, _⟩ := h
  exact h1.lt
theorem MapN.call {z : Value} {w w' : World} {B N n : Nat} {ts : Nat → Td} {p : Nat → Option Value} (h : MapN z w B N n ts p) (hb : Below w.heap.size w w') : MapN z w' B N n ts p := h.block (hb.block B h.lt)
theorem MapN.eq {z : Value} {w : World} {B N n : Nat} {ts : Nat → Td} {p q : Nat → Option Value} (h : MapN z w B N n ts p) (he : ∀ j, j < n → q j = p j) : MapN z w B N n ts q := by
  obtain ⟨D, h1, h2, h3⟩ := h
  exact ⟨D, h1, h2, fun j hj => by rw [he j hj]; exact h3 j hj⟩
set_option maxRecDepth 100000 in
theorem MapN.look {z : Value} {T e : TypeId} {w : World} {B N n j : Nat} {ts : Nat → Td} {p : Nat → Option Value} (h : MapN z w B N n ts p) (hT : Tryd.prog.underlying T = some (.map 65 e)) (hz : (zeroValue e).run Tryd.prog w = .ok z w) (hj : j < n) (hW : (ts j).W) :
    (Instr.lookup T (.map (some B)) (.agg (noV (ts j)).toArray) true).run Tryd.prog w = .ok (.tuple #[(p j).getD z, .bool (p j).isSome]) w := by
  obtain ⟨D, h1, _, h3⟩ := h
  obtain ⟨v, ps, hrun, hv⟩ := h1.look_ok lawNo hT hz (zd := .held z) (zp := []) rfl (keyn_is (ts j) hW)
  rw [(h3 j hj).at] at hv
  rw [hrun, anyW_inv hv, (h3 j hj).has]
set_option maxRecDepth 100000 in
theorem MapN.len {z : Value} {T e : TypeId} {w : World} {B N n : Nat} {ts : Nat → Td} {p : Nat → Option Value} (h : MapN z w B N n ts p) (hT : Tryd.prog.underlying T = some (.map 65 e)) (ty : TypeId) : (Builtin.len_ #[T] ty #[.map (some B)]).run Tryd.prog w = .ok (.int .i64 (N : Nat)) w := by
  obtain ⟨D, h1, h2, h3⟩ := h
  have := h1.len hT ty
  rw [h2] at this
  exact this
set_option maxRecDepth 100000 in
theorem MapN.update {z v : Value} {T e : TypeId} {w : World} {B N n k : Nat} {ts : Nat → Td} {p : Nat → Option Value} (h : MapN z w B N n ts p) (hT : Tryd.prog.underlying T = some (.map 65 e)) (hN : N < 100000) (hk : k < n) (hW : ∀ j, j < n → (ts j).W) :
    ∃ w', (Instr.mapUpdate T (.map (some B)) (.agg (noV (ts k)).toArray) v).run Tryd.prog w = .ok () w' ∧ MapN z w' B (if (p k).isSome then N else N + 1) n ts (fun j => if eqNo (ts k) (ts j) = true then some v else p j) ∧ w.mapTurned w' B := by
  obtain ⟨D, h1, h2, h3⟩ := h
  obtain ⟨w', hrun, ho, hg⟩ := h1.store lawNo hT (by unfold maxLen; omega) (keyn_is (ts k) (hW k hk)) (show anyW v = some (.held v, []) from rfl)
  have kk := lawNo.key (keyn_is (ts k) (hW k hk))
  have hs := size_put (k := klN (ts k)) (h1.tidy lawNo) (.held v)
  rw [(h3 k hk).has, h2] at hs
  refine ⟨w', hrun, ⟨_, ?_, hs, fun j hj => ?_⟩, hg⟩
  · obtain ⟨es, clock, hb, F, hle, hD⟩ := ho
    refine ⟨es, clock, hb, F, ?_, hD⟩
    rw [← hs, hD]
    simp [Maps.size, length_sorted]
  · by_cases q : eqNo (ts k) (ts j) = true
    · have e := (kln_iff (ts k) (ts j) (hW k hk) (hW j hj)).2 q
      show KeyL z _ (klN (ts j)) (if eqNo (ts k) (ts j) = true then some v else p j)
      rw [if_pos q, ← e]
      exact ⟨has_put_same (k := klN (ts k)) h1.isMap kk _, atKey_put_same (k := klN (ts k)) h1.isMap kk _ _⟩
    · show KeyL z _ (klN (ts j)) (if eqNo (ts k) (ts j) = true then some v else p j)
      rw [if_neg q]
      have hne : klN (ts j) ≠ klN (ts k) := fun c => q ((kln_iff (ts k) (ts j) (hW k hk) (hW j hj)).1 c.symm)
      exact (h3 j hj).other (has_put_other hne _) (atKey_put_other hne _ _)
/-- Shares in memory. -/
def TdsAt (w : World) (a : Option Addr) (n : Nat) (ts : Nat → Td) : Prop := ∀ j, j < n → ∃ b o, a = some ⟨b, o, none⟩ ∧ w.rangeAt b (o + j * 35) (tdV (ts j)) ∧ b < w.heap.size
theorem TdsAt.call {w w' : World} {a : Option Addr} {n : Nat} {ts : Nat → Td} (h : TdsAt w a n ts) (hb : Below w.heap.size w w') : TdsAt w' a n ts := fun j hj => by
  obtain ⟨b, o, e, hr, hl⟩ := h j hj
  exact ⟨b, o, e, rangeAt_below hr hl hb, Nat.lt_of_lt_of_le hl hb.size⟩
theorem No_eqv (ts : Nat → Td) : EqR (fun i j => eqNo (ts i) (ts j)) :=
  ⟨fun _ => (eqNo_iff _ _).2 rfl, fun _ _ h => (eqNo_iff _ _).2 ((eqNo_iff _ _).1 h).symm, fun _ _ _ h1 h2 => (eqNo_iff _ _).2 (((eqNo_iff _ _).1 h1).trans ((eqNo_iff _ _).1 h2))⟩
/-- The first one's numbers are scalars, and the nonces are alike; the second one's are not, or the share of the key is as many times. -/
def En (ts : Nat → Td) (i j : Nat) : Bool := (ts i).ok && eqNo (ts i) (ts j)
def Cn (ts : Nat → Td) (i j : Nat) : Bool := !(ts j).ok || decide (tmN (ts i) = tmN (ts j))
theorem lk_hit {ts : Nat → Td} {i j : Nat} (h : cfI (En ts) (Cn ts) i j = true) : lkE (ts i) (ts j) = 0 := by
  unfold cfI En Cn at h
  unfold lkE
  cases h1 : (ts i).ok <;> cases h2 : (ts j).ok <;> cases h3 : eqNo (ts i) (ts j) <;> by_cases h4 : tmN (ts i) = tmN (ts j) <;> simp [h1, h2, h3, h4] at h ⊢
theorem lk_not {ts : Nat → Td} {i j : Nat} (h : cfI (En ts) (Cn ts) i j = false) : ¬ lkE (ts i) (ts j) = 0 := by
  unfold cfI En Cn at h
  unfold lkE
  cases h1 : (ts i).ok <;> cases h2 : (ts j).ok <;> cases h3 : eqNo (ts i) (ts j) <;> by_cases h4 : tmN (ts i) = tmN (ts j) <;> simp [h1, h2, h3, h4] at h ⊢
theorem tw_skip {ts : Nat → Td} {k : Nat} (h : (ts k).ok = false) : fstI (cfI (En ts) (Cn ts)) k k = none :=
  fstI_of_none fun i hi => by unfold cfI Cn; rw [h]; simp
theorem tw_sameO {ts : Nat → Td} {k i : Nat} (h0 : twI (En ts) (Cn ts) k = none) (h : fstI (En ts) k k = some i) (hc : Cn ts i k = true) : fstI (cfI (En ts) (Cn ts)) k k = none :=
  fstI_of_none fun x hx => by
    obtain ⟨hi, he, hf⟩ := fstI_some h
    cases hE : En ts x k with
    | false => unfold cfI; rw [hE]; rfl
    | true =>
      have hxi : i ≤ x := by
        by_cases c : x < i
        · rw [hf x c] at hE; cases hE
        · omega
      by_cases c : i = x
      · subst c
        unfold cfI
        rw [hc]
        simp
      · have h1 := twI_none h0 x hx i (by omega)
        unfold En at he hE
        rw [Bool.and_eq_true] at he hE
        have h2 : eqNo (ts i) (ts x) = true := (No_eqv ts).trans i k x he.2 ((No_eqv ts).symm x k hE.2)
        have h3 : tmN (ts i) = tmN (ts x) := by
          unfold cfI En Cn at h1
          rw [he.1, h2, hE.1] at h1
          simpa using h1
        unfold Cn at hc
        unfold cfI Cn
        rw [← h3]
        cases h4 : (ts k).ok with
        | false => simp
        | true =>
          rw [h4] at hc
          simp at hc
          simp [hc]
theorem En_step {ts : Nat → Td} {k : Nat} (ho : (ts k).ok = true) (j : Nat) : fstI (En ts) j (k + 1) = match fstI (En ts) k k with
    | some _ => fstI (En ts) j k
    | none => if eqNo (ts k) (ts j) = true then some k else fstI (En ts) j k := by
  have hk : En ts k j = eqNo (ts k) (ts j) := by unfold En; rw [ho, Bool.true_and]
  rw [fstI_succ]
  cases hj : fstI (En ts) j k with
  | some i =>
    cases hf : fstI (En ts) k k with
    | some x => rfl
    | none =>
      obtain ⟨hi, he, -⟩ := fstI_some hj
      have h1 := fstI_none hf i hi
      have h2 : eqNo (ts k) (ts j) = false := by
        cases c : eqNo (ts k) (ts j) with
        | false => rfl
        | true =>
          unfold En at he h1
          rw [Bool.and_eq_true] at he
          rw [he.1, Bool.true_and] at h1
          have := (No_eqv ts).trans i j k he.2 ((No_eqv ts).symm k j c)
          rw [h1] at this
          cases this
      simp [h2]
  | none =>
    cases hf : fstI (En ts) k k with
    | none => simp [hk]
    | some x =>
      obtain ⟨hx, he, -⟩ := fstI_some hf
      have h1 := fstI_none hj x hx
      have h2 : eqNo (ts k) (ts j) = false := by
        cases c : eqNo (ts k) (ts j) with
        | false => rfl
        | true =>
          unfold En at he h1
          rw [Bool.and_eq_true] at he
          rw [he.1, Bool.true_and] at h1
          have := (No_eqv ts).trans x k j he.2 c
          rw [h1] at this
          cases this
      simp [hk, h2]
theorem En_skip {ts : Nat → Td} {k : Nat} (ho : (ts k).ok = false) (j : Nat) : fstI (En ts) j (k + 1) = fstI (En ts) j k := by
  have hk : En ts k j = false := by unfold En; rw [ho, Bool.false_and]
  rw [fstI_succ, hk]
  cases fstI (En ts) j k <;> rfl
/-- How many nonces there are among the first k whose numbers are scalars. -/
def dnI (ts : Nat → Td) : Nat → Nat
  | 0 => 0
  | k + 1 => dnI ts k + (if (ts k).ok && (fstI (En ts) k k).isNone then 1 else 0)
theorem dnI_le (ts : Nat → Td) : ∀ k, dnI ts k ≤ k
  | 0 => Nat.le_refl _
  | k + 1 => by
    have := dnI_le ts k
    unfold dnI
    split <;> omega
/-- What Find tells. -/
def fA (ts : Nat → Td) : Option (Nat × Nat) → Int
  | none => 0
  | some x => (ts x.2).n
def fB (ts : Nat → Td) : Option (Nat × Nat) → Nat
  | none => 0
  | some x => lkN (ts x.1) (ts x.2)
end Go.Proofs.YtbpgiijdcagckaaDoor
