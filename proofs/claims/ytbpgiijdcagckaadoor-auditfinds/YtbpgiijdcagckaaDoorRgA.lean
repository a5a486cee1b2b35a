/- Several texts laid together. -/
import Derived.Deep.RegionHeld3
import Derived.Below
import Derived.Test.YtbpgiijdcagckaaDoorLbA
namespace Go.Proofs.YtbpgiijdcagckaaDoor
open Go Go.RowKit

section
variable {P : Program} {ops : Array Oper} {Q : Exit → Act → World → Prop}

def dstOf (ops : Array Oper) (j : Nat) : Option Tmp := (ops[j]?).bind (·.dst)
/-- An act in which those operations of a list that l tells have yielded. -/
def fillL (ops : Array Oper) (v : Nat → Value) (l : Nat → Bool) : List Nat → Act → Act
  | [], a => a
  | j :: L, a => fillL ops v l L (if l j then a.put (dstOf ops j) (v j) else a)
theorem fillL_congr (v : Nat → Value) (l l' : Nat → Bool) : ∀ (L : List Nat) (a : Act), (∀ j ∈ L, l j = l' j) → fillL ops v l L a = fillL ops v l' L a
  | [], _, _ => rfl
  | j :: L, a, h => by
    unfold fillL
    rw [h j (List.mem_cons_self ..)]
    exact fillL_congr v l l' L _ fun k hk => h k (List.mem_cons_of_mem _ hk)
theorem fillL_put (v : Nat → Value) (l : Nat → Bool) (d : Option Tmp) (x : Value) : ∀ (L : List Nat) (a : Act), (∀ j ∈ L, ∀ e, d = some e → dstOf ops j ≠ some e) → fillL ops v l L (a.put d x) = (fillL ops v l L a).put d x
  | [], _, _ => rfl
  | j :: L, a, h => by
    unfold fillL
    have h0 := h j (List.mem_cons_self ..)
    have ih := fun b => fillL_put v l d x L b fun k hk => h k (List.mem_cons_of_mem _ hk)
    cases l j with
    | true =>
      simp only [if_true]
      rw [Act.put_comm a x (v j) h0]
      exact ih _
    | false =>
      simp only [Bool.false_eq_true, if_false]
      exact ih _
def upd (l : Nat → Bool) (i : Nat) : Nat → Bool := fun j => if j = i then true else l j
theorem upd_same (l : Nat → Bool) (i : Nat) : upd l i i = true := if_pos rfl
theorem upd_other {l : Nat → Bool} {i j : Nat} (h : j ≠ i) : upd l i j = l j := if_neg h
theorem upd_false {l : Nat → Bool} {i j : Nat} (h : upd l i j = false) : j ≠ i ∧ l j = false := by
  unfold upd at h
  split at h
  · cases h
  · rename_i hj
    exact ⟨hj, h⟩
theorem fillL_set (v : Nat → Value) (l : Nat → Bool) (i : Nat) (hl : l i = false) : ∀ (L : List Nat) (a : Act), i ∈ L → L.Nodup → (∀ j ∈ L, j ≠ i → ∀ e, dstOf ops i = some e → dstOf ops j ≠ some e) →
    fillL ops v (upd l i) L a = (fillL ops v l L a).put (dstOf ops i) (v i)
  | j :: L, a, hi, hn, hd => by
    unfold fillL
    rw [List.nodup_cons] at hn
    by_cases hj : j = i
    · subst hj
      rw [upd_same, hl]
      simp only [if_true, Bool.false_eq_true, if_false]
      rw [fillL_congr v (upd l j) l L _ (fun k hk => upd_other (by rintro rfl; exact hn.1 hk))]
      exact fillL_put v l _ _ L a fun k hk e he => hd k (List.mem_cons_of_mem _ hk) (by rintro rfl; exact hn.1 hk) e he
    · have hi' : i ∈ L := by
        rcases List.mem_cons.1 hi with h | h
        · exact absurd h.symm hj
        · exact h
      rw [upd_other hj]
      exact fillL_set v l i hl L _ hi' hn.2 fun k hk => hd k (List.mem_cons_of_mem _ hk)
/-- Where all that an operation looks at has yielded, all may have. -/
theorem look_all (o : Oper) (hs : ∀ cs b, o.op ≠ .select cs b) (v : Nat → Value) (L : List Nat) (a : Act) (hn : L.Nodup) (hd : ∀ i ∈ L, ∀ j ∈ L, j ≠ i → ∀ e, dstOf ops i = some e → dstOf ops j ≠ some e) :
    ∀ (U : List Nat) (l : Nat → Bool), (∀ j ∈ U, j ∈ L) → (∀ j ∈ L, l j = false → j ∈ U) → (∀ j ∈ U, l j = false → ∀ d, dstOf ops j = some d → d ∉ o.looksAt ops) →
    execOp (fillL ops v (fun _ => true) L a).eval o = execOp (fillL ops v l L a).eval o ∧ Region.wanted o (yielded ops (fillL ops v (fun _ => true) L a).tmps) = Region.wanted o (yielded ops (fillL ops v l L a).tmps)
  | [], l, _, h2, _ => by
    have e : fillL ops v (fun _ => true) L a = fillL ops v l L a := fillL_congr _ _ _ _ _ fun j hj => by
      cases hl : l j with
      | true => rfl
      | false => cases h2 j hj hl
    rw [e]
    exact ⟨rfl, rfl⟩
  | i :: U, l, h1, h2, h3 => by
    cases hl : l i with
    | true =>
      refine look_all o hs v L a hn hd U l (fun j hj => h1 j (List.mem_cons_of_mem _ hj)) (fun j hj hf => ?_) (fun j hj => h3 j (List.mem_cons_of_mem _ hj))
      rcases List.mem_cons.1 (h2 j hj hf) with h | h
      · rw [h, hl] at hf; cases hf
      · exact h
    | false =>
      have ih := look_all o hs v L a hn hd U (upd l i) (fun j hj => h1 j (List.mem_cons_of_mem _ hj)) (fun j hj hf => by
        obtain ⟨ha, hb⟩ := upd_false hf
        rcases List.mem_cons.1 (h2 j hj hb) with h | h
        · exact absurd h ha
        · exact h) (fun j hj hf => h3 j (List.mem_cons_of_mem _ hj) (upd_false hf).2)
      have hi := h1 i (List.mem_cons_self ..)
      rw [fillL_set v l i hl L a hi hn (hd i hi)] at ih
      have h4 := h3 i (List.mem_cons_self ..) hl
      exact ⟨ih.1.trans (execOp_put o hs _ _ _ h4), ih.2.trans (wanted_put o _ _ _ h4)⟩
def cnt (l : Nat → Bool) : Nat → Nat
  | 0 => 0
  | k + 1 => cnt l k + (if l k then 0 else 1)
theorem cnt_upd (l : Nat → Bool) (i : Nat) (hl : l i = false) : ∀ k, cnt (upd l i) k + (if i < k then 1 else 0) = cnt l k
  | 0 => by simp [cnt]
  | k + 1 => by
    have ih := cnt_upd l i hl k
    unfold cnt
    by_cases hk : k = i
    · subst hk
      rw [upd_same, hl]
      simp at ih ⊢
      omega
    · rw [upd_other hk]
      split at ih <;> split <;> split <;> omega
theorem cnt_pos (l : Nat → Bool) (i : Nat) (hl : l i = false) : ∀ k, i < k → 0 < cnt l k
  | 0, h => absurd h (Nat.not_lt_zero _)
  | k + 1, h => by
    unfold cnt
    by_cases hk : k = i
    · subst hk
      rw [hl]
      simp
    · have := cnt_pos l i hl k (by omega)
      omega
/-- What an operation yields, as it lies in the act behind it. -/
def yv (o : Oper) (a : Act) : Value := match o.dst with
  | some d => a.tmps.getD d undef
  | none => undef
def ov (o : Oper) (x : Value) : Value := match o.dst with
  | some _ => x
  | none => undef
/-- An operation does what R says. -/
def OpTo (P : Program) (ops : Array Oper) (o : Oper) (A : Act) (w : World) (R : Value → World → Prop) : Prop :=
  (Region.wanted o (yielded ops A.tmps) = true ∧ ((∃ v w', (execOp A.eval o).run P w = .ok (.value v) w' ∧ R (ov o v) w') ∨ ∀ K : Act → World → Prop, (∀ a' w', a'.defers = A.defers → R (yv o a') w' → K a' w') → o.wp P A w K (fun _ _ _ => False))) ∨
  (Region.wanted o (yielded ops A.tmps) = false ∧ R undef w)
theorem OpTo.wpOp {i : Nat} {o : Oper} {A a : Act} {w : World} {R : Value → World → Prop} {K : Act → World → Prop} (hi : ops[i]? = some o) (he : execOp A.eval o = execOp a.eval o)
    (hw : Region.wanted o (yielded ops A.tmps) = Region.wanted o (yielded ops a.tmps)) (hz : ∀ d, o.dst = some d → d < A.tmps.size) (h : OpTo P ops o A w R)
    (hK : ∀ x w', R (ov o x) w' → K (a.put o.dst x) w') (hu : R undef w → K (a.put o.dst undef) w) : wpOp P ops Q i K a w := by
  unfold Go.wpOp
  simp only [hi]
  have hyv : ∀ u, yv o (A.put o.dst u) = ov o u := fun u => by
    unfold yv ov
    cases hd : o.dst with
    | none => rfl
    | some d => simp [Act.put, hz d hd]
  rcases h with ⟨h1, h2⟩ | ⟨h1, h2⟩
  · rw [hw] at h1
    rw [if_pos h1]
    refine .inl ?_
    rcases h2 with ⟨u, w', h2, h3⟩ | h2
    · unfold Oper.wp
      rw [← he, h2]
      exact hK u w' h3
    have k := h2 (fun a' w' => a'.defers = A.defers ∧ R (yv o a') w') (fun a' w' h3 h4 => ⟨h3, h4⟩)
    unfold Oper.wp at k ⊢
    rw [he] at k
    generalize (execOp a.eval o).run P w = r at *
    cases r with
    | ok n w' =>
      cases n <;> simp only [Oper.upon] at k ⊢
      case value u => exact hK u w' (by rw [← hyv]; exact k.2)
      case skip => exact hK undef w' (by rw [← hyv]; exact k.2)
      case defer d =>
        have h5 := k.1
        have h6 : (({ A with defers := d :: A.defers } : Act).put o.dst undef).defers = d :: A.defers := by
          cases o.dst <;> rfl
        rw [h6] at h5
        exact absurd (congrArg List.length h5) (by simp)
      case enter f args =>
        refine k.mono ?_
        intro e w'' hh
        cases e with
        | returned x => exact hK x w'' (by rw [← hyv]; exact hh.2)
        | panicked c => exact hh.elim
        | outgrown =>
          obtain ⟨_, _, h7⟩ := hh
          exact h7.elim
      case row row args => exact k.mono fun x w'' hh => hK x w'' (by rw [← hyv]; exact hh.2)
      all_goals exact k.elim
    | halt s w' => cases s <;> exact (show False from k).elim
  · rw [hw] at h1
    rw [if_neg (by rw [h1]; decide)]
    exact hu h2
def notSel (o : Oper) : Bool := match o.op with
  | .select _ _ => false
  | _ => true
def waits (o : Oper) (j : Nat) : Bool := o.after.any fun e => Region.binds .any e && e.on == j
/-- The region's form: n operations, then t + 1 more, each of which waits for all ahead of it. -/
def rgB (ops : Array Oper) (n t m : Nat) : Bool :=
  ops.size == n + (t + 1) && (List.range (n + (t + 1))).all fun i => match ops[i]? with
    | none => false
    | some o =>
      (o.after.all fun e => !Region.binds .any e || decide (e.on < i)) && notSel o &&
      (match o.dst with
       | some d => decide (d < m) && (decide (n ≤ i) || (List.range n).all fun j => j == i || dstOf ops j != some d)
       | none => true) &&
      (if n ≤ i then (List.range i).all fun j => waits o j || (decide (n < i) && j + 1 != i) else (List.range n).all fun j => waits o j || match dstOf ops j with
        | some d => !(o.looksAt ops).contains d
        | none => true)
theorem rgB_size {n t m : Nat} (h : rgB ops n t m = true) : ops.size = n + (t + 1) := by
  unfold rgB at h
  rw [Bool.and_eq_true] at h
  exact eq_of_beq h.1
theorem rgB_spec {n t m : Nat} (h : rgB ops n t m = true) {i : Nat} {o : Oper} (ho : ops[i]? = some o) :
    (∀ e ∈ o.after, Region.binds .any e = true → e.on < i) ∧ (∀ cs b, o.op ≠ .select cs b) ∧ (∀ d, o.dst = some d → d < m) ∧
    (i < n → ∀ j, j < n → j ≠ i → ∀ d, o.dst = some d → dstOf ops j ≠ some d) ∧
    (n ≤ i → ∀ j, j < i → (i = n ∨ j + 1 = i) → waits o j = true) ∧ (i < n → ∀ j, j < n → waits o j = true ∨ ∀ d, dstOf ops j = some d → d ∉ o.looksAt ops) := by
  have hs := rgB_size h
  have hin : i < n + (t + 1) := by
    rw [← hs]
    exact (Array.getElem?_eq_some_iff.1 ho).1
  unfold rgB at h
  rw [Bool.and_eq_true] at h
  have k := List.all_eq_true.1 h.2 i (List.mem_range.2 hin)
  simp only [ho, Bool.and_eq_true] at k
  obtain ⟨⟨⟨k1, k2⟩, k3⟩, k4⟩ := k
  refine ⟨fun e he hb => ?_, fun cs b hc => ?_, fun d hd => ?_, fun hne j hj hji d hd hc => ?_, fun hi j hj hjn => ?_, fun hne j hj => ?_⟩
  · have := Array.all_eq_true_iff_forall_mem.1 k1 e he
    rw [hb] at this
    simpa using this
  · unfold notSel at k2
    rw [hc] at k2
    cases k2
  · rw [hd] at k3
    simp only [Bool.and_eq_true] at k3
    exact of_decide_eq_true k3.1
  · rw [hd] at k3
    simp only [Bool.and_eq_true, Bool.or_eq_true] at k3
    rcases k3.2 with q | q
    · exact absurd (of_decide_eq_true q) (by omega)
    · have := List.all_eq_true.1 q j (List.mem_range.2 hj)
      simp [hji, hc] at this
  · rw [if_pos hi] at k4
    have q := List.all_eq_true.1 k4 j (List.mem_range.2 hj)
    rw [Bool.or_eq_true, Bool.and_eq_true] at q
    rcases q with q | ⟨q1, q2⟩
    · exact q
    · have h1 := of_decide_eq_true q1
      rcases hjn with e | e
      · omega
      · rw [e] at q2
        simp at q2
  · rw [if_neg (by omega)] at k4
    have := List.all_eq_true.1 k4 j (List.mem_range.2 hj)
    simp only [Bool.or_eq_true] at this
    rcases this with q | q
    · exact .inl q
    · refine .inr fun d hd hm => ?_
      rw [hd] at q
      simp [hm] at q
theorem lst_set {listed : Array Bool} {i : Nat} (hi : i < listed.size) : (fun j => (listed.setIfInBounds i true).getD j false) = upd (fun j => listed.getD j false) i := by
  funext j
  unfold upd
  by_cases h : j = i
  · subst h
    simp [hi]
  · rw [if_neg h]
    simp only [Array.getD_eq_getD_getElem?]
    rw [Array.getElem?_setIfInBounds_ne (Ne.symm h)]
theorem waits_spec {o : Oper} {j : Nat} (h : waits o j = true) : ∃ e ∈ o.after, Region.binds .any e = true ∧ e.on = j := by
  unfold waits at h
  obtain ⟨e, he, h2⟩ := Array.any_eq_true'.1 h
  rw [Bool.and_eq_true] at h2
  exact ⟨e, he, h2.1, eq_of_beq h2.2⟩
/-- Each of a list's operations does as asked. -/
def EachOp (ob : Nat → Oper → Prop) : Nat → List Oper → Prop
  | _, [] => True
  | i, o :: l => ob i o ∧ EachOp ob (i + 1) l
theorem EachOp.get {ob : Nat → Oper → Prop} : ∀ {l : List Oper} {k : Nat}, EachOp ob k l → ∀ {i : Nat} {o : Oper}, l[i]? = some o → ob (k + i) o
  | [], _, _, _, _, h => by simp at h
  | o :: l, k, h, 0, o', ho => by
    have : o = o' := by simpa using ho
    subst this
    exact h.1
  | o :: l, k, h, i + 1, o', ho => by
    have := EachOp.get h.2 (i := i) (o := o') (by simpa using ho)
    rw [show k + (i + 1) = k + 1 + i from by omega]
    exact this
/-- The act in which all have yielded. -/
def fillD : List (Option Tmp × Value) → Act → Act
  | [], a => a
  | p :: l, a => fillD l (a.put p.1 p.2)
theorem fill_D (v : Nat → Value) : ∀ (L : List Nat) (a : Act), fillL ops v (fun _ => true) L a = fillD (L.map fun j => (dstOf ops j, v j)) a
  | [], _ => rfl
  | j :: L, a => by
    unfold fillL
    exact fill_D v L _
/-- The operations from number i on, one behind the other. -/
def wpTail (P : Program) (ops : Array Oper) (Q : Exit → Act → World → Prop) : Nat → Nat → Act → World → Prop
  | 0, _, a, w => Q .normal a w
  | k + 1, i, a, w => wpOp P ops Q i (wpTail P ops Q k (i + 1)) a w
theorem getD_not {listed : Array Bool} {k : Nat} (hk : k < listed.size) : listed.getD k true = listed.getD k false := by
  simp [Array.getD, hk]
theorem wpAny_tail {n t m : Nat} (hr : rgB ops n t m = true) : ∀ (k i fuel : Nat) (listed : Array Bool) (a : Act) (w : World), n ≤ i → i + k = n + (t + 1) → k ≤ fuel → listed.size = n + (t + 1) → (∀ j, listed.getD j false = decide (j < i)) →
    wpTail P ops Q k i a w → wpAny P .any ops Q fuel listed a w
  | 0, i, fuel, listed, a, w, hni, hk, _, hs, hl, h => by
    have hre : Region.ready .any ops listed = [] := by
      refine List.eq_nil_iff_forall_not_mem.2 fun q hq => ?_
      obtain ⟨h1, o, ho, _⟩ := mem_ready.1 hq
      have hq' : q < n + (t + 1) := by
        rw [← rgB_size hr]
        exact (Array.getElem?_eq_some_iff.1 ho).1
      rw [getD_not (by omega), hl q, decide_eq_true (by omega)] at h1
      cases h1
    cases fuel with
    | zero => exact ⟨hre, h⟩
    | succ fuel => exact ⟨fun _ => h, fun q hq => by rw [hre] at hq; cases hq⟩
  | k + 1, i, 0, _, _, _, _, _, hf, _, _, _ => absurd hf (by omega)
  | k + 1, i, fuel + 1, listed, a, w, hni, hk, hf, hs, hl, h => by
    have hsz := rgB_size hr
    have hi : i < ops.size := by omega
    have ho : ops[i]? = some (ops[i]'hi) := Array.getElem?_eq_getElem _
    refine ⟨fun hre => ?_, fun q hq => ?_⟩
    · exfalso
      have : i ∈ Region.ready .any ops listed := mem_ready.2 ⟨by
        rw [getD_not (by omega), hl i]
        exact decide_eq_false (by omega), _, ho, fun e he hb => by
        rw [hl]
        exact decide_eq_true ((rgB_spec hr ho).1 e he hb)⟩
      rw [hre] at this
      cases this
    · obtain ⟨h1, o, hoq, hall⟩ := mem_ready.1 hq
      have hq' : q < n + (t + 1) := by
        rw [← hsz]
        exact (Array.getElem?_eq_some_iff.1 hoq).1
      rw [getD_not (by omega), hl q] at h1
      have hqi : i ≤ q := Nat.le_of_not_lt (of_decide_eq_false h1)
      have hq2 : q = i := by
        by_cases hne : q = i
        · exact hne
        · exfalso
          obtain ⟨e, he, hb, hej⟩ := waits_spec ((rgB_spec hr hoq).2.2.2.2.1 (by omega) (q - 1) (by omega) (.inr (by omega)))
          have := hall e he hb
          rw [hej, hl (q - 1)] at this
          exact absurd (of_decide_eq_true this) (by omega)
      subst hq2
      refine wpOp_mono (fun a' w' hq => wpAny_tail hr k (q + 1) fuel _ a' w' (by omega) (by omega) (by omega) (by simpa using hs) (fun j => ?_) hq) h
      have := congrFun (lst_set (listed := listed) (i := q) (by omega)) j
      refine this.trans ?_
      by_cases hj : j = q
      · subst hj
        rw [upd_same]
        exact (decide_eq_true (by omega)).symm
      · rw [upd_other hj]
        show listed.getD j false = _
        rw [hl j]
        exact decide_eq_decide.2 (by omega)
def ptrB (al : Nat) (v : Nat → Value) (b : Nat) (j : Nat) : Value := if j = al then .pointer (some ⟨b, 0, none⟩) else v j
theorem fillL_size (v : Nat → Value) (l : Nat → Bool) : ∀ (L : List Nat) (a : Act), (fillL ops v l L a).tmps.size = a.tmps.size
  | [], _ => rfl
  | j :: L, a => by
    unfold fillL
    rw [fillL_size v l L]
    split
    · unfold Act.put
      split
      · simp
      · rfl
    · rfl
theorem cnt_from (l : Nat → Bool) (n : Nat) (h : ∀ j, n ≤ j → l j = false) : ∀ k, cnt l (n + k) = cnt l n + k
  | 0 => rfl
  | k + 1 => by
    show cnt l (n + k) + (if l (n + k) then 0 else 1) = _
    rw [cnt_from l n h k, h (n + k) (by omega)]
    simp
    omega
theorem wpAny_I {a0 : Act} {W0 : World} (n t al : Nat) (v : Nat → Value) (B : World → Nat → Prop) (A : Nat → Act) (hr : rgB ops n t a0.tmps.size = true)
    (hA : ∀ b, fillL ops (ptrB al v b) (fun _ => true) (List.range n) a0 = A b)
    (hB : ∀ w w' b, B w b → Below w.heap.size w w' → B w' b)
    (hop : EachOp (fun i o => i < n → i ≠ al → ∀ b w, Below W0.heap.size W0 w → OpTo P ops o (A b) w (fun x w' => x = ov o (v i) ∧ Below w.heap.size w w')) 0 ops.toList)
    (hal : ∀ o, ops[al]? = some o → ∀ b w, Below W0.heap.size W0 w → OpTo P ops o (A b) w (fun x w' => ∃ c, x = ov o (.pointer (some ⟨c, 0, none⟩)) ∧ B w' c ∧ W0.heap.size ≤ c ∧ Below w.heap.size w w'))
    (hfin : ∀ b w, Below W0.heap.size W0 w → (al < n → B w b ∧ W0.heap.size ≤ b) → wpTail P ops Q (t + 1) n (A b) w) :
    ∀ (fuel : Nat) (listed : Array Bool) (b : Nat) (w : World), listed.size = n + (t + 1) → (∀ j, n ≤ j → listed.getD j false = false) → cnt (fun j => listed.getD j false) (n + (t + 1)) ≤ fuel →
      Below W0.heap.size W0 w → (listed.getD al false = true → B w b ∧ W0.heap.size ≤ b) →
      wpAny P .any ops Q fuel listed (fillL ops (ptrB al v b) (fun j => listed.getD j false) (List.range n) a0) w
  | 0, listed, b, w, hs, hn, hc, _, _ => absurd hc (Nat.not_le.2 (cnt_pos _ n (hn n (Nat.le_refl _)) _ (by omega)))
  | fuel + 1, listed, b, w, hs, hn, hc, hW, hb => by
    have hsz := rgB_size hr
    have hdis : ∀ i ∈ List.range n, ∀ j ∈ List.range n, j ≠ i → ∀ e, dstOf ops i = some e → dstOf ops j ≠ some e := fun i hi j hj hji e he => by
      have hi' := List.mem_range.1 hi
      have hj' := List.mem_range.1 hj
      have ho : ops[i]? = some (ops[i]'(by omega)) := Array.getElem?_eq_getElem _
      have hd : (ops[i]'(by omega)).dst = some e := by
        unfold dstOf at he
        rw [ho] at he
        exact he
      exact (rgB_spec hr ho).2.2.2.1 hi' j hj' hji e hd
    refine ⟨fun hre => ?_, fun i hi => ?_⟩
    · exfalso
      have key : ∀ k, k ≤ n + (t + 1) → ∀ j, j < k → listed.getD j false = true := by
        intro k
        induction k with
        | zero => intro _ j hj; exact absurd hj (Nat.not_lt_zero _)
        | succ k ih =>
          intro hk j hj
          by_cases hjk : j = k
          · subst hjk
            have ho : ops[j]? = some (ops[j]'(by omega)) := Array.getElem?_eq_getElem _
            cases hl : listed.getD j false with
            | true => rfl
            | false =>
              exfalso
              have : j ∈ Region.ready .any ops listed := mem_ready.2 ⟨by
                have hjs : j < listed.size := by omega
                simp only [Array.getD, hjs, dif_pos] at hl ⊢
                exact hl, _, ho, fun e he hbd => ih (by omega) e.on ((rgB_spec hr ho).1 e he hbd)⟩
              rw [hre] at this
              cases this
          · exact ih (by omega) j (by omega)
      have h9 := hn n (Nat.le_refl _)
      rw [key (n + (t + 1)) (Nat.le_refl _) n (by omega)] at h9
      cases h9
    · obtain ⟨hun, o, ho, hall⟩ := mem_ready.1 hi
      have hin : i < n + (t + 1) := by
        rw [← hsz]
        exact (Array.getElem?_eq_some_iff.1 ho).1
      have hil : i < listed.size := by omega
      have hlf : listed.getD i false = false := by
        simp only [Array.getD, hil, dif_pos] at hun ⊢
        exact hun
      obtain ⟨s1, s2, s3, s4, s5, s6⟩ := rgB_spec hr ho
      have hset := lst_set (listed := listed) hil
      by_cases hin' : n ≤ i
      · have hin2 : i = n := by
          by_cases hne : i = n
          · exact hne
          · exfalso
            obtain ⟨e, he, hbd, hej⟩ := waits_spec (s5 hin' (i - 1) (by omega) (.inr (by omega)))
            have h9 := hall e he hbd
            rw [hej, hn (i - 1) (by omega)] at h9
            cases h9
        subst hin2
        have hl : ∀ j ∈ List.range i, listed.getD j false = true := fun j hj => by
          obtain ⟨e, he, hbd, hej⟩ := waits_spec (s5 hin' j (List.mem_range.1 hj) (.inl rfl))
          rw [← hej]
          exact hall e he hbd
        rw [fillL_congr (ptrB al v b) (fun j => listed.getD j false) (fun _ => true) (List.range i) a0 hl, hA b]
        have hcn : t ≤ fuel := by
          have h1 := cnt_from (fun j => listed.getD j false) i hn (t + 1)
          omega
        refine wpOp_mono (fun a' w' hq => wpAny_tail hr t (i + 1) fuel _ a' w' (by omega) (by omega) hcn (by simpa using hs) (fun j => ?_) hq) (hfin b w hW fun hal' => hb (hl al (List.mem_range.2 hal')))
        refine (congrFun hset j).trans ?_
        by_cases hj : j = i
        · subst hj
          rw [upd_same]
          exact (decide_eq_true (by omega)).symm
        · rw [upd_other hj]
          show listed.getD j false = _
          by_cases hj2 : j < i
          · rw [hl j (List.mem_range.2 hj2)]
            exact (decide_eq_true (by omega)).symm
          · rw [hn j (by omega)]
            exact (decide_eq_false (by omega)).symm
      · have hlt : i < n := by omega
        have hmem : i ∈ List.range n := List.mem_range.2 hlt
        have hlook : ∀ j ∈ List.range n, listed.getD j false = false → ∀ d, dstOf ops j = some d → d ∉ o.looksAt ops := fun j hj hf => by
          rcases s6 hlt j (List.mem_range.1 hj) with q | q
          · obtain ⟨e, he, hbd, hej⟩ := waits_spec q
            rw [← hej, hall e he hbd] at hf
            cases hf
          · exact q
        have hlk := look_all o s2 (ptrB al v b) (List.range n) a0 List.nodup_range hdis (List.range n) (fun j => listed.getD j false) (fun j hj => hj) (fun j hj _ => hj) hlook
        rw [hA b] at hlk
        have hz : ∀ d, o.dst = some d → d < (A b).tmps.size := fun d hd => by
          rw [← hA b, fillL_size]
          exact s3 d hd
        have hds : dstOf ops i = o.dst := by unfold dstOf; rw [ho]; rfl
        have hcn : cnt (fun j => (listed.setIfInBounds i true).getD j false) (n + (t + 1)) ≤ fuel := by
          have h1 := cnt_upd (fun j => listed.getD j false) i hlf (n + (t + 1))
          rw [if_pos hin] at h1
          rw [hset]
          omega
        have hsn : ∀ j, n ≤ j → (listed.setIfInBounds i true).getD j false = false := fun j hj => by
          have : (listed.setIfInBounds i true).getD j false = upd (fun j => listed.getD j false) i j := congrFun hset j
          rw [this, upd_other (by omega)]
          exact hn j hj
        by_cases hal' : i = al
        · subst hal'
          have step : ∀ c w', B w' c → W0.heap.size ≤ c → Below w.heap.size w w' → wpAny P .any ops Q fuel (listed.setIfInBounds i true) ((fillL ops (ptrB i v b) (fun j => listed.getD j false) (List.range n) a0).put o.dst (.pointer (some ⟨c, 0, none⟩))) w' := fun c w' h1 h2 h3 => by
            have e1 : fillL ops (ptrB i v b) (fun j => listed.getD j false) (List.range n) a0 = fillL ops (ptrB i v c) (fun j => listed.getD j false) (List.range n) a0 := by
              have : ∀ (L : List Nat) (a : Act), fillL ops (ptrB i v b) (fun j => listed.getD j false) L a = fillL ops (ptrB i v c) (fun j => listed.getD j false) L a := by
                intro L
                induction L with
                | nil => intro a; rfl
                | cons j L ih =>
                  intro a
                  unfold fillL
                  by_cases hji : j = i
                  · subst hji
                    simp only [hlf, Bool.false_eq_true, if_false]
                    exact ih _
                  · have : ptrB i v b j = ptrB i v c j := by unfold ptrB; rw [if_neg hji, if_neg hji]
                    rw [this]
                    exact ih _
              exact this _ _
            have e2 : ptrB i v c i = .pointer (some ⟨c, 0, none⟩) := if_pos rfl
            have e3 := fillL_set (ops := ops) (ptrB i v c) (fun j => listed.getD j false) i hlf (List.range n) a0 hmem List.nodup_range (hdis i hmem)
            rw [e2, hds, ← hset] at e3
            rw [e1, ← e3]
            exact wpAny_I n t i v B A hr hA hB hop hal hfin fuel _ c w' (by simpa using hs) hsn hcn (hW.trans (h3.mono hW.size)) (fun _ => ⟨h1, h2⟩)
          refine (hal o ho b w hW).wpOp ho hlk.1 hlk.2 hz (fun x w' hx => ?_) (fun hx => ?_)
          · obtain ⟨c, h0, h1, h2, h3⟩ := hx
            have hxe : (fillL ops (ptrB i v b) (fun j => listed.getD j false) (List.range n) a0).put o.dst x = (fillL ops (ptrB i v b) (fun j => listed.getD j false) (List.range n) a0).put o.dst (.pointer (some ⟨c, 0, none⟩)) := by
              unfold ov at h0
              cases hd : o.dst with
              | none => rfl
              | some d => rw [hd] at h0; simp only at h0; rw [h0]
            rw [hxe]
            exact step c w' h1 h2 h3
          · obtain ⟨c, h0, h1, h2, h3⟩ := hx
            have hxe : (fillL ops (ptrB i v b) (fun j => listed.getD j false) (List.range n) a0).put o.dst undef = (fillL ops (ptrB i v b) (fun j => listed.getD j false) (List.range n) a0).put o.dst (.pointer (some ⟨c, 0, none⟩)) := by
              unfold ov at h0
              cases hd : o.dst with
              | none => rfl
              | some d => rw [hd] at h0; simp only at h0; rw [h0]
            rw [hxe]
            exact step c w h1 h2 h3
        · have step : ∀ w', Below w.heap.size w w' → wpAny P .any ops Q fuel (listed.setIfInBounds i true) ((fillL ops (ptrB al v b) (fun j => listed.getD j false) (List.range n) a0).put o.dst (v i)) w' := fun w' h3 => by
            have e2 : ptrB al v b i = v i := if_neg hal'
            have e3 := fillL_set (ops := ops) (ptrB al v b) (fun j => listed.getD j false) i hlf (List.range n) a0 hmem List.nodup_range (hdis i hmem)
            rw [e2, hds, ← hset] at e3
            rw [← e3]
            refine wpAny_I n t al v B A hr hA hB hop hal hfin fuel _ b w' (by simpa using hs) hsn hcn (hW.trans (h3.mono hW.size)) (fun hl => ?_)
            have h4 : listed.getD al false = true := by
              have : (listed.setIfInBounds i true).getD al false = upd (fun j => listed.getD j false) i al := congrFun hset al
              rw [this, upd_other (Ne.symm hal')] at hl
              exact hl
            exact ⟨hB w w' b (hb h4).1 h3, (hb h4).2⟩
          have hob := hop.get (i := i) (o := o) (by simpa using ho)
          rw [Nat.zero_add] at hob
          refine (hob hlt hal' b w hW).wpOp ho hlk.1 hlk.2 hz (fun x w' hx => ?_) (fun hx => ?_)
          · have hxe : (fillL ops (ptrB al v b) (fun j => listed.getD j false) (List.range n) a0).put o.dst x = (fillL ops (ptrB al v b) (fun j => listed.getD j false) (List.range n) a0).put o.dst (v i) := by
              have h0 := hx.1
              unfold ov at h0
              cases hd : o.dst with
              | none => rfl
              | some d => rw [hd] at h0; simp only at h0; rw [h0]
            rw [hxe]
            exact step w' hx.2
          · have hxe : (fillL ops (ptrB al v b) (fun j => listed.getD j false) (List.range n) a0).put o.dst undef = (fillL ops (ptrB al v b) (fun j => listed.getD j false) (List.range n) a0).put o.dst (v i) := by
              have h0 := hx.1
              unfold ov at h0
              cases hd : o.dst with
              | none => rfl
              | some d => rw [hd] at h0; simp only at h0; rw [h0]
            rw [hxe]
            exact step w hx.2
/-- Each operation of a list yields its value. -/
def EachV (P : Program) (ops : Array Oper) (A : Nat → Act) (W0 : World) (al : Nat) : Nat → List Oper → List Value → Prop
  | i, o :: l, v :: vs => (i ≠ al → ∀ b w, Below W0.heap.size W0 w → OpTo P ops o (A b) w (fun x w' => x = ov o v ∧ Below w.heap.size w w')) ∧ EachV P ops A W0 al (i + 1) l vs
  | _, _, _ => True
theorem EachV.each {A : Nat → Act} {W0 : World} {al n : Nat} (vs0 : List Value) : ∀ (l : List Oper) (vs : List Value) (i : Nat), (∀ k v, vs[k]? = some v → vs0.getD (i + k) undef = v) → n ≤ i + vs.length → EachV P ops A W0 al i l vs →
    EachOp (fun i o => i < n → i ≠ al → ∀ b w, Below W0.heap.size W0 w → OpTo P ops o (A b) w (fun x w' => x = ov o (vs0.getD i undef) ∧ Below w.heap.size w w')) i l
  | [], _, _, _, _, _ => trivial
  | o :: l, [], i, _, hn, _ => by
    refine ⟨fun hi => absurd hn (by simp; omega), EachV.each vs0 l [] (i + 1) (fun k v h => by simp at h) (by simp at hn ⊢; omega) ?_⟩
    cases l <;> trivial
  | o :: l, v :: vs, i, hv, hn, h => by
    refine ⟨fun hi hne b w hW => ?_, EachV.each vs0 l vs (i + 1) (fun k u hu => ?_) (by simp at hn ⊢; omega) h.2⟩
    · have e := hv 0 v rfl
      rw [Nat.add_zero] at e
      rw [e]
      exact h.1 hne b w hW
    · have e := hv (k + 1) u (by simpa using hu)
      rw [show i + 1 + k = i + (k + 1) from by omega]
      exact e
theorem zip_fill (al b : Nat) (vs : List Value) (n : Nat) (hl : vs.length = n) : (List.range n).map (fun j => (dstOf ops j, ptrB al (fun j => vs.getD j undef) b j)) = List.zip ((List.range n).map (dstOf ops)) (vs.set al (.pointer (some ⟨b, 0, none⟩))) := by
  refine List.ext_getElem (by simp [hl]) fun k h1 h2 => ?_
  have hk : k < n := by simpa using h1
  rw [List.getElem_map, List.getElem_zip, List.getElem_map, List.getElem_range, List.getElem_set]
  unfold ptrB
  by_cases h : k = al
  · subst h
    rw [if_pos rfl, if_pos rfl]
  · rw [if_neg h, if_neg (Ne.symm h)]
    simp [List.getD_eq_getElem?_getD, hl, hk]
theorem wpOp_at {i : Nat} {o : Oper} {a : Act} {w : World} {K : Act → World → Prop} (hi : ops[i]? = some o) (hw : Region.wanted o (yielded ops a.tmps) = true) (h : o.wp P a w K Q) : wpOp P ops Q i K a w := by
  unfold wpOp
  simp only [hi]
  rw [if_pos hw]
  exact .inl h
theorem tail_at {k i : Nat} {o : Oper} {a : Act} {w : World} (hi : ops[i]? = some o) (hw : Region.wanted o (yielded ops a.tmps) = true) (h : o.wp P a w (wpTail P ops Q k (i + 1)) Q) : wpTail P ops Q (k + 1) i a w := wpOp_at hi hw h
theorem tail_end {i : Nat} {a : Act} {w : World} (h : Q .normal a w) : wpTail P ops Q 0 i a w := h
theorem ov_undef (o : Oper) : undef = ov o undef := by unfold ov; split <;> rfl
theorem OpTo.yields {o : Oper} {A : Act} {w : World} {v : Value} (hw : Region.wanted o (yielded ops A.tmps) = true) (h : (execOp A.eval o).run P w = .ok (.value v) w) :
    OpTo P ops o A w (fun x w' => x = ov o v ∧ Below w.heap.size w w') := .inl ⟨hw, .inl ⟨v, w, h, rfl, Below.refl _ _⟩⟩
theorem OpTo.no {o : Oper} {A : Act} {w : World} (hw : Region.wanted o (yielded ops A.tmps) = false) :
    OpTo P ops o A w (fun x w' => x = ov o undef ∧ Below w.heap.size w w') := .inr ⟨hw, ov_undef o, Below.refl _ _⟩
theorem OpTo.calls {o : Oper} {A : Act} {w : World} {v : Value} (hw : Region.wanted o (yielded ops A.tmps) = true) (hy : yv o (A.put o.dst v) = ov o v)
    (h : ∀ K : Act → World → Prop, (∀ w', Below w.heap.size w w' → K (A.put o.dst v) w') → o.wp P A w K (fun _ _ _ => False)) :
    OpTo P ops o A w (fun x w' => x = ov o v ∧ Below w.heap.size w w') :=
  .inl ⟨hw, .inr fun K hK => h K fun w' hb => hK _ w' (by unfold Act.put; split <;> rfl) ⟨hy, hb⟩⟩
theorem OpTo.make {o : Oper} {A : Act} {w W0 : World} {ob : Obj} {B : World → Nat → Prop} (hS : Below W0.heap.size W0 w) (hw : Region.wanted o (yielded ops A.tmps) = true)
    (h : (execOp A.eval o).run P w = .ok (.value (.pointer (some ⟨w.heap.size, 0, none⟩))) (w.alloc ob)) (hB : B (w.alloc ob) w.heap.size) :
    OpTo P ops o A w (fun x w' => ∃ c, x = ov o (.pointer (some ⟨c, 0, none⟩)) ∧ B w' c ∧ W0.heap.size ≤ c ∧ Below w.heap.size w w') :=
  .inl ⟨hw, .inl ⟨_, _, h, w.heap.size, rfl, hB, hS.size, (Below.refl _ _).alloc (Nat.le_refl _) ob⟩⟩
/-- A drawn region: what each operation yields is told, one block is made anywhere, the last operation waits for all. -/
theorem wp_region_I' {id : Nat} {a : Act} {w : World} (n t al : Nat) (vs : List Value) (D : List (Option Tmp)) (B : World → Nat → Prop) (A : Nat → Act) (hm : P.follows .mixedOrders = true) (hr : rgB ops n t a.tmps.size = true)
    (hD : (List.range n).map (dstOf ops) = D) (hl : vs.length = n)
    (hA : ∀ b, fillD (List.zip D (vs.set al (.pointer (some ⟨b, 0, none⟩)))) a = A b)
    (hB : ∀ w w' b, B w b → Below w.heap.size w w' → B w' b)
    (hop : EachV P ops A w al 0 ops.toList vs)
    (hal0 : ∀ o, ops[al]? = some o → ∀ b wx, Below w.heap.size w wx → OpTo P ops o (A b) wx (fun x w' => ∃ c, x = ov o (.pointer (some ⟨c, 0, none⟩)) ∧ B w' c ∧ w.heap.size ≤ c ∧ Below wx.heap.size wx w'))
    (hfin : ∀ b wx, Below w.heap.size w wx → (al < n → B wx b ∧ w.heap.size ≤ b) → wpTail P ops Q (t + 1) n (A b) wx) : (Code.region id ops true).wp P Q a w := by
  have hs := rgB_size hr
  refine wp_region_any hm ?_
  have k := wpAny_I (Q := Q) (P := P) (a0 := a) (W0 := w) n t al (fun j => vs.getD j undef) B A hr (fun b => by rw [fill_D, zip_fill al b vs n hl, hD]; exact hA b) hB (EachV.each vs _ vs 0 (fun k v h => by rw [Nat.zero_add, List.getD_eq_getElem?_getD, h]; rfl) (by omega) hop) hal0 hfin
    ops.size (Array.replicate ops.size false) 0 w.drew (by simp [hs]) (fun j _ => by simp [Array.getD]) ?_ (Below.drew (Below.refl _ _)) (fun h => ?_)
  · have e : fillL ops (ptrB al (fun j => vs.getD j undef) 0) (fun j => (Array.replicate ops.size false).getD j false) (List.range n) a = a := by
      have : ∀ (L : List Nat) (a : Act), fillL ops (ptrB al (fun j => vs.getD j undef) 0) (fun j => (Array.replicate ops.size false).getD j false) L a = a := by
        intro L
        induction L with
        | nil => intro a; rfl
        | cons j L ih =>
          intro a
          unfold fillL
          rw [ih]
          rw [if_neg]
          simp [Array.getD]
      exact this _ _
    rw [e] at k
    exact k
  · have : ∀ k, cnt (fun j => (Array.replicate ops.size false).getD j false) k = k := by
      intro k
      induction k with
      | zero => rfl
      | succ k ih =>
        unfold cnt
        rw [ih]
        rw [if_neg]
        simp [Array.getD]
    rw [this, hs]
    exact Nat.le_refl _
  · exact absurd h (by simp [Array.getD])
/-- With a block that is made anywhere between. -/
theorem wp_region_I {id : Nat} {a : Act} {w : World} (n t al : Nat) (vs : List Value) (D : List (Option Tmp)) (B : World → Nat → Prop) (A : Nat → Act) (oa : Oper) (hm : P.follows .mixedOrders = true) (hr : rgB ops n t a.tmps.size = true)
    (hD : (List.range n).map (dstOf ops) = D) (hl : vs.length = n)
    (hA : ∀ b, fillD (List.zip D (vs.set al (.pointer (some ⟨b, 0, none⟩)))) a = A b)
    (hB : ∀ w w' b, B w b → Below w.heap.size w w' → B w' b)
    (hop : EachV P ops A w al 0 ops.toList vs) (hoa : ops[al]? = some oa) (han : al < n)
    (hal : ∀ b wx, Below w.heap.size w wx → OpTo P ops oa (A b) wx (fun x w' => ∃ c, x = ov oa (.pointer (some ⟨c, 0, none⟩)) ∧ B w' c ∧ w.heap.size ≤ c ∧ Below wx.heap.size wx w'))
    (hfin : ∀ b wx, Below w.heap.size w wx → B wx b → w.heap.size ≤ b → wpTail P ops Q (t + 1) n (A b) wx) : (Code.region id ops true).wp P Q a w :=
  wp_region_I' n t al vs D B A hm hr hD hl hA hB hop (fun o ho => by rw [hoa] at ho; injection ho with ho; subst ho; exact hal) (fun b wx hS hb => hfin b wx hS (hb han).1 (hb han).2)
/-- Without one. -/
theorem wp_region_J {id : Nat} {a : Act} {w : World} (n t : Nat) (vs : List Value) (D : List (Option Tmp)) (A : Act) (hm : P.follows .mixedOrders = true) (hr : rgB ops n t a.tmps.size = true)
    (hD : (List.range n).map (dstOf ops) = D) (hl : vs.length = n)
    (hA : fillD (List.zip D vs) a = A)
    (hop : EachV P ops (fun _ => A) w (n + (t + 1)) 0 ops.toList vs)
    (hfin : ∀ wx, Below w.heap.size w wx → wpTail P ops Q (t + 1) n A wx) : (Code.region id ops true).wp P Q a w :=
  wp_region_I' n t (n + (t + 1)) vs D (fun _ _ => True) (fun _ => A) hm hr hD hl (fun b => by rw [List.set_eq_of_length_le (by omega)]; exact hA) (fun _ _ _ _ _ => trivial) hop
    (fun o ho => by
      have := (Array.getElem?_eq_some_iff.1 ho).1
      rw [rgB_size hr] at this
      omega) (fun _ wx hS _ => hfin wx hS)
end
end Go.Proofs.YtbpgiijdcagckaaDoor

namespace Go.Proofs.YtbpgiijdcagckaaDoor
open Go Go.RowKit

def OwnC (w : World) (b : Nat) (vs : List Value) : Prop := b < w.heap.size ∧ (∀ o, w.frozen? ⟨b, o, none⟩ = false) ∧ ∀ j v, vs[j]? = some v → w.cell? ⟨b, j, none⟩ = some v
theorem OwnC.lt {w : World} {b : Nat} {vs : List Value} (h : OwnC w b vs) : b < w.heap.size := h.1
theorem OwnC.call {w w' : World} {b : Nat} {vs : List Value} (h : OwnC w b vs) (hb : Below w.heap.size w w') : OwnC w' b vs :=
  ⟨Nat.lt_of_lt_of_le h.1 hb.size, fun o => (hb.frozen (p := ⟨b, o, none⟩) h.1).trans (h.2.1 o), fun j v hv => (hb.cell (p := ⟨b, j, none⟩) h.1).trans (h.2.2 j v hv)⟩
theorem OwnC.alloc {w : World} {b : Nat} {vs : List Value} {ob : Obj} (h : OwnC w b vs) : OwnC (w.alloc ob) b vs := h.call (below_alloc0 (Below.refl _ _) _)
theorem OwnC.drew {w : World} {b : Nat} {vs : List Value} (h : OwnC w b vs) : OwnC w.drew b vs := h.call (Below.drew (Below.refl _ _))
theorem OwnC.new (w : World) (vs : List Value) (t : TypeId) : OwnC (w.alloc (.cells vs.toArray t)) w.heap.size vs :=
  ⟨by simp, fun o => World.frozen?_alloc_new _ _ _ _, fun j v hv => by rw [World.cell?_alloc_new]; simpa using hv⟩
theorem OwnC.new' {w : World} {vs : List Value} {t : TypeId} {b : Nat} (h : b = w.heap.size) : OwnC (w.alloc (.cells vs.toArray t)) b vs := by subst h; exact OwnC.new w vs t
def putL (b : Nat) : Nat → List Value → World → World
  | _, [], w => w
  | j, v :: vs, w => putL b (j + 1) vs (w.setCell ⟨b, j, none⟩ v)
theorem putL_size (b : Nat) : ∀ (vs : List Value) (j : Nat) (w : World), (putL b j vs w).heap.size = w.heap.size
  | [], _, _ => rfl
  | v :: vs, j, w => by unfold putL; rw [putL_size b vs, World.size_setCell]
theorem putL_frozen (b : Nat) (p : Addr) : ∀ (vs : List Value) (j : Nat) (w : World), (putL b j vs w).frozen? p = w.frozen? p
  | [], _, _ => rfl
  | v :: vs, j, w => by unfold putL; rw [putL_frozen b p vs, World.frozen?_setCell]
theorem putL_cell (b : Nat) (p : Addr) : ∀ (vs : List Value) (j : Nat) (w : World), (∀ k, p = ⟨b, k, none⟩ → k < j) → (putL b j vs w).cell? p = w.cell? p
  | [], _, _, _ => rfl
  | v :: vs, j, w, h => by
    unfold putL
    rw [putL_cell b p vs (j + 1) _ (fun k hk => Nat.lt_succ_of_lt (h k hk))]
    exact World.cell?_setCell_other _ _ _ _ (fun hc => absurd (h j hc.symm) (Nat.lt_irrefl _))
theorem putL_get (b : Nat) : ∀ (vs us : List Value) (j : Nat) (w : World), vs.length = us.length → (∀ k v, us[k]? = some v → w.cell? ⟨b, j + k, none⟩ = some v) → ∀ k v, vs[k]? = some v → (putL b j vs w).cell? ⟨b, j + k, none⟩ = some v
  | [], _, _, _, _, _, k, v, h => by simp at h
  | v :: vs, [], _, _, hl, _, _, _, _ => by simp at hl
  | v :: vs, u :: us, j, w, hl, hu, k, x, hx => by
    unfold putL
    have h0 : w.cell? ⟨b, j, none⟩ = some u := hu 0 u rfl
    cases k with
    | zero =>
      have : v = x := by simpa using hx
      subst this
      rw [Nat.add_zero, putL_cell b _ vs (j + 1) _ (fun k hk => by injection hk with _ hk _; omega)]
      simp [go_sem, h0]
    | succ k =>
      have e : j + (k + 1) = j + 1 + k := by omega
      rw [e]
      refine putL_get b vs us (j + 1) _ (by simpa using hl) (fun q y hy => ?_) k x (by simpa using hx)
      rw [World.cell?_setCell_other _ _ _ _ (fun hc => by injection hc with _ hc _; omega)]
      have := hu (q + 1) y (by simpa using hy)
      rw [show j + 1 + q = j + (q + 1) from by omega]
      exact this
theorem OwnC.put {w : World} {b : Nat} {us : List Value} (vs : List Value) (h : OwnC w b us) (hl : vs.length = us.length) : OwnC (putL b 0 vs w) b vs :=
  ⟨by rw [putL_size]; exact h.1, fun o => by rw [putL_frozen]; exact h.2.1 o, fun j v hv => by
    have k := putL_get b vs us 0 w hl (fun k v hv => by rw [Nat.zero_add]; exact h.2.2 k v hv) j v hv
    rw [Nat.zero_add] at k
    exact k⟩
theorem OwnC.puts {w : World} {b c : Nat} {us : List Value} (vs : List Value) (j : Nat) (h : OwnC w c us) (hne : c ≠ b) : OwnC (putL b j vs w) c us :=
  ⟨by rw [putL_size]; exact h.1, fun o => by rw [putL_frozen]; exact h.2.1 o, fun k v hv => by
    rw [putL_cell b _ vs j w (fun q hq => absurd (congrArg Addr.block hq) hne)]
    exact h.2.2 k v hv⟩
theorem below_putL {B b : Nat} {a : World} (hB : B ≤ b) : ∀ (vs : List Value) (j : Nat) (w : World), Below B a w → Below B a (putL b j vs w)
  | [], _, _, h => h
  | v :: vs, j, w, h => by unfold putL; exact below_putL hB vs (j + 1) _ (Below.setCell (p := ⟨b, j, none⟩) h hB _)
def numL (n : Nat) : List Value := [.int .u64 (limb n 0 : Nat), .int .u64 (limb n 1 : Nat), .int .u64 (limb n 2 : Nat), .int .u64 (limb n 3 : Nat)]
theorem OwnC.num {w : World} {b : Nat} {n : Nat} (h : OwnC w b (numL n)) : b < w.heap.size ∧ w.cell? ⟨b, 0, none⟩ = some (.int .u64 (limb n 0 : Nat)) ∧ w.cell? ⟨b, 1, none⟩ = some (.int .u64 (limb n 1 : Nat)) ∧ w.cell? ⟨b, 2, none⟩ = some (.int .u64 (limb n 2 : Nat)) ∧ w.cell? ⟨b, 3, none⟩ = some (.int .u64 (limb n 3 : Nat)) ∧ ∀ o, w.frozen? ⟨b, o, none⟩ = false :=
  ⟨h.1, h.2.2 0 _ rfl, h.2.2 1 _ rfl, h.2.2 2 _ rfl, h.2.2 3 _ rfl, h.2.1⟩
def fvL (m : Nat) : List Value := [.int .u64 (limb m 0 : Nat), .int .u64 (limb m 1 : Nat), .int .u64 (limb m 2 : Nat), .int .u64 (limb m 3 : Nat), .int .u64 (limb (R256 - m) 0 : Nat), .int .u64 (limb (R256 - m) 1 : Nat), .int .u64 (limb (R256 - m) 2 : Nat), .int .u64 (limb (R256 - m) 3 : Nat)]
theorem OwnC.fv {w : World} {b : Nat} {m : Nat} (h : OwnC w b (fvL m)) : b < w.heap.size ∧ w.cell? ⟨b, 0, none⟩ = some (.int .u64 (limb m 0 : Nat)) ∧ w.cell? ⟨b, 1, none⟩ = some (.int .u64 (limb m 1 : Nat)) ∧ w.cell? ⟨b, 2, none⟩ = some (.int .u64 (limb m 2 : Nat)) ∧ w.cell? ⟨b, 3, none⟩ = some (.int .u64 (limb m 3 : Nat)) ∧ w.cell? ⟨b, 4, none⟩ = some (.int .u64 (limb (R256 - m) 0 : Nat)) ∧ w.cell? ⟨b, 5, none⟩ = some (.int .u64 (limb (R256 - m) 1 : Nat)) ∧ w.cell? ⟨b, 6, none⟩ = some (.int .u64 (limb (R256 - m) 2 : Nat)) ∧ w.cell? ⟨b, 7, none⟩ = some (.int .u64 (limb (R256 - m) 3 : Nat)) ∧ ∀ o, w.frozen? ⟨b, o, none⟩ = false :=
  ⟨h.1, h.2.2 0 _ rfl, h.2.2 1 _ rfl, h.2.2 2 _ rfl, h.2.2 3 _ rfl, h.2.2 4 _ rfl, h.2.2 5 _ rfl, h.2.2 6 _ rfl, h.2.2 7 _ rfl, h.2.1⟩
def ptL (x y : Nat) (i : Bool) : List Value := [.int .u64 (limb x 0 : Nat), .int .u64 (limb x 1 : Nat), .int .u64 (limb x 2 : Nat), .int .u64 (limb x 3 : Nat), .int .u64 (limb y 0 : Nat), .int .u64 (limb y 1 : Nat), .int .u64 (limb y 2 : Nat), .int .u64 (limb y 3 : Nat), .bool i]
theorem OwnC.pt {w : World} {b : Nat} {x y : Nat} {i : Bool} (h : OwnC w b (ptL x y i)) : b < w.heap.size ∧ w.cell? ⟨b, 0, none⟩ = some (.int .u64 (limb x 0 : Nat)) ∧ w.cell? ⟨b, 1, none⟩ = some (.int .u64 (limb x 1 : Nat)) ∧ w.cell? ⟨b, 2, none⟩ = some (.int .u64 (limb x 2 : Nat)) ∧ w.cell? ⟨b, 3, none⟩ = some (.int .u64 (limb x 3 : Nat)) ∧ w.cell? ⟨b, 4, none⟩ = some (.int .u64 (limb y 0 : Nat)) ∧ w.cell? ⟨b, 5, none⟩ = some (.int .u64 (limb y 1 : Nat)) ∧ w.cell? ⟨b, 6, none⟩ = some (.int .u64 (limb y 2 : Nat)) ∧ w.cell? ⟨b, 7, none⟩ = some (.int .u64 (limb y 3 : Nat)) ∧ w.cell? ⟨b, 8, none⟩ = some (.bool i) ∧ ∀ o, w.frozen? ⟨b, o, none⟩ = false :=
  ⟨h.1, h.2.2 0 _ rfl, h.2.2 1 _ rfl, h.2.2 2 _ rfl, h.2.2 3 _ rfl, h.2.2 4 _ rfl, h.2.2 5 _ rfl, h.2.2 6 _ rfl, h.2.2 7 _ rfl, h.2.2 8 _ rfl, h.2.1⟩
def ovL (x y z : Nat) : List Value := [.int .u64 (limb x 0 : Nat), .int .u64 (limb x 1 : Nat), .int .u64 (limb x 2 : Nat), .int .u64 (limb x 3 : Nat), .int .u64 (limb y 0 : Nat), .int .u64 (limb y 1 : Nat), .int .u64 (limb y 2 : Nat), .int .u64 (limb y 3 : Nat), .int .u64 (limb z 0 : Nat), .int .u64 (limb z 1 : Nat), .int .u64 (limb z 2 : Nat), .int .u64 (limb z 3 : Nat)]
theorem OwnC.ov {w : World} {b : Nat} {x y z : Nat} (h : OwnC w b (ovL x y z)) : b < w.heap.size ∧ w.cell? ⟨b, 0, none⟩ = some (.int .u64 (limb x 0 : Nat)) ∧ w.cell? ⟨b, 1, none⟩ = some (.int .u64 (limb x 1 : Nat)) ∧ w.cell? ⟨b, 2, none⟩ = some (.int .u64 (limb x 2 : Nat)) ∧ w.cell? ⟨b, 3, none⟩ = some (.int .u64 (limb x 3 : Nat)) ∧ w.cell? ⟨b, 4, none⟩ = some (.int .u64 (limb y 0 : Nat)) ∧ w.cell? ⟨b, 5, none⟩ = some (.int .u64 (limb y 1 : Nat)) ∧ w.cell? ⟨b, 6, none⟩ = some (.int .u64 (limb y 2 : Nat)) ∧ w.cell? ⟨b, 7, none⟩ = some (.int .u64 (limb y 3 : Nat)) ∧ w.cell? ⟨b, 8, none⟩ = some (.int .u64 (limb z 0 : Nat)) ∧ w.cell? ⟨b, 9, none⟩ = some (.int .u64 (limb z 1 : Nat)) ∧ w.cell? ⟨b, 10, none⟩ = some (.int .u64 (limb z 2 : Nat)) ∧ w.cell? ⟨b, 11, none⟩ = some (.int .u64 (limb z 3 : Nat)) ∧ ∀ o, w.frozen? ⟨b, o, none⟩ = false :=
  ⟨h.1, h.2.2 0 _ rfl, h.2.2 1 _ rfl, h.2.2 2 _ rfl, h.2.2 3 _ rfl, h.2.2 4 _ rfl, h.2.2 5 _ rfl, h.2.2 6 _ rfl, h.2.2 7 _ rfl, h.2.2 8 _ rfl, h.2.2 9 _ rfl, h.2.2 10 _ rfl, h.2.2 11 _ rfl, h.2.1⟩
def z4L : List Value := [.int .u64 0, .int .u64 0, .int .u64 0, .int .u64 0]
theorem OwnC.z4 {w : World} {b : Nat} (h : OwnC w b z4L) : b < w.heap.size ∧ w.cell? ⟨b, 0, none⟩ = some (.int .u64 0) ∧ w.cell? ⟨b, 1, none⟩ = some (.int .u64 0) ∧ w.cell? ⟨b, 2, none⟩ = some (.int .u64 0) ∧ w.cell? ⟨b, 3, none⟩ = some (.int .u64 0) ∧ ∀ o, w.frozen? ⟨b, o, none⟩ = false :=
  ⟨h.1, h.2.2 0 _ rfl, h.2.2 1 _ rfl, h.2.2 2 _ rfl, h.2.2 3 _ rfl, h.2.1⟩
def z8L : List Value := [.int .u64 0, .int .u64 0, .int .u64 0, .int .u64 0, .int .u64 0, .int .u64 0, .int .u64 0, .int .u64 0]
theorem OwnC.z8 {w : World} {b : Nat} (h : OwnC w b z8L) : b < w.heap.size ∧ w.cell? ⟨b, 0, none⟩ = some (.int .u64 0) ∧ w.cell? ⟨b, 1, none⟩ = some (.int .u64 0) ∧ w.cell? ⟨b, 2, none⟩ = some (.int .u64 0) ∧ w.cell? ⟨b, 3, none⟩ = some (.int .u64 0) ∧ w.cell? ⟨b, 4, none⟩ = some (.int .u64 0) ∧ w.cell? ⟨b, 5, none⟩ = some (.int .u64 0) ∧ w.cell? ⟨b, 6, none⟩ = some (.int .u64 0) ∧ w.cell? ⟨b, 7, none⟩ = some (.int .u64 0) ∧ ∀ o, w.frozen? ⟨b, o, none⟩ = false :=
  ⟨h.1, h.2.2 0 _ rfl, h.2.2 1 _ rfl, h.2.2 2 _ rfl, h.2.2 3 _ rfl, h.2.2 4 _ rfl, h.2.2 5 _ rfl, h.2.2 6 _ rfl, h.2.2 7 _ rfl, h.2.1⟩
def z12L : List Value := [.int .u64 0, .int .u64 0, .int .u64 0, .int .u64 0, .int .u64 0, .int .u64 0, .int .u64 0, .int .u64 0, .int .u64 0, .int .u64 0, .int .u64 0, .int .u64 0]
theorem OwnC.z12 {w : World} {b : Nat} (h : OwnC w b z12L) : b < w.heap.size ∧ w.cell? ⟨b, 0, none⟩ = some (.int .u64 0) ∧ w.cell? ⟨b, 1, none⟩ = some (.int .u64 0) ∧ w.cell? ⟨b, 2, none⟩ = some (.int .u64 0) ∧ w.cell? ⟨b, 3, none⟩ = some (.int .u64 0) ∧ w.cell? ⟨b, 4, none⟩ = some (.int .u64 0) ∧ w.cell? ⟨b, 5, none⟩ = some (.int .u64 0) ∧ w.cell? ⟨b, 6, none⟩ = some (.int .u64 0) ∧ w.cell? ⟨b, 7, none⟩ = some (.int .u64 0) ∧ w.cell? ⟨b, 8, none⟩ = some (.int .u64 0) ∧ w.cell? ⟨b, 9, none⟩ = some (.int .u64 0) ∧ w.cell? ⟨b, 10, none⟩ = some (.int .u64 0) ∧ w.cell? ⟨b, 11, none⟩ = some (.int .u64 0) ∧ ∀ o, w.frozen? ⟨b, o, none⟩ = false :=
  ⟨h.1, h.2.2 0 _ rfl, h.2.2 1 _ rfl, h.2.2 2 _ rfl, h.2.2 3 _ rfl, h.2.2 4 _ rfl, h.2.2 5 _ rfl, h.2.2 6 _ rfl, h.2.2 7 _ rfl, h.2.2 8 _ rfl, h.2.2 9 _ rfl, h.2.2 10 _ rfl, h.2.2 11 _ rfl, h.2.1⟩
def z13L : List Value := [.pointer none, .int .u64 0, .int .u64 0, .int .u64 0, .int .u64 0, .int .u64 0, .int .u64 0, .int .u64 0, .int .u64 0, .int .u64 0, .int .u64 0, .int .u64 0, .int .u64 0]
theorem OwnC.z13 {w : World} {b : Nat} (h : OwnC w b z13L) : b < w.heap.size ∧ w.cell? ⟨b, 0, none⟩ = some (.pointer none) ∧ w.cell? ⟨b, 1, none⟩ = some (.int .u64 0) ∧ w.cell? ⟨b, 2, none⟩ = some (.int .u64 0) ∧ w.cell? ⟨b, 3, none⟩ = some (.int .u64 0) ∧ w.cell? ⟨b, 4, none⟩ = some (.int .u64 0) ∧ w.cell? ⟨b, 5, none⟩ = some (.int .u64 0) ∧ w.cell? ⟨b, 6, none⟩ = some (.int .u64 0) ∧ w.cell? ⟨b, 7, none⟩ = some (.int .u64 0) ∧ w.cell? ⟨b, 8, none⟩ = some (.int .u64 0) ∧ w.cell? ⟨b, 9, none⟩ = some (.int .u64 0) ∧ w.cell? ⟨b, 10, none⟩ = some (.int .u64 0) ∧ w.cell? ⟨b, 11, none⟩ = some (.int .u64 0) ∧ w.cell? ⟨b, 12, none⟩ = some (.int .u64 0) ∧ ∀ o, w.frozen? ⟨b, o, none⟩ = false :=
  ⟨h.1, h.2.2 0 _ rfl, h.2.2 1 _ rfl, h.2.2 2 _ rfl, h.2.2 3 _ rfl, h.2.2 4 _ rfl, h.2.2 5 _ rfl, h.2.2 6 _ rfl, h.2.2 7 _ rfl, h.2.2 8 _ rfl, h.2.2 9 _ rfl, h.2.2 10 _ rfl, h.2.2 11 _ rfl, h.2.2 12 _ rfl, h.2.1⟩
def zpL : List Value := [.int .u64 0, .int .u64 0, .int .u64 0, .int .u64 0, .int .u64 0, .int .u64 0, .int .u64 0, .int .u64 0, .bool false]
theorem OwnC.zp {w : World} {b : Nat} (h : OwnC w b zpL) : b < w.heap.size ∧ w.cell? ⟨b, 0, none⟩ = some (.int .u64 0) ∧ w.cell? ⟨b, 1, none⟩ = some (.int .u64 0) ∧ w.cell? ⟨b, 2, none⟩ = some (.int .u64 0) ∧ w.cell? ⟨b, 3, none⟩ = some (.int .u64 0) ∧ w.cell? ⟨b, 4, none⟩ = some (.int .u64 0) ∧ w.cell? ⟨b, 5, none⟩ = some (.int .u64 0) ∧ w.cell? ⟨b, 6, none⟩ = some (.int .u64 0) ∧ w.cell? ⟨b, 7, none⟩ = some (.int .u64 0) ∧ w.cell? ⟨b, 8, none⟩ = some (.bool false) ∧ ∀ o, w.frozen? ⟨b, o, none⟩ = false :=
  ⟨h.1, h.2.2 0 _ rfl, h.2.2 1 _ rfl, h.2.2 2 _ rfl, h.2.2 3 _ rfl, h.2.2 4 _ rfl, h.2.2 5 _ rfl, h.2.2 6 _ rfl, h.2.2 7 _ rfl, h.2.2 8 _ rfl, h.2.1⟩
def ziL : List Value := [.int .u64 0, .int .u64 0, .int .u64 0, .int .u64 0, .int .u64 0, .int .u64 0, .int .u64 0, .int .u64 0, .bool true]
theorem OwnC.zi {w : World} {b : Nat} (h : OwnC w b ziL) : b < w.heap.size ∧ w.cell? ⟨b, 0, none⟩ = some (.int .u64 0) ∧ w.cell? ⟨b, 1, none⟩ = some (.int .u64 0) ∧ w.cell? ⟨b, 2, none⟩ = some (.int .u64 0) ∧ w.cell? ⟨b, 3, none⟩ = some (.int .u64 0) ∧ w.cell? ⟨b, 4, none⟩ = some (.int .u64 0) ∧ w.cell? ⟨b, 5, none⟩ = some (.int .u64 0) ∧ w.cell? ⟨b, 6, none⟩ = some (.int .u64 0) ∧ w.cell? ⟨b, 7, none⟩ = some (.int .u64 0) ∧ w.cell? ⟨b, 8, none⟩ = some (.bool true) ∧ ∀ o, w.frozen? ⟨b, o, none⟩ = false :=
  ⟨h.1, h.2.2 0 _ rfl, h.2.2 1 _ rfl, h.2.2 2 _ rfl, h.2.2 3 _ rfl, h.2.2 4 _ rfl, h.2.2 5 _ rfl, h.2.2 6 _ rfl, h.2.2 7 _ rfl, h.2.2 8 _ rfl, h.2.1⟩
theorem OwnC.one {w : World} {b : Nat} {v : Value} (h : OwnC w b [v]) : b < w.heap.size ∧ w.cell? ⟨b, 0, none⟩ = some v ∧ ∀ o, w.frozen? ⟨b, o, none⟩ = false := ⟨h.1, h.2.2 0 _ rfl, h.2.1⟩
theorem OwnC.own4 {w : World} {b n : Nat} (h : OwnC w b (numL n)) : Own4 w b n := ⟨limbs4 _ (h.2.2 0 _ rfl) (h.2.2 1 _ rfl) (h.2.2 2 _ rfl) (h.2.2 3 _ rfl), fun j _ => h.2.1 j, h.1⟩
end Go.Proofs.YtbpgiijdcagckaaDoor

namespace Go.Proofs.YtbpgiijdcagckaaDoor
open Go Go.RowKit

section
variable {P : Program} {ops : Array Oper} {Q : Exit → Act → World → Prop}

theorem wpAny_K {a0 : Act} {W0 : World} (n t al st : Nat) (v : Nat → Value) (B : Bool → World → Nat → Prop) (A : Nat → Act) (hr : rgB ops n t a0.tmps.size = true)
    (hA : ∀ b, fillL ops (ptrB al v b) (fun _ => true) (List.range n) a0 = A b)
    (hB : ∀ s w w' b, B s w b → Below w.heap.size w w' → B s w' b)
    (hop : EachOp (fun i o => i < n → i ≠ al → i ≠ st → ∀ b w, Below W0.heap.size W0 w → OpTo P ops o (A b) w (fun x w' => x = ov o (v i) ∧ Below w.heap.size w w')) 0 ops.toList)
    (hal : ∀ o, ops[al]? = some o → ∀ b w, Below W0.heap.size W0 w → OpTo P ops o (A b) w (fun x w' => ∃ c, x = ov o (.pointer (some ⟨c, 0, none⟩)) ∧ B false w' c ∧ W0.heap.size ≤ c ∧ Below w.heap.size w w'))
    (hsw : ∀ o, ops[st]? = some o → waits o al = true)
    (hst : ∀ o, ops[st]? = some o → ∀ b w, Below W0.heap.size W0 w → B false w b → W0.heap.size ≤ b → OpTo P ops o (A b) w (fun x w' => x = ov o (v st) ∧ B true w' b ∧ Below W0.heap.size W0 w'))
    (hfin : ∀ b w, Below W0.heap.size W0 w → (al < n → B (decide (st < n)) w b ∧ W0.heap.size ≤ b) → wpTail P ops Q (t + 1) n (A b) w) :
    ∀ (fuel : Nat) (listed : Array Bool) (b : Nat) (w : World), listed.size = n + (t + 1) → (∀ j, n ≤ j → listed.getD j false = false) → cnt (fun j => listed.getD j false) (n + (t + 1)) ≤ fuel →
      Below W0.heap.size W0 w → (listed.getD al false = true → B (listed.getD st false) w b ∧ W0.heap.size ≤ b) → (listed.getD st false = true → listed.getD al false = true) →
      wpAny P .any ops Q fuel listed (fillL ops (ptrB al v b) (fun j => listed.getD j false) (List.range n) a0) w
  | 0, listed, b, w, hs, hn, hc, _, _, _ => absurd hc (Nat.not_le.2 (cnt_pos _ n (hn n (Nat.le_refl _)) _ (by omega)))
  | fuel + 1, listed, b, w, hs, hn, hc, hW, hb, hsa => by
    have hsz := rgB_size hr
    have hdis : ∀ i ∈ List.range n, ∀ j ∈ List.range n, j ≠ i → ∀ e, dstOf ops i = some e → dstOf ops j ≠ some e := fun i hi j hj hji e he => by
      have hi' := List.mem_range.1 hi
      have hj' := List.mem_range.1 hj
      have ho : ops[i]? = some (ops[i]'(by omega)) := Array.getElem?_eq_getElem _
      have hd : (ops[i]'(by omega)).dst = some e := by
        unfold dstOf at he
        rw [ho] at he
        exact he
      exact (rgB_spec hr ho).2.2.2.1 hi' j hj' hji e hd
    refine ⟨fun hre => ?_, fun i hi => ?_⟩
    · exfalso
      have key : ∀ k, k ≤ n + (t + 1) → ∀ j, j < k → listed.getD j false = true := by
        intro k
        induction k with
        | zero => intro _ j hj; exact absurd hj (Nat.not_lt_zero _)
        | succ k ih =>
          intro hk j hj
          by_cases hjk : j = k
          · subst hjk
            have ho : ops[j]? = some (ops[j]'(by omega)) := Array.getElem?_eq_getElem _
            cases hl : listed.getD j false with
            | true => rfl
            | false =>
              exfalso
              have : j ∈ Region.ready .any ops listed := mem_ready.2 ⟨by
                have hjs : j < listed.size := by omega
                simp only [Array.getD, hjs, dif_pos] at hl ⊢
                exact hl, _, ho, fun e he hbd => ih (by omega) e.on ((rgB_spec hr ho).1 e he hbd)⟩
              rw [hre] at this
              cases this
          · exact ih (by omega) j (by omega)
      have h9 := hn n (Nat.le_refl _)
      rw [key (n + (t + 1)) (Nat.le_refl _) n (by omega)] at h9
      cases h9
    · obtain ⟨hun, o, ho, hall⟩ := mem_ready.1 hi
      have hin : i < n + (t + 1) := by
        rw [← hsz]
        exact (Array.getElem?_eq_some_iff.1 ho).1
      have hil : i < listed.size := by omega
      have hlf : listed.getD i false = false := by
        simp only [Array.getD, hil, dif_pos] at hun ⊢
        exact hun
      obtain ⟨s1, s2, s3, s4, s5, s6⟩ := rgB_spec hr ho
      have hset := lst_set (listed := listed) hil
      by_cases hin' : n ≤ i
      · have hin2 : i = n := by
          by_cases hne : i = n
          · exact hne
          · exfalso
            obtain ⟨e, he, hbd, hej⟩ := waits_spec (s5 hin' (i - 1) (by omega) (.inr (by omega)))
            have h9 := hall e he hbd
            rw [hej, hn (i - 1) (by omega)] at h9
            cases h9
        subst hin2
        have hl : ∀ j ∈ List.range i, listed.getD j false = true := fun j hj => by
          obtain ⟨e, he, hbd, hej⟩ := waits_spec (s5 hin' j (List.mem_range.1 hj) (.inl rfl))
          rw [← hej]
          exact hall e he hbd
        rw [fillL_congr (ptrB al v b) (fun j => listed.getD j false) (fun _ => true) (List.range i) a0 hl, hA b]
        have hcn : t ≤ fuel := by
          have h1 := cnt_from (fun j => listed.getD j false) i hn (t + 1)
          omega
        refine wpOp_mono (fun a' w' hq => wpAny_tail hr t (i + 1) fuel _ a' w' (by omega) (by omega) hcn (by simpa using hs) (fun j => ?_) hq) (hfin b w hW fun hal' => by
          have h8 := hb (hl al (List.mem_range.2 hal'))
          have h9 : listed.getD st false = decide (st < i) := by
            by_cases hst' : st < i
            · rw [hl st (List.mem_range.2 hst')]; exact (decide_eq_true hst').symm
            · rw [hn st (by omega)]; exact (decide_eq_false hst').symm
          rw [h9] at h8
          exact h8)
        refine (congrFun hset j).trans ?_
        by_cases hj : j = i
        · subst hj
          rw [upd_same]
          exact (decide_eq_true (by omega)).symm
        · rw [upd_other hj]
          show listed.getD j false = _
          by_cases hj2 : j < i
          · rw [hl j (List.mem_range.2 hj2)]
            exact (decide_eq_true (by omega)).symm
          · rw [hn j (by omega)]
            exact (decide_eq_false (by omega)).symm
      · have hlt : i < n := by omega
        have hmem : i ∈ List.range n := List.mem_range.2 hlt
        have hlook : ∀ j ∈ List.range n, listed.getD j false = false → ∀ d, dstOf ops j = some d → d ∉ o.looksAt ops := fun j hj hf => by
          rcases s6 hlt j (List.mem_range.1 hj) with q | q
          · obtain ⟨e, he, hbd, hej⟩ := waits_spec q
            rw [← hej, hall e he hbd] at hf
            cases hf
          · exact q
        have hlk := look_all o s2 (ptrB al v b) (List.range n) a0 List.nodup_range hdis (List.range n) (fun j => listed.getD j false) (fun j hj => hj) (fun j hj _ => hj) hlook
        rw [hA b] at hlk
        have hz : ∀ d, o.dst = some d → d < (A b).tmps.size := fun d hd => by
          rw [← hA b, fillL_size]
          exact s3 d hd
        have hds : dstOf ops i = o.dst := by unfold dstOf; rw [ho]; rfl
        have hcn : cnt (fun j => (listed.setIfInBounds i true).getD j false) (n + (t + 1)) ≤ fuel := by
          have h1 := cnt_upd (fun j => listed.getD j false) i hlf (n + (t + 1))
          rw [if_pos hin] at h1
          rw [hset]
          omega
        have hsn : ∀ j, n ≤ j → (listed.setIfInBounds i true).getD j false = false := fun j hj => by
          have : (listed.setIfInBounds i true).getD j false = upd (fun j => listed.getD j false) i j := congrFun hset j
          rw [this, upd_other (by omega)]
          exact hn j hj
        by_cases hal' : i = al
        · subst hal'
          have hns : i ≠ st := by
            rintro rfl
            obtain ⟨e, he, hbd, hej⟩ := waits_spec (hsw o ho)
            have := s1 e he hbd
            omega
          have hs0 : listed.getD st false = false := by
            cases hq : listed.getD st false with
            | false => rfl
            | true => rw [hsa hq] at hlf; cases hlf
          have hs1 : (listed.setIfInBounds i true).getD st false = false := by
            have : (listed.setIfInBounds i true).getD st false = upd (fun j => listed.getD j false) i st := congrFun hset st
            rw [this, upd_other (Ne.symm hns)]
            exact hs0
          have step : ∀ c w', B false w' c → W0.heap.size ≤ c → Below w.heap.size w w' → wpAny P .any ops Q fuel (listed.setIfInBounds i true) ((fillL ops (ptrB i v b) (fun j => listed.getD j false) (List.range n) a0).put o.dst (.pointer (some ⟨c, 0, none⟩))) w' := fun c w' h1 h2 h3 => by
            have e1 : fillL ops (ptrB i v b) (fun j => listed.getD j false) (List.range n) a0 = fillL ops (ptrB i v c) (fun j => listed.getD j false) (List.range n) a0 := by
              have : ∀ (L : List Nat) (a : Act), fillL ops (ptrB i v b) (fun j => listed.getD j false) L a = fillL ops (ptrB i v c) (fun j => listed.getD j false) L a := by
                intro L
                induction L with
                | nil => intro a; rfl
                | cons j L ih =>
                  intro a
                  unfold fillL
                  by_cases hji : j = i
                  · subst hji
                    simp only [hlf, Bool.false_eq_true, if_false]
                    exact ih _
                  · have : ptrB i v b j = ptrB i v c j := by unfold ptrB; rw [if_neg hji, if_neg hji]
                    rw [this]
                    exact ih _
              exact this _ _
            have e2 : ptrB i v c i = .pointer (some ⟨c, 0, none⟩) := if_pos rfl
            have e3 := fillL_set (ops := ops) (ptrB i v c) (fun j => listed.getD j false) i hlf (List.range n) a0 hmem List.nodup_range (hdis i hmem)
            rw [e2, hds, ← hset] at e3
            rw [e1, ← e3]
            exact wpAny_K n t i st v B A hr hA hB hop hal hsw hst hfin fuel _ c w' (by simpa using hs) hsn hcn (hW.trans (h3.mono hW.size)) (fun _ => by rw [hs1]; exact ⟨h1, h2⟩) (fun h => by rw [hs1] at h; cases h)
          refine (hal o ho b w hW).wpOp ho hlk.1 hlk.2 hz (fun x w' hx => ?_) (fun hx => ?_)
          · obtain ⟨c, h0, h1, h2, h3⟩ := hx
            have hxe : (fillL ops (ptrB i v b) (fun j => listed.getD j false) (List.range n) a0).put o.dst x = (fillL ops (ptrB i v b) (fun j => listed.getD j false) (List.range n) a0).put o.dst (.pointer (some ⟨c, 0, none⟩)) := by
              unfold ov at h0
              cases hd : o.dst with
              | none => rfl
              | some d => rw [hd] at h0; simp only at h0; rw [h0]
            rw [hxe]
            exact step c w' h1 h2 h3
          · obtain ⟨c, h0, h1, h2, h3⟩ := hx
            have hxe : (fillL ops (ptrB i v b) (fun j => listed.getD j false) (List.range n) a0).put o.dst undef = (fillL ops (ptrB i v b) (fun j => listed.getD j false) (List.range n) a0).put o.dst (.pointer (some ⟨c, 0, none⟩)) := by
              unfold ov at h0
              cases hd : o.dst with
              | none => rfl
              | some d => rw [hd] at h0; simp only at h0; rw [h0]
            rw [hxe]
            exact step c w h1 h2 h3
        · by_cases hst' : i = st
          · subst hst'
            obtain ⟨e, he, hbd, hej⟩ := waits_spec (hsw o ho)
            have hla : listed.getD al false = true := by
              rw [← hej]
              exact hall e he hbd
            have hB0 := hb hla
            rw [hlf] at hB0
            have hs1 : (listed.setIfInBounds i true).getD i false = true := by
              have : (listed.setIfInBounds i true).getD i false = upd (fun j => listed.getD j false) i i := congrFun hset i
              rw [this, upd_same]
            have ha1 : (listed.setIfInBounds i true).getD al false = true := by
              have : (listed.setIfInBounds i true).getD al false = upd (fun j => listed.getD j false) i al := congrFun hset al
              rw [this, upd_other (Ne.symm hal')]
              exact hla
            have step : ∀ w', B true w' b → Below W0.heap.size W0 w' → wpAny P .any ops Q fuel (listed.setIfInBounds i true) ((fillL ops (ptrB al v b) (fun j => listed.getD j false) (List.range n) a0).put o.dst (v i)) w' := fun w' h3 h4 => by
              have e2 : ptrB al v b i = v i := if_neg hal'
              have e3 := fillL_set (ops := ops) (ptrB al v b) (fun j => listed.getD j false) i hlf (List.range n) a0 hmem List.nodup_range (hdis i hmem)
              rw [e2, hds, ← hset] at e3
              rw [← e3]
              exact wpAny_K n t al i v B A hr hA hB hop hal hsw hst hfin fuel _ b w' (by simpa using hs) hsn hcn h4 (fun _ => by rw [hs1]; exact ⟨h3, hB0.2⟩) (fun _ => ha1)
            refine (hst o ho b w hW hB0.1 hB0.2).wpOp ho hlk.1 hlk.2 hz (fun x w' hx => ?_) (fun hx => ?_)
            · have hxe : (fillL ops (ptrB al v b) (fun j => listed.getD j false) (List.range n) a0).put o.dst x = (fillL ops (ptrB al v b) (fun j => listed.getD j false) (List.range n) a0).put o.dst (v i) := by
                have h0 := hx.1
                unfold ov at h0
                cases hd : o.dst with
                | none => rfl
                | some d => rw [hd] at h0; simp only at h0; rw [h0]
              rw [hxe]
              exact step w' hx.2.1 hx.2.2
            · have hxe : (fillL ops (ptrB al v b) (fun j => listed.getD j false) (List.range n) a0).put o.dst undef = (fillL ops (ptrB al v b) (fun j => listed.getD j false) (List.range n) a0).put o.dst (v i) := by
                have h0 := hx.1
                unfold ov at h0
                cases hd : o.dst with
                | none => rfl
                | some d => rw [hd] at h0; simp only at h0; rw [h0]
              rw [hxe]
              exact step w hx.2.1 hx.2.2
          have hs1 : (listed.setIfInBounds i true).getD st false = listed.getD st false := by
            have : (listed.setIfInBounds i true).getD st false = upd (fun j => listed.getD j false) i st := congrFun hset st
            rw [this, upd_other (Ne.symm hst')]
          have ha1 : (listed.setIfInBounds i true).getD al false = listed.getD al false := by
            have : (listed.setIfInBounds i true).getD al false = upd (fun j => listed.getD j false) i al := congrFun hset al
            rw [this, upd_other (Ne.symm hal')]
          have step : ∀ w', Below w.heap.size w w' → wpAny P .any ops Q fuel (listed.setIfInBounds i true) ((fillL ops (ptrB al v b) (fun j => listed.getD j false) (List.range n) a0).put o.dst (v i)) w' := fun w' h3 => by
            have e2 : ptrB al v b i = v i := if_neg hal'
            have e3 := fillL_set (ops := ops) (ptrB al v b) (fun j => listed.getD j false) i hlf (List.range n) a0 hmem List.nodup_range (hdis i hmem)
            rw [e2, hds, ← hset] at e3
            rw [← e3]
            refine wpAny_K n t al st v B A hr hA hB hop hal hsw hst hfin fuel _ b w' (by simpa using hs) hsn hcn (hW.trans (h3.mono hW.size)) (fun hl => ?_) (fun h => by rw [ha1]; rw [hs1] at h; exact hsa h)
            rw [ha1] at hl
            rw [hs1]
            exact ⟨hB _ w w' b (hb hl).1 h3, (hb hl).2⟩
          have hob := hop.get (i := i) (o := o) (by simpa using ho)
          rw [Nat.zero_add] at hob
          refine (hob hlt hal' hst' b w hW).wpOp ho hlk.1 hlk.2 hz (fun x w' hx => ?_) (fun hx => ?_)
          · have hxe : (fillL ops (ptrB al v b) (fun j => listed.getD j false) (List.range n) a0).put o.dst x = (fillL ops (ptrB al v b) (fun j => listed.getD j false) (List.range n) a0).put o.dst (v i) := by
              have h0 := hx.1
              unfold ov at h0
              cases hd : o.dst with
              | none => rfl
              | some d => rw [hd] at h0; simp only at h0; rw [h0]
            rw [hxe]
            exact step w' hx.2
          · have hxe : (fillL ops (ptrB al v b) (fun j => listed.getD j false) (List.range n) a0).put o.dst undef = (fillL ops (ptrB al v b) (fun j => listed.getD j false) (List.range n) a0).put o.dst (v i) := by
              have h0 := hx.1
              unfold ov at h0
              cases hd : o.dst with
              | none => rfl
              | some d => rw [hd] at h0; simp only at h0; rw [h0]
            rw [hxe]
            exact step w hx.2
/-- Each operation of a list yields its value. -/
def EachK (P : Program) (ops : Array Oper) (A : Nat → Act) (W0 : World) (al st : Nat) : Nat → List Oper → List Value → Prop
  | i, o :: l, v :: vs => (i ≠ al → i ≠ st → ∀ b w, Below W0.heap.size W0 w → OpTo P ops o (A b) w (fun x w' => x = ov o v ∧ Below w.heap.size w w')) ∧ EachK P ops A W0 al st (i + 1) l vs
  | _, _, _ => True
theorem EachK.each {A : Nat → Act} {W0 : World} {al st n : Nat} (vs0 : List Value) : ∀ (l : List Oper) (vs : List Value) (i : Nat), (∀ k v, vs[k]? = some v → vs0.getD (i + k) undef = v) → n ≤ i + vs.length → EachK P ops A W0 al st i l vs →
    EachOp (fun i o => i < n → i ≠ al → i ≠ st → ∀ b w, Below W0.heap.size W0 w → OpTo P ops o (A b) w (fun x w' => x = ov o (vs0.getD i undef) ∧ Below w.heap.size w w')) i l
  | [], _, _, _, _, _ => trivial
  | o :: l, [], i, _, hn, _ => by
    refine ⟨fun hi => absurd hn (by simp; omega), EachK.each vs0 l [] (i + 1) (fun k v h => by simp at h) (by simp at hn ⊢; omega) ?_⟩
    cases l <;> trivial
  | o :: l, v :: vs, i, hv, hn, h => by
    refine ⟨fun hi hne hns b w hW => ?_, EachK.each vs0 l vs (i + 1) (fun k u hu => ?_) (by simp at hn ⊢; omega) h.2⟩
    · have e := hv 0 v rfl
      rw [Nat.add_zero] at e
      rw [e]
      exact h.1 hne hns b w hW
    · have e := hv (k + 1) u (by simpa using hu)
      rw [show i + 1 + k = i + (k + 1) from by omega]
      exact e
/-- A drawn region with a block that is made, and written, anywhere between. -/
theorem wp_region_K {id : Nat} {a : Act} {w : World} (n t al st : Nat) (vs : List Value) (D : List (Option Tmp)) (B : Bool → World → Nat → Prop) (A : Nat → Act) (oa os : Oper) (hm : P.follows .mixedOrders = true) (hr : rgB ops n t a.tmps.size = true)
    (hD : (List.range n).map (dstOf ops) = D) (hl : vs.length = n)
    (hA : ∀ b, fillD (List.zip D (vs.set al (.pointer (some ⟨b, 0, none⟩)))) a = A b)
    (hB : ∀ s w w' b, B s w b → Below w.heap.size w w' → B s w' b)
    (hop : EachK P ops A w al st 0 ops.toList vs) (hoa : ops[al]? = some oa) (hos : ops[st]? = some os) (han : al < n) (hsn : st < n) (hsw : waits os al = true)
    (hal : ∀ b wx, Below w.heap.size w wx → OpTo P ops oa (A b) wx (fun x w' => ∃ c, x = ov oa (.pointer (some ⟨c, 0, none⟩)) ∧ B false w' c ∧ w.heap.size ≤ c ∧ Below wx.heap.size wx w'))
    (hst : ∀ b wx, Below w.heap.size w wx → B false wx b → w.heap.size ≤ b → OpTo P ops os (A b) wx (fun x w' => x = ov os (vs.getD st undef) ∧ B true w' b ∧ Below w.heap.size w w'))
    (hfin : ∀ b wx, Below w.heap.size w wx → B true wx b → w.heap.size ≤ b → wpTail P ops Q (t + 1) n (A b) wx) : (Code.region id ops true).wp P Q a w := by
  have hs := rgB_size hr
  refine wp_region_any hm ?_
  have k := wpAny_K (Q := Q) (P := P) (a0 := a) (W0 := w) n t al st (fun j => vs.getD j undef) B A hr (fun b => by rw [fill_D, zip_fill al b vs n hl, hD]; exact hA b) hB (EachK.each vs _ vs 0 (fun k v h => by rw [Nat.zero_add, List.getD_eq_getElem?_getD, h]; rfl) (by omega) hop)
    (fun o ho => by rw [hoa] at ho; injection ho with ho; subst ho; exact hal) (fun o ho => by rw [hos] at ho; injection ho with ho; subst ho; exact hsw) (fun o ho => by rw [hos] at ho; injection ho with ho; subst ho; exact hst)
    (fun b wx hS hb => by have h1 := hb han; rw [decide_eq_true hsn] at h1; exact hfin b wx hS h1.1 h1.2)
    ops.size (Array.replicate ops.size false) 0 w.drew (by simp [hs]) (fun j _ => by simp [Array.getD]) ?_ (Below.drew (Below.refl _ _)) (fun h => ?_) (fun h => ?_)
  · have e : fillL ops (ptrB al (fun j => vs.getD j undef) 0) (fun j => (Array.replicate ops.size false).getD j false) (List.range n) a = a := by
      have : ∀ (L : List Nat) (a : Act), fillL ops (ptrB al (fun j => vs.getD j undef) 0) (fun j => (Array.replicate ops.size false).getD j false) L a = a := by
        intro L
        induction L with
        | nil => intro a; rfl
        | cons j L ih =>
          intro a
          unfold fillL
          rw [ih]
          rw [if_neg]
          simp [Array.getD]
      exact this _ _
    rw [e] at k
    exact k
  · have : ∀ k, cnt (fun j => (Array.replicate ops.size false).getD j false) k = k := by
      intro k
      induction k with
      | zero => rfl
      | succ k ih =>
        unfold cnt
        rw [ih]
        rw [if_neg]
        simp [Array.getD]
    rw [this, hs]
    exact Nat.le_refl _
  · exact absurd h (by simp [Array.getD])
  · exact absurd h (by simp [Array.getD])
theorem OpTo.stores {o : Oper} {A : Act} {w w1 : World} {v : Value} {R : World → Prop} (hw : Region.wanted o (yielded ops A.tmps) = true) (h : (execOp A.eval o).run P w = .ok .skip w1 ∨ ∃ u, (execOp A.eval o).run P w = .ok (.value u) w1) (hd : o.dst = none) (hR : R w1) :
    OpTo P ops o A w (fun x w' => x = ov o v ∧ R w') := by
  have e : ∀ u, ov o u = ov o v := fun u => by unfold ov; rw [hd]
  rcases h with h | ⟨u, h⟩
  · refine .inl ⟨hw, .inr fun K hK => ?_⟩
    unfold Oper.wp
    rw [h]
    refine hK _ _ (by rw [hd]; rfl) ⟨?_, hR⟩
    unfold yv ov
    rw [hd]
  · exact .inl ⟨hw, .inl ⟨u, w1, h, e u, hR⟩⟩
end
end Go.Proofs.YtbpgiijdcagckaaDoor

namespace Go.Proofs.YtbpgiijdcagckaaDoor
open Go Go.RowKit

theorem putL_above (b : Nat) (p : Addr) : ∀ (vs : List Value) (j : Nat) (w : World), (∀ k, p = ⟨b, k, none⟩ → j + vs.length ≤ k) → (putL b j vs w).cell? p = w.cell? p
  | [], _, _, _ => rfl
  | v :: vs, j, w, h => by
    unfold putL
    rw [putL_above b p vs (j + 1) _ (fun k hk => by have := h k hk; rw [List.length_cons] at this; omega)]
    exact World.cell?_setCell_other _ _ _ _ (fun hc => by have := h j hc.symm; rw [List.length_cons] at this; omega)
/-- Rows of k cells. -/
def TabL (w : World) (p n k : Nat) (f : Nat → List Value) : Prop := p < w.heap.size ∧ (∀ o, w.frozen? ⟨p, o, none⟩ = false) ∧ (∀ j, j < n → (f j).length = k) ∧ ∀ j, j < n → ∀ c v, (f j)[c]? = some v → w.cell? ⟨p, j * k + c, none⟩ = some v
theorem TabL.call {w w' : World} {p n k : Nat} {f : Nat → List Value} (h : TabL w p n k f) (hb : Below w.heap.size w w') : TabL w' p n k f :=
  ⟨Nat.lt_of_lt_of_le h.1 hb.size, fun o => (hb.frozen (p := ⟨p, o, none⟩) h.1).trans (h.2.1 o), h.2.2.1, fun j hj c v hv => (hb.cell (p := ⟨p, j * k + c, none⟩) h.1).trans (h.2.2.2 j hj c v hv)⟩
theorem TabL.alloc {w : World} {p n k : Nat} {f : Nat → List Value} {ob : Obj} (h : TabL w p n k f) : TabL (w.alloc ob) p n k f := h.call (below_alloc0 (Below.refl _ _) _)
theorem TabL.puts {w : World} {p q n k : Nat} {f : Nat → List Value} (vs : List Value) (j : Nat) (h : TabL w p n k f) (hne : p ≠ q) : TabL (putL q j vs w) p n k f :=
  ⟨by rw [putL_size]; exact h.1, fun o => by rw [putL_frozen]; exact h.2.1 o, h.2.2.1, fun i hi c v hv => by
    rw [putL_cell q _ vs j w (fun r hr => absurd (congrArg Addr.block hr) hne)]
    exact h.2.2.2 i hi c v hv⟩
theorem row_apart {i j k c : Nat} (h : i < j) (hc : c < k) : i * k + c < j * k := by
  have : (i + 1) * k ≤ j * k := Nat.mul_le_mul_right k h
  rw [Nat.add_mul, Nat.one_mul] at this
  omega
theorem TabL.put {w : World} {p n k : Nat} {f : Nat → List Value} (i : Nat) (vs : List Value) (h : TabL w p n k f) (hi : i < n) (hl : vs.length = k) : TabL (putL p (i * k) vs w) p n k (fun j => if j = i then vs else f j) := by
  refine ⟨by rw [putL_size]; exact h.1, fun o => by rw [putL_frozen]; exact h.2.1 o, fun j hj => ?_, fun j hj c v hv => ?_⟩
  · show (if j = i then vs else f j).length = k
    by_cases e : j = i
    · rw [if_pos e]; exact hl
    · rw [if_neg e]; exact h.2.2.1 j hj
  · change (if j = i then vs else f j)[c]? = some v at hv
    by_cases e : j = i
    · subst e
      rw [if_pos rfl] at hv
      exact putL_get p vs (f j) (j * k) w (by rw [hl, h.2.2.1 j hj]) (fun r x hx => h.2.2.2 j hj r x hx) c v hv
    · rw [if_neg e] at hv
      have hc : c < k := by
        have := (List.getElem?_eq_some_iff.1 hv).1
        rw [h.2.2.1 j hj] at this
        exact this
      rw [← h.2.2.2 j hj c v hv]
      rcases Nat.lt_or_gt_of_ne e with g | g
      · exact putL_cell p _ vs (i * k) w (fun r hr => by injection hr with _ hr _; have := row_apart g hc; omega)
      · refine putL_above p _ vs (i * k) w (fun r hr => ?_)
        injection hr with _ hr _
        rw [hl]
        have h1 : (i + 1) * k ≤ j * k := Nat.mul_le_mul_right k g
        rw [Nat.add_mul, Nat.one_mul] at h1
        omega
theorem TabL.congr {w : World} {p n k : Nat} {f g : Nat → List Value} (h : TabL w p n k f) (e : ∀ j, j < n → f j = g j) : TabL w p n k g :=
  ⟨h.1, h.2.1, fun j hj => by rw [← e j hj]; exact h.2.2.1 j hj, fun j hj c v hv => h.2.2.2 j hj c v (by rw [e j hj]; exact hv)⟩
theorem made_get (z : List Value) (n j c : Nat) (v : Value) (_hz : 0 < z.length) (hj : j < n) (hv : z[c]? = some v) : (madeCells z.toArray (n * z.length))[j * z.length + c]? = some v := by
  have hc := (List.getElem?_eq_some_iff.1 hv).1
  have hk : j * z.length + c < (Array.range (n * z.length)).size := by
    rw [Array.size_range]
    exact row_apart hj hc
  unfold madeCells
  rw [Array.getElem?_map, Array.getElem?_eq_getElem hk, Option.map_some, Array.getElem_range]
  have e : (j * z.length + c) % z.toArray.size = c := by
    rw [List.size_toArray, Nat.mul_comm, Nat.mul_add_mod]
    exact Nat.mod_eq_of_lt hc
  rw [e]
  have e2 : z.toArray[c]? = some v := by rw [List.getElem?_toArray]; exact hv
  rw [getElem!_def, e2]
theorem TabL.made (w : World) (z : List Value) (n k : Nat) (t : TypeId) (hk : z.length = k) (h0 : 0 < k) : TabL (w.alloc (.cells (madeCells z.toArray (n * k)) t)) w.heap.size n k (fun _ => z) := by
  subst hk
  refine ⟨by simp, fun o => World.frozen?_alloc_new _ _ _ _, fun _ _ => rfl, fun j hj c v hv => ?_⟩
  rw [World.cell?_alloc_new]
  exact made_get z n j c v h0 hj hv
theorem TabL.row {w : World} {p n k : Nat} {f : Nat → List Value} (h : TabL w p n k f) {j : Nat} (hj : j < n) {c : Nat} {v : Value} (hv : (f j)[c]? = some v) : w.cell? ⟨p, j * k + c, none⟩ = some v := h.2.2.2 j hj c v hv
end Go.Proofs.YtbpgiijdcagckaaDoor
