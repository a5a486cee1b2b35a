/- A drawn region by an invariant over what has yielded. -/
import Derived.Test.YtbpgiijdcagckaaDoorRgA
namespace Go.Proofs.YtbpgiijdcagckaaDoor
open Go Go.RowKit

section
variable {P : Program} {ops : Array Oper} {Q : Exit → Act → World → Prop}
def updV (v : Nat → Value) (i : Nat) (y : Value) : Nat → Value := fun j => if j = i then y else v j
theorem updV_same (v : Nat → Value) (i : Nat) (y : Value) : updV v i y i = y := if_pos rfl
theorem updV_other {v : Nat → Value} {i j : Nat} {y : Value} (h : j ≠ i) : updV v i y j = v j := if_neg h
theorem fillL_updV (v : Nat → Value) (l : Nat → Bool) (i : Nat) (y : Value) (hl : l i = false) : ∀ (L : List Nat) (a : Act), fillL ops (updV v i y) l L a = fillL ops v l L a
  | [], _ => rfl
  | j :: L, a => by
    unfold fillL
    by_cases hji : j = i
    · subst hji
      simp only [hl, Bool.false_eq_true, if_false]
      exact fillL_updV v l j y hl L _
    · rw [updV_other hji]
      exact fillL_updV v l i y hl L _
theorem wpAny_M {a0 : Act} (n t : Nat) (I : (Nat → Bool) → (Nat → Value) → World → Prop) (A : (Nat → Value) → Act) (hr : rgB ops n t a0.tmps.size = true)
    (hA : ∀ v, fillL ops v (fun _ => true) (List.range n) a0 = A v)
    (hop : EachOp (fun i o => i < n → ∀ l v w, (∀ j, waits o j = true → l j = true) → l i = false → I l v w → OpTo P ops o (A v) w (fun x w' => ∃ y, x = ov o y ∧ I (upd l i) (updV v i y) w')) 0 ops.toList)
    (hfin : ∀ v w, I (fun j => decide (j < n)) v w → wpTail P ops Q (t + 1) n (A v) w) :
    ∀ (fuel : Nat) (listed : Array Bool) (v : Nat → Value) (w : World), listed.size = n + (t + 1) → (∀ j, n ≤ j → listed.getD j false = false) → cnt (fun j => listed.getD j false) (n + (t + 1)) ≤ fuel →
      I (fun j => listed.getD j false) v w → wpAny P .any ops Q fuel listed (fillL ops v (fun j => listed.getD j false) (List.range n) a0) w
  | 0, listed, v, w, hs, hn, hc, _ => absurd hc (Nat.not_le.2 (cnt_pos _ n (hn n (Nat.le_refl _)) _ (by omega)))
  | fuel + 1, listed, v, w, hs, hn, hc, hI => by
    have hsz := rgB_size hr
    have hdis : ∀ i ∈ List.range n, ∀ j ∈ List.range n, j ≠ i → ∀ e, dstOf ops i = some e → dstOf ops j ≠ some e := fun i hi j hj hji e he => by
      have hi' := List.mem_range.1 hi
      have hj' := List.mem_range.1 hj
      have ho : ops[i]? = some (ops[i]'(by omega)) := Array.getElem?_eq_getElem _
      have hd : (ops[i]'(by omega)).dst = some e := by
        unfold dstOf at he
        rw [ho] at he
        exact he
      exact (rgB_spec hr ho).2.2.2.1 hi' j hj' hji e hd
    refine ⟨fun hre => ?_, fun i hi => ?_⟩
    · exfalso
      have key : ∀ k, k ≤ n + (t + 1) → ∀ j, j < k → listed.getD j false = true := by
        intro k
        induction k with
        | zero => intro _ j hj; exact absurd hj (Nat.not_lt_zero _)
        | succ k ih =>
          intro hk j hj
          by_cases hjk : j = k
          · subst hjk
            have ho : ops[j]? = some (ops[j]'(by omega)) := Array.getElem?_eq_getElem _
            cases hl : listed.getD j false with
            | true => rfl
            | false =>
              exfalso
              have : j ∈ Region.ready .any ops listed := mem_ready.2 ⟨by
                have hjs : j < listed.size := by omega
                simp only [Array.getD, hjs, dif_pos] at hl ⊢
                exact hl, _, ho, fun e he hbd => ih (by omega) e.on ((rgB_spec hr ho).1 e he hbd)⟩
              rw [hre] at this
              cases this
          · exact ih (by omega) j (by omega)
      have h9 := hn n (Nat.le_refl _)
      rw [key (n + (t + 1)) (Nat.le_refl _) n (by omega)] at h9
      cases h9
    · obtain ⟨hun, o, ho, hall⟩ := mem_ready.1 hi
      have hin : i < n + (t + 1) := by
        rw [← hsz]
        exact (Array.getElem?_eq_some_iff.1 ho).1
      have hil : i < listed.size := by omega
      have hlf : listed.getD i false = false := by
        simp only [Array.getD, hil, dif_pos] at hun ⊢
        exact hun
      obtain ⟨s1, s2, s3, s4, s5, s6⟩ := rgB_spec hr ho
      have hset := lst_set (listed := listed) hil
      by_cases hin' : n ≤ i
      · have hin2 : i = n := by
          by_cases hne : i = n
          · exact hne
          · exfalso
            obtain ⟨e, he, hbd, hej⟩ := waits_spec (s5 hin' (i - 1) (by omega) (.inr (by omega)))
            have h9 := hall e he hbd
            rw [hej, hn (i - 1) (by omega)] at h9
            cases h9
        subst hin2
        have hl : ∀ j ∈ List.range i, listed.getD j false = true := fun j hj => by
          obtain ⟨e, he, hbd, hej⟩ := waits_spec (s5 hin' j (List.mem_range.1 hj) (.inl rfl))
          rw [← hej]
          exact hall e he hbd
        rw [fillL_congr v (fun j => listed.getD j false) (fun _ => true) (List.range i) a0 hl, hA v]
        have hcn : t ≤ fuel := by
          have h1 := cnt_from (fun j => listed.getD j false) i hn (t + 1)
          omega
        have hlf2 : (fun j => listed.getD j false) = fun j => decide (j < i) := by
          funext j
          by_cases hj2 : j < i
          · rw [hl j (List.mem_range.2 hj2)]
            exact (decide_eq_true hj2).symm
          · rw [hn j (by omega)]
            exact (decide_eq_false hj2).symm
        refine wpOp_mono (fun a' w' hq => wpAny_tail hr t (i + 1) fuel _ a' w' (by omega) (by omega) hcn (by simpa using hs) (fun j => ?_) hq) (hfin v w (by rw [← hlf2]; exact hI))
        refine (congrFun hset j).trans ?_
        by_cases hj : j = i
        · subst hj
          rw [upd_same]
          exact (decide_eq_true (by omega)).symm
        · rw [upd_other hj]
          show listed.getD j false = _
          by_cases hj2 : j < i
          · rw [hl j (List.mem_range.2 hj2)]
            exact (decide_eq_true (by omega)).symm
          · rw [hn j (by omega)]
            exact (decide_eq_false (by omega)).symm
      · have hlt : i < n := by omega
        have hmem : i ∈ List.range n := List.mem_range.2 hlt
        have hlook : ∀ j ∈ List.range n, listed.getD j false = false → ∀ d, dstOf ops j = some d → d ∉ o.looksAt ops := fun j hj hf => by
          rcases s6 hlt j (List.mem_range.1 hj) with q | q
          · obtain ⟨e, he, hbd, hej⟩ := waits_spec q
            rw [← hej, hall e he hbd] at hf
            cases hf
          · exact q
        have hlk := look_all o s2 v (List.range n) a0 List.nodup_range hdis (List.range n) (fun j => listed.getD j false) (fun j hj => hj) (fun j hj _ => hj) hlook
        rw [hA v] at hlk
        have hz : ∀ d, o.dst = some d → d < (A v).tmps.size := fun d hd => by
          rw [← hA v, fillL_size]
          exact s3 d hd
        have hds : dstOf ops i = o.dst := by unfold dstOf; rw [ho]; rfl
        have hcn : cnt (fun j => (listed.setIfInBounds i true).getD j false) (n + (t + 1)) ≤ fuel := by
          have h1 := cnt_upd (fun j => listed.getD j false) i hlf (n + (t + 1))
          rw [if_pos hin] at h1
          rw [hset]
          omega
        have hsn : ∀ j, n ≤ j → (listed.setIfInBounds i true).getD j false = false := fun j hj => by
          have : (listed.setIfInBounds i true).getD j false = upd (fun j => listed.getD j false) i j := congrFun hset j
          rw [this, upd_other (by omega)]
          exact hn j hj
        have step : ∀ y w', I (upd (fun j => listed.getD j false) i) (updV v i y) w' → wpAny P .any ops Q fuel (listed.setIfInBounds i true) ((fillL ops v (fun j => listed.getD j false) (List.range n) a0).put o.dst y) w' := fun y w' h1 => by
          have e3 := fillL_set (ops := ops) (updV v i y) (fun j => listed.getD j false) i hlf (List.range n) a0 hmem List.nodup_range (hdis i hmem)
          rw [fillL_updV v (fun j => listed.getD j false) i y hlf, updV_same, hds, ← hset] at e3
          rw [← e3]
          exact wpAny_M n t I A hr hA hop hfin fuel _ (updV v i y) w' (by simpa using hs) hsn hcn (by rw [hset]; exact h1)
        have hput : ∀ (a : Act) x y, ov o x = ov o y → a.put o.dst x = a.put o.dst y := fun a x y h0 => by
          unfold ov at h0
          cases hd : o.dst with
          | none => rfl
          | some d => rw [hd] at h0; simp only at h0; rw [h0]
        have hob := hop.get (i := i) (o := o) (by simpa using ho)
        rw [Nat.zero_add] at hob
        refine (hob hlt (fun j => listed.getD j false) v w (fun j hj => ?_) hlf hI).wpOp ho hlk.1 hlk.2 hz (fun x w' hx => ?_) (fun hx => ?_)
        · obtain ⟨e, he, hbd, hej⟩ := waits_spec hj
          rw [← hej]
          exact hall e he hbd
        · obtain ⟨y, h0, h1⟩ := hx
          rw [hput _ x y h0]
          exact step y w' h1
        · obtain ⟨y, h0, h1⟩ := hx
          rw [hput _ undef y ((ov_undef o).symm.trans h0)]
          exact step y w h1
/-- A drawn region by an invariant over which operations have yielded, what, and the world. -/
theorem wp_region_M {id : Nat} {a : Act} {w : World} (n t : Nat) (I : (Nat → Bool) → (Nat → Value) → World → Prop) (D : List (Option Tmp)) (L : List Nat) (A : (Nat → Value) → Act) (hm : P.follows .mixedOrders = true) (hr : rgB ops n t a.tmps.size = true)
    (hD : (List.range n).map (dstOf ops) = D) (hL : List.range n = L)
    (hA : ∀ v, fillD (List.zip D (L.map v)) a = A v)
    (h0 : ∀ v, I (fun _ => false) v w.drew)
    (hop : EachOp (fun i o => i < n → ∀ l v w, (∀ j, waits o j = true → l j = true) → l i = false → I l v w → OpTo P ops o (A v) w (fun x w' => ∃ y, x = ov o y ∧ I (upd l i) (updV v i y) w')) 0 ops.toList)
    (hfin : ∀ v w, I (fun j => decide (j < n)) v w → wpTail P ops Q (t + 1) n (A v) w) : (Code.region id ops true).wp P Q a w := by
  have hs := rgB_size hr
  have ef : (fun j => (Array.replicate ops.size false).getD j false) = fun _ => false := by
    funext j
    simp [Array.getD]
  have hz : ∀ (L : List Nat) (v : Nat → Value), L.map (fun j => (dstOf ops j, v j)) = List.zip (L.map (dstOf ops)) (L.map v) := fun L v => by
    induction L with
    | nil => rfl
    | cons j L ih => rw [List.map_cons, List.map_cons, List.map_cons, List.zip_cons_cons, ih]
  refine wp_region_any hm ?_
  have k := wpAny_M (Q := Q) (P := P) (a0 := a) n t I A hr (fun v => by rw [fill_D, hz, hD, hL]; exact hA v) hop hfin ops.size (Array.replicate ops.size false) (fun _ => undef) w.drew (by simp [hs]) (fun j _ => by simp [Array.getD]) ?_ (by rw [ef]; exact h0 _)
  · have e : ∀ (L : List Nat) (v : Nat → Value) (a : Act), fillL ops v (fun j => (Array.replicate ops.size false).getD j false) L a = a := by
      intro L v
      rw [ef]
      induction L with
      | nil => intro a; rfl
      | cons j L ih =>
        intro a
        unfold fillL
        exact ih a
    rw [e] at k
    exact k
  · rw [ef]
    have : ∀ k, cnt (fun _ => false) k = k := by
      intro k
      induction k with
      | zero => rfl
      | succ k ih =>
        unfold cnt
        rw [ih]
        rfl
    rw [this, hs]
    exact Nat.le_refl _
theorem OpTo.imp {o : Oper} {A : Act} {w : World} {R R' : Value → World → Prop} (h : OpTo P ops o A w R) (hR : ∀ x w', R x w' → R' x w') : OpTo P ops o A w R' := by
  rcases h with ⟨h1, ⟨v, w', e, r⟩ | h2⟩ | ⟨h1, r⟩
  · exact .inl ⟨h1, .inl ⟨v, w', e, hR _ _ r⟩⟩
  · exact .inl ⟨h1, .inr fun K hK => h2 K fun a' w' d r => hK a' w' d (hR _ _ r)⟩
  · exact .inr ⟨h1, hR _ _ r⟩
theorem OpTo.does {o : Oper} {A : Act} {w w1 : World} {y : Value} {R : Value → World → Prop} (hw : Region.wanted o (yielded ops A.tmps) = true) (h : (execOp A.eval o).run P w = .ok (.value y) w1) (hR : R y w1) (hb : Below w.heap.size w w1) :
    OpTo P ops o A w (fun x w' => ∃ y, x = ov o y ∧ R y w' ∧ Below w.heap.size w w') := .inl ⟨hw, .inl ⟨y, w1, h, y, rfl, hR, hb⟩⟩
theorem OpTo.asks {o : Oper} {A : Act} {w : World} {R : Value → World → Prop} (hw : Region.wanted o (yielded ops A.tmps) = true) (hy : ∀ y, yv o (A.put o.dst y) = ov o y)
    (h : ∀ K : Act → World → Prop, (∀ y w', R y w' → Below w.heap.size w w' → K (A.put o.dst y) w') → o.wp P A w K (fun _ _ _ => False)) :
    OpTo P ops o A w (fun x w' => ∃ y, x = ov o y ∧ R y w' ∧ Below w.heap.size w w') :=
  .inl ⟨hw, .inr fun K hK => h K fun y w' hr hb => hK _ w' (by unfold Act.put; split <;> rfl) ⟨y, hy y, hr, hb⟩⟩
theorem EachOp.imp {f g : Nat → Oper → Prop} : ∀ {l : List Oper} {k : Nat}, (∀ i o, l[i]? = some o → f (k + i) o → g (k + i) o) → EachOp f k l → EachOp g k l
  | [], _, _, _ => trivial
  | o :: l, k, h, hf => ⟨h 0 o rfl hf.1, EachOp.imp (fun i o' ho hq => by
      have e := h (i + 1) o' (by simpa using ho)
      rw [show k + (i + 1) = k + 1 + i from by omega] at e
      exact e hq) hf.2⟩
/-- The same, with a store, which waits for the others; each operation owns what it yielded. -/
theorem wp_region_S {id : Nat} {a : Act} {w : World} (n t st : Nat) (own : Bool → Nat → Value → World → Prop) (D : List (Option Tmp)) (L : List Nat) (A : (Nat → Value) → Act) (os : Oper) (hm : P.follows .mixedOrders = true) (hr : rgB ops n t a.tmps.size = true)
    (hD : (List.range n).map (dstOf ops) = D) (hL : List.range n = L) (hos : ops[st]? = some os) (hsn : st < n)
    (hA : ∀ v, fillD (List.zip D (L.map v)) a = A v)
    (hpers : ∀ s i y w w', own s i y w → Below w.heap.size w w' → own s i y w')
    (hop : EachOp (fun i o => i < n → i ≠ st → ∀ s v wx, (waits os i = true → s = false) → Below w.heap.size w wx → (∀ j, waits o j = true → own s j (v j) wx) → OpTo P ops o (A v) wx (fun x w' => ∃ y, x = ov o y ∧ own s i y w' ∧ Below wx.heap.size wx w')) 0 ops.toList)
    (hst : ∀ v wx, Below w.heap.size w wx → (∀ j, waits os j = true → own false j (v j) wx) → OpTo P ops os (A v) wx (fun x w' => ∃ y, x = ov os y ∧ own true st y w' ∧ Below w.heap.size w w' ∧ ∀ j, own false j (v j) wx → own true j (v j) w'))
    (hfin : ∀ v wx, Below w.heap.size w wx → (∀ j, j < n → own true j (v j) wx) → wpTail P ops Q (t + 1) n (A v) wx) : (Code.region id ops true).wp P Q a w := by
  refine wp_region_M n t (fun l v wx => Below w.heap.size w wx ∧ (∀ j, l j = true → own (l st) j (v j) wx) ∧ (l st = true → ∀ j, waits os j = true → l j = true)) D L A hm hr hD hL hA (fun v => And.intro (Below.drew (Below.refl _ _)) (And.intro (fun j h => absurd h Bool.false_ne_true) (fun h => absurd h Bool.false_ne_true))) (EachOp.imp (fun i o ho hq => ?_) hop) (fun v wx hI => ?_)
  · rw [Nat.zero_add] at hq ⊢
    intro hi l v wx hd hli hI
    by_cases his : i = st
    · subst his
      have ho' : ops[i]? = some o := by simpa using ho
      rw [hos] at ho'
      injection ho' with ho'
      subst ho'
      refine (hst v wx hI.1 (fun j hj => by have := hI.2.1 j (hd j hj); rw [hli] at this; exact this)).imp fun x w' hx => ?_
      obtain ⟨y, h0, h1, h2, h3⟩ := hx
      refine ⟨y, h0, h2, fun j hj => ?_, fun _ j hj => ?_⟩
      · rw [upd_same]
        by_cases hji : j = i
        · subst hji
          rw [updV_same]
          exact h1
        · rw [updV_other hji]
          rw [upd_other hji] at hj
          have := hI.2.1 j hj
          rw [hli] at this
          exact h3 j this
      · by_cases hji : j = i
        · subst hji
          exact upd_same _ _
        · rw [upd_other hji]
          exact hd j hj
    · have hls : upd l i st = l st := upd_other (Ne.symm his)
      refine (hq hi his (l st) v wx (fun hw => ?_) hI.1 (fun j hj => hI.2.1 j (hd j hj))).imp fun x w' hx => ?_
      · cases h : l st with
        | false => rfl
        | true => rw [hI.2.2 h i hw] at hli; cases hli
      · obtain ⟨y, h0, h1, h2⟩ := hx
        refine ⟨y, h0, hI.1.trans (h2.mono hI.1.size), fun j hj => ?_, fun h j hj => ?_⟩
        · rw [hls]
          by_cases hji : j = i
          · subst hji
            rw [updV_same]
            exact h1
          · rw [updV_other hji]
            rw [upd_other hji] at hj
            exact hpers _ _ _ _ _ (hI.2.1 j hj) h2
        · rw [hls] at h
          by_cases hji : j = i
          · subst hji
            exact upd_same _ _
          · rw [upd_other hji]
            exact hI.2.2 h j hj
  · refine hfin v wx hI.1 fun j hj => ?_
    have := hI.2.1 j (decide_eq_true hj)
    simp only [decide_eq_true hsn] at this
    exact this
end
end Go.Proofs.YtbpgiijdcagckaaDoor
