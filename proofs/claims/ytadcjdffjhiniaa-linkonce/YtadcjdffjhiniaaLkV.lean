/- What the law LinkOnce keeps: of each life what came is a beginning of what was pushed; tables of rows in memory. -/
import Derived.Test.YtadcjdffjhiniaaLkU
namespace Go.Proofs.Ytadcjdffjhiniaa
open Go Go.RowKit Go.Lib

/-- lf: the sender's life; gone: how many of its texts are acknowledged; P, K: what was pushed and what came, life by life; F: the letters, A: the acks; tl, tc: what the taker heard; k: how many steps were done. -/
structure OInv (lf gone : Nat) (P K : List (List ByteArray)) (F A : List ByteArray) (tl tc k : Nat) : Prop where
  lp : P.length = lf + 1
  lk : K.length = lf + 1
  l1 : 1 ≤ lf
  l2 : lf ≤ k + 1
  go : gone ≤ (P.getD lf []).length
  pz : ∀ (i : Nat) (x : List ByteArray), P[i]? = some x → x.length ≤ k ∧ ∀ s ∈ x, s.size ≤ 7900
  pre : ∀ (i : Nat) (x y : List ByteArray), K[i]? = some x → P[i]? = some y → x = y.take x.length ∧ x.length ≤ y.length
  tk : (tl = 0 ∧ tc = 0) ∨ (1 ≤ tl ∧ tl ≤ lf ∧ ∃ x : List ByteArray, K[tl]? = some x ∧ tc = x.length)
  none : ∀ (i : Nat) (x : List ByteArray), tl < i → K[i]? = some x → x = []
  let' : ∀ f ∈ F, ∃ (l n : Nat) (t : ByteArray), f = letS 1 l n [t] ∧ 1 ≤ l ∧ l ≤ lf ∧ 1 ≤ n ∧ n ≤ 1000000 ∧ t.size ≤ 7900 ∧ ∃ y : List ByteArray, P[l]? = some y ∧ y[n - 1]? = some t
  ll : F.length ≤ 16 * k
  la : A.length ≤ k
  az : ∀ a ∈ A, a.size < 140737488351233
theorem getD_of {P : List (List ByteArray)} {i : Nat} (h : i < P.length) : P[i]? = some (P.getD i []) := by
  rw [List.getElem?_eq_getElem h]; simp [List.getD, List.getElem?_eq_getElem h]
theorem OInv.cur {lf gone : Nat} {P K : List (List ByteArray)} {F A : List ByteArray} {tl tc k : Nat} (h : OInv lf gone P K F A tl tc k) : P[lf]? = some (P.getD lf []) := getD_of (by rw [h.lp]; omega)
theorem OInv.next {lf gone : Nat} {P K : List (List ByteArray)} {F A : List ByteArray} {tl tc k : Nat} (h : OInv lf gone P K F A tl tc k) : OInv lf gone P K F A tl tc (k + 1) :=
  ⟨h.lp, h.lk, h.l1, by have := h.l2; omega, h.go, fun i x hx => ⟨Nat.le_succ_of_le (h.pz i x hx).1, (h.pz i x hx).2⟩, h.pre, h.tk, h.none, h.let', by have := h.ll; omega, by have := h.la; omega, h.az⟩
theorem OInv.heard {lf gone gone' : Nat} {P K : List (List ByteArray)} {F A : List ByteArray} {tl tc k : Nat} (h : OInv lf gone P K F A tl tc k) (hg : gone' ≤ (P.getD lf []).length) : OInv lf gone' P K F A tl tc k :=
  ⟨h.lp, h.lk, h.l1, h.l2, hg, h.pz, h.pre, h.tk, h.none, h.let', h.ll, h.la, h.az⟩
theorem OInv.ack {lf gone : Nat} {P K : List (List ByteArray)} {F A : List ByteArray} {tl tc k : Nat} {a : ByteArray} (h : OInv lf gone P K F A tl tc (k + 1)) (hl : A.length ≤ k) (ha : a.size < 140737488351233) : OInv lf gone P K F (A ++ [a]) tl tc (k + 1) :=
  ⟨h.lp, h.lk, h.l1, h.l2, h.go, h.pz, h.pre, h.tk, h.none, h.let', h.ll, by simp; omega, fun x hx => by
    simp only [List.mem_append, List.mem_cons, List.not_mem_nil, or_false] at hx
    rcases hx with q | rfl
    · exact h.az x q
    · exact ha⟩
theorem set_get {α : Type} {l : List α} {i j : Nat} {a x : α} (h : (l.set i a)[j]? = some x) : (i = j ∧ x = a ∧ i < l.length) ∨ (i ≠ j ∧ l[j]? = some x) := by
  rw [List.getElem?_set] at h
  split at h
  · next q =>
    split at h
    · next q2 => exact .inl ⟨q, (Option.some.inj h).symm, q2⟩
    · cases h
  · next q => exact .inr ⟨q, h⟩
theorem set_get_ne {α : Type} {l : List α} {i j : Nat} {a : α} (h : i ≠ j) : (l.set i a)[j]? = l[j]? := by rw [List.getElem?_set, if_neg h]
theorem set_get_eq {α : Type} {l : List α} {i : Nat} {a : α} (h : i < l.length) : (l.set i a)[i]? = some a := by rw [List.getElem?_set, if_pos rfl, if_pos h]
theorem getD_set {P : List (List ByteArray)} {i : Nat} {y : List ByteArray} (h : i < P.length) : (P.set i y).getD i [] = y := by simp [List.getD, set_get_eq h]
theorem OInv.push {lf gone : Nat} {P K : List (List ByteArray)} {F A : List ByteArray} {tl tc k : Nat} {s : ByteArray} (h : OInv lf gone P K F A tl tc k) (hs : s.size ≤ 7900) : OInv lf gone (P.set lf (P.getD lf [] ++ [s])) K F A tl tc (k + 1) := by
  have hlt : lf < P.length := by rw [h.lp]; omega
  have hn := h.next
  refine ⟨by rw [List.length_set]; exact h.lp, h.lk, h.l1, hn.l2, ?_, ?_, ?_, h.tk, h.none, ?_, hn.ll, hn.la, h.az⟩
  · rw [getD_set hlt, List.length_append]; have := h.go; omega
  · intro i x hx
    rcases set_get hx with ⟨rfl, rfl, _⟩ | ⟨_, q⟩
    · obtain ⟨q1, q2⟩ := h.pz _ _ h.cur
      refine ⟨by rw [List.length_append, List.length_singleton]; omega, fun s' hs' => ?_⟩
      simp only [List.mem_append, List.mem_cons, List.not_mem_nil, or_false] at hs'
      rcases hs' with q | rfl
      · exact q2 s' q
      · exact hs
    · exact hn.pz i x q
  · intro i x y hx hy
    rcases set_get hy with ⟨rfl, rfl, _⟩ | ⟨_, q⟩
    · obtain ⟨q1, q2⟩ := h.pre _ x _ hx h.cur
      refine ⟨?_, by rw [List.length_append]; omega⟩
      rw [List.take_append_of_le_length q2]; exact q1
    · exact h.pre i x y hx q
  · intro f hf
    obtain ⟨l, n, t, e1, e2, e3, e4, e5, e6, y, e7, e8⟩ := h.let' f hf
    refine ⟨l, n, t, e1, e2, e3, e4, e5, e6, ?_⟩
    by_cases q : lf = l
    · subst q
      have : y = P.getD lf [] := by rw [h.cur] at e7; exact (Option.some.inj e7).symm
      subst this
      refine ⟨_, set_get_eq hlt, ?_⟩
      rw [List.getElem?_append_left (List.getElem?_eq_some_iff.1 e8).1]; exact e8
    · exact ⟨y, by rw [set_get_ne q]; exact e7, e8⟩
theorem OInv.frames {lf gone : Nat} {P K : List (List ByteArray)} {F A : List ByteArray} {tl tc k : Nat} (h : OInv lf gone P K F A tl tc k) (hk : k < 200) : OInv lf gone P K (F ++ frL lf gone ((P.getD lf []).drop gone)) A tl tc (k + 1) := by
  have hn := h.next
  refine ⟨h.lp, h.lk, h.l1, hn.l2, h.go, hn.pz, h.pre, h.tk, h.none, ?_, ?_, hn.la, h.az⟩
  · intro f hf
    rw [List.mem_append] at hf
    rcases hf with q | q
    · exact h.let' f q
    · unfold frL at q
      rw [List.mem_map] at q
      obtain ⟨i, hi, rfl⟩ := q
      rw [List.mem_range, List.length_drop] at hi
      obtain ⟨q1, q2⟩ := h.pz _ _ h.cur
      have hlt : gone + i < (P.getD lf []).length := by omega
      have e : ((P.getD lf []).drop gone).getD i ⟨#[]⟩ = (P.getD lf [])[gone + i] := by rw [List.getD_eq_getElem?_getD, List.getElem?_drop, List.getElem?_eq_getElem hlt]; rfl
      refine ⟨lf, gone + 1 + i, _, rfl, h.l1, Nat.le_refl _, by omega, by omega, ?_, _, h.cur, ?_⟩
      · rw [e]; exact q2 _ (List.getElem_mem hlt)
      · rw [show gone + 1 + i - 1 = gone + i from by omega, e, List.getElem?_eq_getElem hlt]
  · rw [List.length_append, frL_length]
    have := h.ll
    omega
/-- A new life. -/
theorem OInv.life {lf gone : Nat} {P K : List (List ByteArray)} {F A : List ByteArray} {tl tc k : Nat} (h : OInv lf gone P K F A tl tc k) : OInv (lf + 1) 0 (P ++ [[]]) (K ++ [[]]) F A tl tc (k + 1) := by
  have hn := h.next
  have app : ∀ {M : List (List ByteArray)} {i : Nat} {x : List ByteArray}, (M ++ [[]])[i]? = some x → M[i]? = some x ∨ (i = M.length ∧ x = []) := fun {M i x} q => by
    rw [List.getElem?_append] at q
    split at q
    · exact .inl q
    · next c =>
      match e : i - M.length, q with
      | 0, q => simp at q; exact .inr ⟨by omega, q⟩
      | j + 1, q => simp at q
  have keep : ∀ {M : List (List ByteArray)} {i : Nat} {x : List ByteArray}, M[i]? = some x → (M ++ [[]])[i]? = some x := fun {M i x} q => by
    rw [List.getElem?_append_left (List.getElem?_eq_some_iff.1 q).1]; exact q
  refine ⟨by simp; exact h.lp, by simp; exact h.lk, by omega, by have := h.l2; omega, Nat.zero_le _, ?_, ?_, ?_, ?_, ?_, hn.ll, hn.la, h.az⟩
  · intro i x hx
    rcases app hx with q | ⟨_, rfl⟩
    · exact hn.pz i x q
    · exact ⟨Nat.zero_le _, fun s hs => by simp at hs⟩
  · intro i x y hx hy
    rcases app hx with q | ⟨_, rfl⟩
    · rcases app hy with q' | ⟨q', rfl⟩
      · exact h.pre i x y q q'
      · have := (List.getElem?_eq_some_iff.1 q).1
        rw [h.lk] at this
        rw [h.lp] at q'
        omega
    · exact ⟨by simp, Nat.zero_le _⟩
  · rcases h.tk with q | ⟨q1, q2, x, q3, q4⟩
    · exact .inl q
    · exact .inr ⟨q1, by omega, x, keep q3, q4⟩
  · intro i x hi hx
    rcases app hx with q | ⟨_, q⟩
    · exact h.none i x hi q
    · exact q
  · intro f hf
    obtain ⟨l, n, t, e1, e2, e3, e4, e5, e6, y, e7, e8⟩ := h.let' f hf
    exact ⟨l, n, t, e1, e2, by omega, e4, e5, e6, y, keep e7, e8⟩
theorem OInv.at {lf gone : Nat} {P K : List (List ByteArray)} {F A : List ByteArray} {tl tc tl' tc' k : Nat} (h : OInv lf gone P K F A tl tc k) (htk : (tl' = 0 ∧ tc' = 0) ∨ (1 ≤ tl' ∧ tl' ≤ lf ∧ ∃ x : List ByteArray, K[tl']? = some x ∧ tc' = x.length)) (hle : tl ≤ tl') : OInv lf gone P K F A tl' tc' k :=
  ⟨h.lp, h.lk, h.l1, h.l2, h.go, h.pz, h.pre, htk, fun i x hi hx => h.none i x (by omega) hx, h.let', h.ll, h.la, h.az⟩
theorem OInv.came {lf gone : Nat} {P K : List (List ByteArray)} {F A : List ByteArray} {tl tc l k : Nat} {x y : List ByteArray} {t : ByteArray} (h : OInv lf gone P K F A tl tc k) (h1 : 1 ≤ l) (h2 : l ≤ lf) (hle : tl ≤ l) (hx : K[l]? = some x) (hy : P[l]? = some y) (ht : y[x.length]? = some t) : OInv lf gone P (K.set l (x ++ [t])) F A l (x.length + 1) k := by
  have hlt : l < K.length := (List.getElem?_eq_some_iff.1 hx).1
  have hty := (List.getElem?_eq_some_iff.1 ht).1
  have hte : y[x.length] = t := (List.getElem?_eq_some_iff.1 ht).2
  refine ⟨h.lp, by rw [List.length_set]; exact h.lk, h.l1, h.l2, h.go, h.pz, ?_, .inr ⟨h1, h2, _, set_get_eq hlt, by simp⟩, ?_, h.let', h.ll, h.la, h.az⟩
  · intro i x' y' hx' hy'
    rcases set_get hx' with ⟨rfl, rfl, _⟩ | ⟨_, q⟩
    · have : y' = y := by rw [hy] at hy'; exact (Option.some.inj hy').symm
      subst this
      obtain ⟨q1, q2⟩ := h.pre _ x y' hx hy
      refine ⟨?_, by simp; omega⟩
      have e : (x ++ [t]).length = x.length + 1 := by simp
      rw [e, ← List.take_append_getElem hty, hte, ← q1]
    · exact h.pre i x' y' q hy'
  · intro i x' hi hx'
    rcases set_get hx' with ⟨rfl, _, _⟩ | ⟨_, q⟩
    · omega
    · exact h.none i x' (by omega) q
/-- What comes of a letter. -/
theorem OInv.take {lf gone : Nat} {P K : List (List ByteArray)} {F A : List ByteArray} {tl tc k : Nat} {f : ByteArray} (h : OInv lf gone P K F A tl tc k) (hk : k ≤ 300) (hf : f ∈ F) {tx : ByteArray} {is : Bool} {er : Int} {tl' tc' : Nat} (hr : tkR f tl tc = (tx, is, er, tl', tc')) :
    1 ≤ tl' ∧ tl' ≤ lf ∧ (is = false → OInv lf gone P K F A tl' tc' k) ∧ (is = true → OInv lf gone P (K.set tl' (K.getD tl' [] ++ [tx])) F A tl' tc' k) := by
  obtain ⟨l, n, t, rfl, e2, e3, e4, e5, e6, y, e7, e8⟩ := h.let' f hf
  have hl2 := h.l2
  have hKl : K[l]? = some (K.getD l []) := getD_of (by rw [h.lk]; omega)
  unfold tkR at hr
  rw [rdF_let ⟨e2, by omega⟩ ⟨e4, by omega⟩ e6] at hr
  simp only [] at hr
  by_cases c1 : l < tl
  · rw [if_pos c1] at hr
    injection hr with r1 r2; injection r2 with r2 r3; injection r3 with r3 r4; injection r4 with r4 r5
    subst r1 r2 r3 r4 r5
    rcases h.tk with ⟨q, _⟩ | ⟨q1, q2, _⟩
    · omega
    · exact ⟨q1, q2, fun _ => h, fun q => by cases q⟩
  · rw [if_neg c1] at hr
    by_cases c2 : tl < l
    · rw [if_pos c2] at hr
      have hK0 : K.getD l [] = [] := h.none l _ c2 hKl
      by_cases c3 : n = 1
      · rw [if_pos c3] at hr
        injection hr with r1 r2; injection r2 with r2 r3; injection r3 with r3 r4; injection r4 with r4 r5
        subst r1 r2 r3 r4 r5
        refine ⟨e2, e3, (fun q => by cases q), fun _ => ?_⟩
        have := h.came (l := l) (t := t) e2 e3 (by omega) hKl e7 (by rw [hK0]; subst c3; exact e8)
        rw [hK0] at this ⊢
        exact this
      · rw [if_neg c3] at hr
        injection hr with r1 r2; injection r2 with r2 r3; injection r3 with r3 r4; injection r4 with r4 r5
        subst r1 r2 r3 r4 r5
        exact ⟨e2, e3, fun _ => h.at (.inr ⟨e2, e3, _, hKl, by rw [hK0]; rfl⟩) (by omega), fun q => by cases q⟩
    · rw [if_neg c2] at hr
      obtain rfl : tl = l := by omega
      have htc : tc = (K.getD tl []).length := by
        rcases h.tk with ⟨q, _⟩ | ⟨_, _, x, q3, q4⟩
        · omega
        · rw [hKl] at q3; rw [Option.some.inj q3]; exact q4
      by_cases c3 : n = tc + 1
      · rw [if_pos c3] at hr
        injection hr with r1 r2; injection r2 with r2 r3; injection r3 with r3 r4; injection r4 with r4 r5
        subst r1 r2 r3 r4 r5
        refine ⟨e2, e3, (fun q => by cases q), fun _ => ?_⟩
        have := h.came (l := tl) (t := t) e2 e3 (Nat.le_refl _) hKl e7 (by rw [← htc]; subst c3; exact e8)
        rw [← htc] at this
        exact this
      · rw [if_neg c3] at hr
        injection hr with r1 r2; injection r2 with r2 r3; injection r3 with r3 r4; injection r4 with r4 r5
        subst r1 r2 r3 r4 r5
        exact ⟨e2, e3, fun _ => h, fun q => by cases q⟩

/-- A slice of slices of texts: the table of colour t, its i-th row of colour b + 2 i. -/
def Tab (w : World) (c : Nat → Nat) (t b : Nat) (a : Option Addr) (cap : Nat) (M : List (List ByteArray)) : Prop :=
  ∃ vs : List Value, vs.length = M.length ∧ Row w c t a vs cap ∧ ∀ (i : Nat) (x : List ByteArray), M[i]? = some x → ∃ (ai : Option Addr) (ci : Nat), vs[i]? = some (.slice ai x.length ci) ∧ Row w c (b + 2 * i) ai (x.map Value.string) ci
theorem Tab.keep {w w' : World} {c : Nat → Nat} {t b p q cap : Nat} (x : Nat) {a : Option Addr} {M : List (List ByteArray)} (h : Tab w c t b a cap M) (hb : Chg w c p q w') (h1 : t ≠ p) (h2 : t ≠ q) (h3 : ∀ i, b + 2 * i ≠ p) (h4 : ∀ i, b + 2 * i ≠ q) : Tab w' (paint c w w' x) t b a cap M := by
  obtain ⟨vs, e1, e2, e3⟩ := h
  refine ⟨vs, e1, e2.keep x hb h1 h2, fun i y hy => ?_⟩
  obtain ⟨ai, ci, g1, g2⟩ := e3 i y hy
  exact ⟨ai, ci, g1, g2.keep x hb (h3 i) (h4 i)⟩
theorem Row.at {w : World} {c : Nat → Nat} {i cap j : Nat} {a : Option Addr} {vs : List Value} {u : Value} (h : Row w c i a vs cap) (hj : vs[j]? = some u) : ∃ tb to, a = some ⟨tb, to, none⟩ ∧ w.cell? ⟨tb, to + j, none⟩ = some u ∧ tb < w.heap.size ∧ c tb = i ∧ ∀ o, w.frozen? ⟨tb, o, none⟩ = false := by
  rcases h with ⟨_, rfl, _⟩ | ⟨b, o, h1, h2, h3, h4, h5, h6, h7, h8⟩
  · simp at hj
  · exact ⟨b, o, h1, h6 j u hj, h3, h2.resolve_right (Nat.not_le_of_lt h3), h8⟩
theorem Tab.get {w : World} {c : Nat → Nat} {t b cap i : Nat} {a : Option Addr} {M : List (List ByteArray)} {x : List ByteArray} (h : Tab w c t b a cap M) (hi : M[i]? = some x) :
    ∃ tb to ai ci, a = some ⟨tb, to, none⟩ ∧ w.cell? ⟨tb, to + i, none⟩ = some (.slice ai x.length ci) ∧ tb < w.heap.size ∧ c tb = t ∧ (∀ o, w.frozen? ⟨tb, o, none⟩ = false) ∧ Row w c (b + 2 * i) ai (x.map Value.string) ci := by
  obtain ⟨vs, e1, e2, e3⟩ := h
  obtain ⟨ai, ci, g1, g2⟩ := e3 i x hi
  obtain ⟨tb, to, f1, f2, f3, f4, f5⟩ := e2.at g1
  exact ⟨tb, to, ai, ci, f1, f2, f3, f4, f5, g2⟩
theorem paint_same {c : Nat → Nat} {w w' : World} {x : Nat} (h : w'.heap.size = w.heap.size) : paint c w w' x = c := by
  funext k
  unfold paint
  rw [if_neg (by omega)]
theorem Chg.set {w : World} {c : Nat → Nat} {t tb o : Nat} {v : Value} (h : c tb = t) : Chg w c t t (w.setCell ⟨tb, o, none⟩ v) :=
  ⟨rfl, rfl, rfl, by rw [World.size_setCell]; exact Nat.le_refl _, fun k hk => Below.heap_setCell w ⟨tb, o, none⟩ v k (fun (q : k = tb) => hk (.inl (by rw [q]; exact h)))⟩
theorem RowV.put {w : World} {F : Nat → Prop} {b o cap j : Nat} {vs : List Value} {v u : Value} (h : RowV w F (some ⟨b, o, none⟩) vs cap) (hj : vs[j]? = some u) : RowV (w.setCell ⟨b, o + j, none⟩ v) F (some ⟨b, o, none⟩) (vs.set j v) cap := by
  rcases h with ⟨h, _⟩ | ⟨b', o', h1, h2, h3, h4, h5, h6, h7, h8⟩
  · cases h
  · cases h1
    have hlt : j < vs.length := (List.getElem?_eq_some_iff.1 hj).1
    refine .inr ⟨b, o, rfl, h2, by rw [World.size_setCell]; exact h3, by rw [List.length_set]; exact h4, h5, fun i y hy => ?_, fun i hi => ?_, fun i => by rw [World.frozen?_setCell]; exact h8 i⟩
    · rcases set_get hy with ⟨rfl, rfl, _⟩ | ⟨q, hy'⟩
      · exact World.cell?_setCell_same _ _ _ (h6 j u hj)
      · rw [World.cell?_setCell_other _ _ _ _ (by intro k; injection k with _ k2 _; omega)]; exact h6 i y hy'
    · by_cases q : i = j
      · subst q; rw [World.cell?_setCell_same _ _ _ (h6 i u hj)]; rfl
      · rw [World.cell?_setCell_other _ _ _ _ (by intro k; injection k with _ k2 _; omega)]; exact h7 i hi
theorem Tab.put {w w8 : World} {c : Nat → Nat} {t b tb to cap i : Nat} {M : List (List ByteArray)} {y : List ByteArray} {a8 : Option Addr} {cp : Nat} (h : Tab w c t b (some ⟨tb, to, none⟩) cap M) (hi : i < M.length) (hC : Chg w c (b + 2 * i) (b + 2 * i) w8) (hR : Row w8 (paint c w w8 (b + 2 * i)) (b + 2 * i) a8 (y.map Value.string) cp) (ht : ∀ j, t ≠ b + 2 * j) :
    Tab (w8.setCell ⟨tb, to + i, none⟩ (.slice a8 y.length cp)) (paint c w w8 (b + 2 * i)) t b (some ⟨tb, to, none⟩) cap (M.set i y) ∧ Chg w8 (paint c w w8 (b + 2 * i)) t t (w8.setCell ⟨tb, to + i, none⟩ (.slice a8 y.length cp)) := by
  obtain ⟨vs, e1, e2, e3⟩ := h
  obtain ⟨ai, ci, g1, g2⟩ := e3 i _ (List.getElem?_eq_getElem hi)
  obtain ⟨tb', to', f1, f2, f3, f4, f5⟩ := e2.at g1
  cases f1
  have hct : paint c w w8 (b + 2 * i) tb = t := by rw [paint_old f3]; exact f4
  have hs : Chg w8 (paint c w w8 (b + 2 * i)) t t (w8.setCell ⟨tb, to + i, none⟩ (.slice a8 y.length cp)) := Chg.set hct
  have hz : (w8.setCell ⟨tb, to + i, none⟩ (.slice a8 y.length cp)).heap.size = w8.heap.size := World.size_setCell ..
  refine ⟨⟨vs.set i (.slice a8 y.length cp), by rw [List.length_set, List.length_set]; exact e1, ?_, fun j x hx => ?_⟩, hs⟩
  · have := (RowV.put (v := .slice a8 y.length cp) (e2.keep (b + 2 * i) hC (ht i) (ht i)) g1)
    unfold Row
    rw [hz]
    exact this
  · rcases set_get hx with ⟨rfl, rfl, _⟩ | ⟨q, hx'⟩
    · have := hR.keep 0 hs (Ne.symm (ht i)) (Ne.symm (ht i))
      rw [paint_same hz] at this
      exact ⟨a8, cp, set_get_eq (by rw [e1]; exact hi), this⟩
    · obtain ⟨aj, cj, k1, k2⟩ := e3 j x hx'
      have k3 := (k2.keep (b + 2 * i) hC (by omega) (by omega)).keep 0 hs (Ne.symm (ht j)) (Ne.symm (ht j))
      rw [paint_same hz] at k3
      exact ⟨aj, cj, by rw [set_get_ne q]; exact k1, k3⟩
theorem Tab.grow {w w8 : World} {c : Nat → Nat} {t b : Nat} {M : List (List ByteArray)} {vs : List Value} {a8 : Option Addr} {cp : Nat} (e1 : vs.length = M.length) (e3 : ∀ (i : Nat) (x : List ByteArray), M[i]? = some x → ∃ (ai : Option Addr) (ci : Nat), vs[i]? = some (.slice ai x.length ci) ∧ Row w c (b + 2 * i) ai (x.map Value.string) ci) (hR : Row w8 (paint c w w8 t) t a8 (vs ++ [.slice none 0 0]) cp) (hC : Chg w c t t w8) (ht : ∀ j, t ≠ b + 2 * j) : Tab w8 (paint c w w8 t) t b a8 cp (M ++ [[]]) := by
  refine ⟨_, by simp [e1], hR, fun i x hx => ?_⟩
  rw [List.getElem?_append] at hx
  split at hx
  · next q =>
    obtain ⟨ai, ci, k1, k2⟩ := e3 i x hx
    exact ⟨ai, ci, by rw [List.getElem?_append_left (by omega)]; exact k1, k2.keep t hC (Ne.symm (ht i)) (Ne.symm (ht i))⟩
  · next q =>
    match e : i - M.length, hx with
    | 0, hx =>
      simp at hx
      subst hx
      refine ⟨none, 0, ?_, RowV.nil _ _⟩
      rw [List.getElem?_append_right (by omega), e1, e]
      rfl
    | j + 1, hx => simp at hx
end Go.Proofs.Ytadcjdffjhiniaa
