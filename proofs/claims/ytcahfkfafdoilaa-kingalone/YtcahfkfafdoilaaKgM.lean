/- The phase king, over plain numbers: all that do as told agree. -/
import Derived.Test.YtcahfkfafdoilaaKgN
namespace Go.Proofs.Ytcahfkfafdoilaa
open Go

theorem hw_nat {v : Nat} (h : v ≤ 2) : hw (v : Int) = v := by
  have : v = 0 ∨ v = 1 ∨ v = 2 := by omega
  rcases this with rfl | rfl | rfl <;> rfl
theorem countP_le_add {p q r : Nat → Bool} : ∀ L : List Nat, (∀ j ∈ L, q j = true → p j = true ∨ r j = true) → L.countP q ≤ L.countP p + L.countP r
  | [], _ => by simp
  | a :: L, h => by
    have ih := countP_le_add (p := p) (q := q) (r := r) L (fun j hj => h j (List.mem_cons_of_mem _ hj))
    have ha := h a (List.mem_cons_self)
    rw [List.countP_cons, List.countP_cons, List.countP_cons]
    cases hq : q a
    · simp; omega
    · rcases ha hq with e | e <;> simp [e] <;> omega
def vAt (X : List Kn) (j : Nat) : Nat := match X[j]? with
  | some x => x.v
  | none => 0
theorem vAt_some {X : List Kn} {j : Nat} {x : Kn} (h : X[j]? = some x) : vAt X j = x.v := by unfold vAt; rw [h]
/-- How many that do as told have the value k. -/
def hc (fl : Nat → Bool) (X : List Kn) (k : Nat) : Nat := (List.range X.length).countP (fun j => !fl j && vAt X j == k)
def fcn (fl : Nat → Bool) (n : Nat) : Nat := (List.range n).countP fl
/-- What is told a node: by those that do as told their values. -/
def Tl (fl : Nat → Bool) (X : List Kn) (t : List Int) : Prop := t.length = X.length ∧ ∀ (j : Nat) (x : Kn) (y : Int), fl j = false → X[j]? = some x → t[j]? = some y → y = (x.v : Int)
theorem cnt_range (t : List Int) (k : Nat) : cnt t k = (List.range t.length).countP (fun j => hw (t.getD j 2) == k) := by
  have e : t = (List.range t.length).map (fun j => t.getD j 2) := by
    apply List.ext_getElem
    · simp
    · intro i h1 h2
      simp [List.getElem?_eq_getElem h1]
  unfold cnt
  conv => lhs; rw [e]
  rw [List.countP_map]
  rfl
theorem hc_sum (fl : Nat → Bool) (X : List Kn) (hv : ∀ (j : Nat) (x : Kn), X[j]? = some x → fl j = false → x.v ≤ 2) : hc fl X 0 + hc fl X 1 + hc fl X 2 + fcn fl X.length = X.length := by
  have key : ∀ L : List Nat, (∀ j ∈ L, fl j = false → vAt X j ≤ 2) → L.countP (fun j => !fl j && vAt X j == 0) + L.countP (fun j => !fl j && vAt X j == 1) + L.countP (fun j => !fl j && vAt X j == 2) + L.countP fl = L.length := by
    intro L
    induction L with
    | nil => intro _; rfl
    | cons a L ih =>
      intro h
      have ih := ih (fun j hj => h j (List.mem_cons_of_mem _ hj))
      have ha := h a List.mem_cons_self
      simp only [List.countP_cons, List.length_cons]
      cases hf : fl a
      · have := ha hf
        have : vAt X a = 0 ∨ vAt X a = 1 ∨ vAt X a = 2 := by omega
        rcases this with e | e | e <;> simp [e] <;> omega
      · simp; omega
  have := key (List.range X.length) (fun j hj hf => by
    rw [List.mem_range] at hj
    rw [vAt_some (List.getElem?_eq_getElem hj)]
    exact hv j _ (List.getElem?_eq_getElem hj) hf)
  rw [List.length_range] at this
  exact this
theorem told_cnt {fl : Nat → Bool} {X : List Kn} {t : List Int} (hv : ∀ (j : Nat) (x : Kn), X[j]? = some x → fl j = false → x.v ≤ 2) (ht : Tl fl X t) (k : Nat) : hc fl X k ≤ cnt t k ∧ cnt t k ≤ hc fl X k + fcn fl X.length := by
  rw [cnt_range, ht.1]
  have key : ∀ j, j < X.length → fl j = false → hw (t.getD j 2) = vAt X j := by
    intro j hj hf
    have hx := List.getElem?_eq_getElem hj
    have hj' : j < t.length := by rw [ht.1]; exact hj
    have hy := List.getElem?_eq_getElem hj'
    rw [vAt_some hx, List.getD_eq_getElem?_getD, hy, Option.getD_some, ht.2 j _ _ hf hx hy]
    exact hw_nat (hv j _ hx hf)
  constructor
  · refine List.countP_mono_left fun j hj h => ?_
    rw [List.mem_range] at hj
    rw [Bool.and_eq_true, Bool.not_eq_true', beq_iff_eq] at h
    rw [beq_iff_eq, key j hj h.1]; exact h.2
  · refine countP_le_add _ fun j hj h => ?_
    rw [List.mem_range] at hj
    cases hf : fl j
    · left
      rw [beq_iff_eq] at h
      rw [Bool.and_eq_true, Bool.not_eq_true', beq_iff_eq, ← key j hj hf]; exact ⟨rfl, h⟩
    · right; rfl
theorem hc_pos {fl : Nat → Bool} {X : List Kn} {k : Nat} (h : 0 < hc fl X k) : ∃ j x, X[j]? = some x ∧ fl j = false ∧ x.v = k := by
  obtain ⟨j, hj, hp⟩ := List.countP_pos_iff.1 h
  rw [List.mem_range] at hj
  simp at hp
  rw [vAt_some (List.getElem?_eq_getElem hj)] at hp
  exact ⟨j, _, List.getElem?_eq_getElem hj, hp.1, hp.2⟩
theorem hc_zero {fl : Nat → Bool} {X : List Kn} {k : Nat} (h : ∀ (j : Nat) (x : Kn), X[j]? = some x → fl j = false → x.v ≠ k) : hc fl X k = 0 := by
  refine Nat.eq_zero_of_not_pos fun c => ?_
  obtain ⟨j, x, h1, h2, h3⟩ := hc_pos c
  exact h j x h1 h2 h3
/-- All nodes have gone through r rounds of a table. -/
structure Tab (n f r : Nat) (X : List Kn) : Prop where
  len : X.length = n
  n1 : 1 ≤ n
  hf : 3 * f < n
  all : ∀ (j : Nat) (x : Kn), X[j]? = some x → x.n = n ∧ x.f = f ∧ x.r = r ∧ x.v ≤ 2
/-- A round. -/
def Rd (fl : Nat → Bool) (X Y : List Kn) : Prop := Y.length = X.length ∧ ∀ (j : Nat) (x : Kn), X[j]? = some x → ∃ t, Tl fl X t ∧ Y[j]? = some (stepK x t)
theorem Rd.inv {fl : Nat → Bool} {X Y : List Kn} (h : Rd fl X Y) {j : Nat} {y : Kn} (hy : Y[j]? = some y) : ∃ x t, X[j]? = some x ∧ Tl fl X t ∧ y = stepK x t := by
  have hj : j < X.length := by rw [← h.1]; exact (List.getElem?_eq_some_iff.1 hy).1
  obtain ⟨t, ht, e⟩ := h.2 j _ (List.getElem?_eq_getElem hj)
  rw [hy] at e
  exact ⟨_, t, List.getElem?_eq_getElem hj, ht, Option.some.inj e⟩
theorem stepK_v {x : Kn} (t : List Int) (h : x.v ≤ 2) : (stepK x t).v ≤ 2 := by
  unfold stepK
  split
  · exact firstV_le _ _ _ _
  · split
    · exact secondV_le h
    · exact thirdV_le h
theorem Tab.step {n f r : Nat} {fl : Nat → Bool} {X Y : List Kn} (h : Tab n f r X) (hr : Rd fl X Y) : Tab n f (r + 1) Y :=
  ⟨hr.1.trans h.len, h.n1, h.hf, fun j y hy => by
    obtain ⟨x, t, hx, _, rfl⟩ := hr.inv hy
    obtain ⟨a, b, c, d⟩ := h.all j x hx
    exact ⟨by rw [stepK_n, a], by rw [stepK_f, b], by rw [stepK_r, c], stepK_v t d⟩⟩
/-- All that do as told have the value c, and heed no king ahead of a third round. -/
def Agr (fl : Nat → Bool) (c r : Nat) (X : List Kn) : Prop := ∀ (j : Nat) (x : Kn), X[j]? = some x → fl j = false → x.v = c ∧ (r % 3 = 2 → x.m = true)
theorem Agr.step {n f r c : Nat} {fl : Nat → Bool} {X Y : List Kn} (hc1 : c ≤ 1) (hF : fcn fl n ≤ f) (h : Tab n f r X) (ha : Agr fl c r X) (hr : Rd fl X Y) : Agr fl c (r + 1) Y := by
  intro j y hy hf
  obtain ⟨x, t, hx, ht, rfl⟩ := hr.inv hy
  obtain ⟨e1, e2, e3, e4⟩ := h.all j x hx
  have hv : ∀ (j : Nat) (x : Kn), X[j]? = some x → fl j = false → x.v ≤ 2 := fun j x hx _ => (h.all j x hx).2.2.2
  have s := hc_sum fl X hv
  have k0 := told_cnt hv ht 0
  have k1 := told_cnt hv ht 1
  have k2 := told_cnt hv ht 2
  have z : ∀ k, k ≠ c → hc fl X k = 0 := fun k hk => hc_zero fun j x hx hf e => hk (by rw [← e, (ha j x hx hf).1])
  rw [h.len] at s k0 k1 k2
  have hf3 := h.hf
  unfold stepK
  rw [e3]
  have hm : r % 3 = 0 ∨ r % 3 = 1 ∨ r % 3 = 2 := by omega
  have hcc : c = 0 ∨ c = 1 := by omega
  rcases hm with hm | hm | hm
  · rw [if_pos hm]
    refine ⟨?_, fun q => by omega⟩
    show firstV x.n x.f (cnt t 0) (cnt t 1) = c
    rw [e1, e2]
    unfold firstV
    rcases hcc with rfl | rfl
    · have := z 1 (by decide); have := z 2 (by decide)
      rw [if_neg (by omega), if_pos (by omega)]
    · have := z 0 (by decide); have := z 2 (by decide)
      rw [if_pos (by omega)]
  · rw [if_neg (by omega), if_pos hm]
    have ev : secondV x.f (cnt t 0) (cnt t 1) (cnt t 2) x.v = c := by
      rw [e2]
      unfold secondV
      rcases hcc with rfl | rfl
      · have := z 1 (by decide); have := z 2 (by decide)
        rw [if_pos (by omega)]
      · have := z 0 (by decide); have := z 2 (by decide)
        rw [if_neg (by omega), if_pos (by omega)]
    refine ⟨ev, fun _ => ?_⟩
    show firmB x.n x.f (secondV x.f (cnt t 0) (cnt t 1) (cnt t 2) x.v) (cnt t (secondV x.f (cnt t 0) (cnt t 1) (cnt t 2) x.v)) = true
    rw [ev, e1, e2]
    unfold firmB
    rcases hcc with rfl | rfl
    · have := z 1 (by decide); have := z 2 (by decide)
      rw [decide_eq_true (by omega), decide_eq_true (by omega)]; rfl
    · have := z 0 (by decide); have := z 2 (by decide)
      rw [decide_eq_true (by omega), decide_eq_true (by omega)]; rfl
  · rw [if_neg (by omega), if_neg (by omega)]
    refine ⟨?_, fun q => by omega⟩
    show thirdV x.m x.v _ = c
    rw [(ha j x hx hf).2 hm]
    exact (ha j x hx hf).1
/-- What holds in every round. -/
structure Kin (fl : Nat → Bool) (r : Nat) (X : List Kn) : Prop where
  p0 : r % 3 = 0 → ∀ (j : Nat) (x : Kn), X[j]? = some x → fl j = false → x.v ≤ 1
  p1 : r % 3 = 1 → ∀ (i j : Nat) (x y : Kn), X[i]? = some x → X[j]? = some y → fl i = false → fl j = false → x.v ≠ 2 → y.v ≠ 2 → x.v = y.v
  p2 : r % 3 = 2 → ∀ (i : Nat) (x : Kn), X[i]? = some x → fl i = false → x.m = true → x.v ≠ 2 ∧ ∀ (j : Nat) (y : Kn), X[j]? = some y → fl j = false → y.v = x.v
  ag : (∀ k, k < r / 3 → fl k = true) ∨ ∃ c, c ≤ 1 ∧ Agr fl c r X
theorem Kin.step {n f r : Nat} {fl : Nat → Bool} {X Y : List Kn} (hF : fcn fl n ≤ f) (h : Tab n f r X) (hk : Kin fl r X) (hr : Rd fl X Y) (hrr : r < 3 * (f + 1)) : Kin fl (r + 1) Y := by
  have hv : ∀ (j : Nat) (x : Kn), X[j]? = some x → fl j = false → x.v ≤ 2 := fun j x hx _ => (h.all j x hx).2.2.2
  have s := hc_sum fl X hv
  have tc : ∀ t, Tl fl X t → ∀ k, hc fl X k ≤ cnt t k ∧ cnt t k ≤ hc fl X k + fcn fl n := fun t ht k => by have := told_cnt hv ht k; rwa [h.len] at this
  rw [h.len] at s
  have hf3 := h.hf
  refine ⟨fun q => ?_, fun q => ?_, fun q => ?_, ?_⟩
  · have hm : r % 3 = 2 := by omega
    intro j y hy hf
    obtain ⟨x, t, hx, ht, rfl⟩ := hr.inv hy
    obtain ⟨e1, e2, e3, e4⟩ := h.all j x hx
    unfold stepK
    rw [e3, if_neg (by omega), if_neg (by omega)]
    show thirdV x.m x.v _ ≤ 1
    unfold thirdV
    cases hm2 : x.m
    · simp; split <;> omega
    · have := (hk.p2 hm j x hx hf hm2).1
      simp; omega
  · have hm : r % 3 = 0 := by omega
    intro i j x' y' hx' hy' hi hj hn1 hn2
    obtain ⟨x, t, hx, ht, rfl⟩ := hr.inv hx'
    obtain ⟨y, u, hy, hu, rfl⟩ := hr.inv hy'
    obtain ⟨e1, e2, e3, e4⟩ := h.all i x hx
    obtain ⟨d1, d2, d3, d4⟩ := h.all j y hy
    have ex : (stepK x t).v = firstV n f (cnt t 0) (cnt t 1) := by unfold stepK; rw [e3, if_pos hm, ← e1, ← e2]; rfl
    have ey : (stepK y u).v = firstV n f (cnt u 0) (cnt u 1) := by unfold stepK; rw [d3, if_pos hm, ← d1, ← d2]; rfl
    rw [ex] at hn1 ⊢
    rw [ey] at hn2 ⊢
    have a0 := tc t ht 0
    have a1 := tc t ht 1
    have b0 := tc u hu 0
    have b1 := tc u hu 1
    unfold firstV at hn1 hn2 ⊢
    split at hn1 <;> split at hn2 <;> (try split at hn1) <;> (try split at hn2) <;> first | (simp at hn1; done) | (simp at hn2; done) | (simp [*]; done) | (exfalso; omega) | skip
  · have hm : r % 3 = 1 := by omega
    intro i x' hx' hi hfm
    obtain ⟨x, t, hx, ht, rfl⟩ := hr.inv hx'
    obtain ⟨e1, e2, e3, e4⟩ := h.all i x hx
    have es : stepK x t = secondK x t := by unfold stepK; rw [e3, if_neg (by omega), if_pos hm]
    rw [es] at hfm ⊢
    obtain ⟨V, hV⟩ : ∃ V, V = secondV x.f (cnt t 0) (cnt t 1) (cnt t 2) x.v := ⟨_, rfl⟩
    have hfm' : firmB x.n x.f V (cnt t V) = true := by rw [hV]; exact hfm
    have hVv : (secondK x t).v = V := by rw [hV]; rfl
    rw [hVv]
    unfold firmB at hfm'
    rw [Bool.and_eq_true, decide_eq_true_eq, decide_eq_true_eq, e1, e2] at hfm'
    obtain ⟨hV2, hVc⟩ := hfm'
    have hVle : V ≤ 2 := by rw [hV]; exact secondV_le e4
    refine ⟨hV2, fun j y' hy' hj => ?_⟩
    obtain ⟨y, u, hy, hu, rfl⟩ := hr.inv hy'
    obtain ⟨d1, d2, d3, d4⟩ := h.all j y hy
    have es2 : (stepK y u).v = secondV f (cnt u 0) (cnt u 1) (cnt u 2) y.v := by unfold stepK; rw [d3, if_neg (by omega), if_pos hm, ← d2]; rfl
    rw [es2]
    have aV := tc t ht V
    have b0 := tc u hu 0
    have b1 := tc u hu 1
    have hpos : 0 < hc fl X V := by omega
    obtain ⟨p, z, hz, hp, ez⟩ := hc_pos hpos
    have other : ∀ k, k ≠ V → k ≠ 2 → hc fl X k = 0 := fun k h1 h2 => hc_zero fun j' x' hx' hf' e => h1 (by
      have := hk.p1 hm j' p x' z hx' hz hf' hp (by rw [e]; exact h2) (by rw [ez]; exact hV2)
      rw [← e, this, ez])
    have hVV : V = 0 ∨ V = 1 := by omega
    unfold secondV
    rcases hVV with e | e
    · rw [e] at hVc aV hpos other ⊢
      rw [if_pos (by omega)]
    · rw [e] at hVc aV hpos other ⊢
      have := other 0 (by decide) (by decide)
      rw [if_neg (by omega), if_pos (by omega)]
  · rcases hk.ag with hg | ⟨c, hc1, hA⟩
    · by_cases hm : r % 3 = 2
      · by_cases hkg : fl (r / 3) = true
        · left
          intro k hk'
          by_cases e : k = r / 3
          · rw [e]; exact hkg
          · exact hg k (by omega)
        · right
          have hkf : fl (r / 3) = false := by simpa using hkg
          have hkn : r / 3 < X.length := by rw [h.len]; omega
          obtain ⟨kx, hkx⟩ : ∃ kx, X[r / 3]? = some kx := ⟨_, List.getElem?_eq_getElem hkn⟩
          have hkv := (h.all _ _ hkx).2.2.2
          refine ⟨if kx.v = 0 then 0 else 1, by split <;> omega, fun j y hy hf => ?_⟩
          obtain ⟨x, t, hx, ht, rfl⟩ := hr.inv hy
          obtain ⟨e1, e2, e3, e4⟩ := h.all j x hx
          refine ⟨?_, fun q => by omega⟩
          unfold stepK
          rw [e3, if_neg (by omega), if_neg (by omega)]
          show thirdV x.m x.v (hw (t.getD (x.r / 3) 2)) = _
          rw [e3]
          have hjt : r / 3 < t.length := by rw [ht.1]; exact hkn
          have hty := ht.2 (r / 3) kx _ hkf hkx (List.getElem?_eq_getElem hjt)
          rw [List.getD_eq_getElem?_getD, List.getElem?_eq_getElem hjt, Option.getD_some, hty, hw_nat hkv]
          unfold thirdV
          cases hm2 : x.m
          · simp
          · have hp := hk.p2 hm j x hx hf hm2
            have := hp.2 (r / 3) kx hkx hkf
            have := hp.1
            simp
            split <;> omega
      · left
        intro k hk'
        exact hg k (by omega)
    · right
      exact ⟨c, hc1, hA.step hc1 hF h hr⟩
theorem Kin.zero {fl : Nat → Bool} {X : List Kn} (hv : ∀ (j : Nat) (x : Kn), X[j]? = some x → x.v ≤ 1) : Kin fl 0 X :=
  ⟨fun _ j x hx _ => hv j x hx, fun q => by simp at q, fun q => by simp at q, .inl fun k hk => absurd hk (by omega)⟩
theorem fcn_first {fl : Nat → Bool} {n m : Nat} (hm : m ≤ n) (h : ∀ k, k < m → fl k = true) : m ≤ fcn fl n := by
  have e : (List.range m).countP fl = m := by
    have : (List.range m).countP fl = (List.range m).length := List.countP_eq_length.2 fun a ha => h a (List.mem_range.1 ha)
    rw [this, List.length_range]
  unfold fcn
  obtain ⟨d, rfl⟩ : ∃ d, n = m + d := ⟨n - m, by omega⟩
  rw [List.range_add, List.countP_append, e]
  omega
theorem Kin.done {n f : Nat} {fl : Nat → Bool} {X : List Kn} (hF : fcn fl n ≤ f) (h : Tab n f (3 * (f + 1)) X) (hk : Kin fl (3 * (f + 1)) X) : ∃ c, c ≤ 1 ∧ Agr fl c (3 * (f + 1)) X := by
  rcases hk.ag with hg | hA
  · have := h.hf
    have := fcn_first (fl := fl) (n := n) (m := f + 1) (by omega) (fun k hk => hg k (by omega))
    omega
  · exact hA
end Go.Proofs.Ytcahfkfafdoilaa
