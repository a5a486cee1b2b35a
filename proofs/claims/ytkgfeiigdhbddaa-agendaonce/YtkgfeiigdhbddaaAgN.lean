/- Package agenda, over plain numbers: a heap of entries and where each ticket stands, and the entries in the order in which they are told. -/
import Derived.Test.YtkgfeiigdhbddaaRows
import Derived.WalkKit
namespace Go.Proofs.Ytkgfeiigdhbddaa
open Go

/-- An entry: its ticket, its moment, its text. -/
structure En where
  t : Nat
  m : Nat
  s : ByteArray
/-- One entry comes ahead of another one. -/
def eLt (a b : En) : Prop := a.m < b.m ∨ (a.m = b.m ∧ a.t < b.t)
instance (a b : En) : Decidable (eLt a b) := inferInstanceAs (Decidable (_ ∨ _))
theorem eLt_asymm {a b : En} (h : eLt a b) : ¬ eLt b a := by unfold eLt at *; omega
theorem eLt_irr (a : En) : ¬ eLt a a := by unfold eLt; omega
theorem eLt_trans {a b c : En} (h : eLt a b) (h2 : eLt b c) : eLt a c := by unfold eLt at *; omega
theorem eGe_trans {a b c : En} (h : ¬ eLt a b) (h2 : ¬ eLt b c) : ¬ eLt a c := by unfold eLt at *; omega
theorem eGe_lt {a b c : En} (h : ¬ eLt a b) (h2 : eLt c b) : ¬ eLt a c := by unfold eLt at *; omega
theorem eLt_total {a b : En} (h : a.t ≠ b.t) (h2 : ¬ eLt a b) : eLt b a := by unfold eLt at *; omega
def swF (f : Nat → En) (i j : Nat) : Nat → En := fun k => if k = i then f j else if k = j then f i else f k
def putF (f : Nat → En) (i : Nat) (e : En) : Nat → En := fun k => if k = i then e else f k
theorem swF_l (f : Nat → En) (i j : Nat) : swF f i j i = f j := if_pos rfl
theorem swF_r (f : Nat → En) (i j : Nat) : swF f i j j = f i := by
  unfold swF
  by_cases h : j = i
  · rw [if_pos h, h]
  · rw [if_neg h, if_pos rfl]
theorem swF_o {f : Nat → En} {i j k : Nat} (h1 : k ≠ i) (h2 : k ≠ j) : swF f i j k = f k := by unfold swF; rw [if_neg h1, if_neg h2]
theorem putF_s (f : Nat → En) (i : Nat) (e : En) : putF f i e i = e := if_pos rfl
theorem putF_o {f : Nat → En} {i k : Nat} {e : En} (h : k ≠ i) : putF f i e k = f k := if_neg h
/-- The first n are a heap. -/
def Hp (f : Nat → En) (n : Nat) : Prop := ∀ k, 0 < k → k < n → ¬ eLt (f k) (f ((k - 1) / 2))
def UpI (f : Nat → En) (n j : Nat) : Prop := (∀ k, 0 < k → k < n → k ≠ j → ¬ eLt (f k) (f ((k - 1) / 2))) ∧ ∀ k, 0 < k → k < n → (k - 1) / 2 = j → 0 < j → ¬ eLt (f k) (f ((j - 1) / 2))
def DnI (f : Nat → En) (n i : Nat) : Prop := (∀ k, 0 < k → k < n → (k - 1) / 2 ≠ i → ¬ eLt (f k) (f ((k - 1) / 2))) ∧ ∀ k, 0 < k → k < n → (k - 1) / 2 = i → 0 < i → ¬ eLt (f k) (f ((i - 1) / 2))
def DU (f : Nat → En) (n i : Nat) : Prop := (∀ k, 0 < k → k < n → k ≠ i → (k - 1) / 2 ≠ i → ¬ eLt (f k) (f ((k - 1) / 2))) ∧ ∀ k, 0 < k → k < n → (k - 1) / 2 = i → 0 < i → ¬ eLt (f k) (f ((i - 1) / 2))
theorem DnI.du {f : Nat → En} {n i : Nat} (h : DnI f n i) : DU f n i := ⟨fun k h1 h2 _ h4 => h.1 k h1 h2 h4, h.2⟩
theorem Hp.upi {f : Nat → En} {n : Nat} (h : Hp f n) (e : En) : UpI (putF f n e) (n + 1) n := by
  refine ⟨fun k h1 h2 h3 => ?_, fun k h1 h2 h3 => by omega⟩
  rw [putF_o h3, putF_o (by omega)]
  exact h k h1 (by omega)
theorem up_zero {f : Nat → En} {n : Nat} (h : UpI f n 0) : Hp f n := fun k h1 h2 => h.1 k h1 h2 (by omega)
theorem up_done {f : Nat → En} {n j : Nat} (h : UpI f n j) (hd : ¬ eLt (f j) (f ((j - 1) / 2))) : Hp f n := fun k h1 h2 => by
  by_cases q : k = j
  · subst q; exact hd
  · exact h.1 k h1 h2 q
theorem up_step {f : Nat → En} {n j : Nat} (h : UpI f n j) (h0 : 0 < j) (hj : j < n) (hl : eLt (f j) (f ((j - 1) / 2))) : UpI (swF f ((j - 1) / 2) j) n ((j - 1) / 2) := by
  obtain ⟨i, hi⟩ : ∃ i, i = (j - 1) / 2 := ⟨_, rfl⟩
  rw [← hi] at hl ⊢
  refine ⟨fun k h1 h2 h3 => ?_, fun k h1 h2 h3 h4 => ?_⟩
  · by_cases q : k = j
    · subst q; rw [← hi, swF_r, swF_l]; exact eLt_asymm hl
    · rw [swF_o h3 q]
      by_cases q1 : (k - 1) / 2 = j
      · rw [q1, swF_r, hi]; exact h.2 k h1 h2 q1 h0
      · by_cases q2 : (k - 1) / 2 = i
        · rw [q2, swF_l]
          have := h.1 k h1 h2 q
          rw [q2] at this
          exact eGe_lt this hl
        · rw [swF_o q2 q1]; exact h.1 k h1 h2 q
  · have hi0 := h.1 i h4 (by omega) (by omega)
    rw [swF_o (k := (i - 1) / 2) (by omega) (by omega)]
    by_cases q : k = j
    · subst q; rw [swF_r]; exact hi0
    · rw [swF_o (by omega) q]
      have := h.1 k h1 h2 q
      rw [h3] at this
      exact eGe_trans this hi0
/-- The least child of i. -/
def Child (f : Nat → En) (n i j : Nat) : Prop := 0 < j ∧ j < n ∧ (j - 1) / 2 = i ∧ ∀ k, 0 < k → k < n → (k - 1) / 2 = i → ¬ eLt (f k) (f j)
theorem child_one {f : Nat → En} {n i : Nat} (h : 2 * i + 1 < n) (h2 : ¬ (2 * i + 2 < n ∧ eLt (f (2 * i + 2)) (f (2 * i + 1)))) : Child f n i (2 * i + 1) := by
  refine ⟨by omega, h, by omega, fun k h3 h4 h5 => ?_⟩
  have : k = 2 * i + 1 ∨ k = 2 * i + 2 := by omega
  rcases this with rfl | rfl
  · exact eLt_irr _
  · exact fun q => h2 ⟨h4, q⟩
theorem child_two {f : Nat → En} {n i : Nat} (h : 2 * i + 2 < n) (h2 : eLt (f (2 * i + 2)) (f (2 * i + 1))) : Child f n i (2 * i + 2) := by
  refine ⟨by omega, h, by omega, fun k h3 h4 h5 => ?_⟩
  have : k = 2 * i + 1 ∨ k = 2 * i + 2 := by omega
  rcases this with rfl | rfl
  · exact eLt_asymm h2
  · exact eLt_irr _
theorem dn_step {f : Nat → En} {n i j : Nat} (h : DU f n i) (hc : Child f n i j) (hl : eLt (f j) (f i)) : DnI (swF f i j) n j := by
  obtain ⟨c0, c1, c2, c3⟩ := hc
  refine ⟨fun k h1 h2 h3 => ?_, fun k h1 h2 h3 h4 => ?_⟩
  · by_cases q : k = i
    · subst q
      rw [swF_l, swF_o (k := (k - 1) / 2) (by omega) (by omega)]
      exact h.2 j c0 c1 c2 (by omega)
    · by_cases q1 : k = j
      · subst q1; rw [c2, swF_r, swF_l]; exact eLt_asymm hl
      · rw [swF_o q q1]
        by_cases q2 : (k - 1) / 2 = i
        · rw [q2, swF_l]; exact c3 k h1 h2 q2
        · rw [swF_o q2 h3]; exact h.1 k h1 h2 q q2
  · rw [swF_o (by omega) (by omega), c2, swF_l]
    have := h.1 k h1 h2 (by omega) (by omega)
    rw [h3] at this
    exact this
def Kids (f : Nat → En) (n i : Nat) : Prop := ∀ k, 0 < k → k < n → (k - 1) / 2 = i → ¬ eLt (f k) (f i)
theorem kids_none {f : Nat → En} {n i : Nat} (h : n ≤ 2 * i + 1) : Kids f n i := fun k h1 h2 h3 => by omega
theorem kids_child {f : Nat → En} {n i j : Nat} (hc : Child f n i j) (h : ¬ eLt (f j) (f i)) : Kids f n i := fun k h1 h2 h3 => eGe_trans (hc.2.2.2 k h1 h2 h3) h
theorem dn_done {f : Nat → En} {n i : Nat} (h : DnI f n i) (hk : Kids f n i) : Hp f n := fun k h1 h2 => by
  by_cases q : (k - 1) / 2 = i
  · rw [q]; exact hk k h1 h2 q
  · exact h.1 k h1 h2 q
theorem du_done {f : Nat → En} {n i : Nat} (h : DU f n i) (hk : Kids f n i) : UpI f n i := by
  refine ⟨fun k h1 h2 h3 => ?_, h.2⟩
  by_cases q : (k - 1) / 2 = i
  · rw [q]; exact hk k h1 h2 q
  · exact h.1 k h1 h2 h3 q
theorem Hp.grand {f : Nat → En} {n i k : Nat} (h : Hp f n) (h1 : 0 < k) (h2 : k < n) (h3 : (k - 1) / 2 = i) (h4 : 0 < i) : ¬ eLt (f k) (f ((i - 1) / 2)) := by
  have a := h k h1 h2
  have b := h i h4 (by omega)
  rw [h3] at a
  exact eGe_trans a b
theorem Hp.du_put {f : Nat → En} {n i : Nat} (h : Hp f n) (e : En) : DU (putF f i e) n i := by
  refine ⟨fun k h1 h2 h3 h4 => ?_, fun k h1 h2 h3 h4 => ?_⟩
  · rw [putF_o h3, putF_o h4]; exact h k h1 h2
  · rw [putF_o (by omega), putF_o (by omega)]; exact h.grand h1 h2 h3 h4
theorem Hp.du_sw {f : Nat → En} {n i : Nat} (h : Hp f (n + 1)) (hi : i ≤ n) : DU (swF f i n) n i := by
  refine ⟨fun k h1 h2 h3 h4 => ?_, fun k h1 h2 h3 h4 => ?_⟩
  · rw [swF_o h3 (by omega), swF_o h4 (by omega)]; exact h k h1 (by omega)
  · rw [swF_o (by omega) (by omega), swF_o (by omega) (by omega)]; exact h.grand h1 (by omega) h3 h4
theorem Hp.less {f : Nat → En} {n m : Nat} (h : Hp f n) (hm : m ≤ n) : Hp f m := fun k h1 h2 => h k h1 (by omega)
theorem Hp.top {f : Nat → En} {n : Nat} (h : Hp f n) : ∀ k, k < n → ¬ eLt (f k) (f 0) := by
  intro k
  induction k using Nat.strongRecOn with
  | ind k ih =>
    intro hk
    by_cases q : k = 0
    · subst q; exact eLt_irr _
    · exact eGe_trans (h k (by omega) hk) (ih ((k - 1) / 2) (by omega) (by omega))
/-- The same entries, in some order. -/
def Pm (n : Nat) (f f' : Nat → En) : Prop := (∀ e, (∃ k, k < n ∧ f' k = e) ↔ ∃ k, k < n ∧ f k = e) ∧ ∀ k, n ≤ k → f' k = f k
theorem Pm.refl (n : Nat) (f : Nat → En) : Pm n f f := ⟨fun _ => Iff.rfl, fun _ _ => rfl⟩
theorem Pm.trans {n : Nat} {f g h : Nat → En} (a : Pm n f g) (b : Pm n g h) : Pm n f h := ⟨fun e => (b.1 e).trans (a.1 e), fun k hk => (b.2 k hk).trans (a.2 k hk)⟩
theorem Pm.sw (n : Nat) (f : Nat → En) {i j : Nat} (hi : i < n) (hj : j < n) : Pm n f (swF f i j) := by
  refine ⟨fun e => ⟨?_, ?_⟩, fun k hk => swF_o (by omega) (by omega)⟩
  · rintro ⟨k, hk, rfl⟩
    by_cases q : k = i
    · exact ⟨j, hj, by rw [q, swF_l]⟩
    · by_cases q2 : k = j
      · exact ⟨i, hi, by rw [q2, swF_r]⟩
      · exact ⟨k, hk, (swF_o q q2).symm⟩
  · rintro ⟨k, hk, rfl⟩
    by_cases q : k = i
    · exact ⟨j, hj, by rw [q, swF_r]⟩
    · by_cases q2 : k = j
      · exact ⟨i, hi, by rw [q2, swF_l]⟩
      · exact ⟨k, hk, swF_o q q2⟩
/-- Where each ticket stands. -/
def PlIs (p : Nat → Option Nat) (f : Nat → En) (n : Nat) : Prop := ∀ t k, p t = some k ↔ k < n ∧ (f k).t = t
def upd (p : Nat → Option Nat) (t : Nat) (v : Option Nat) : Nat → Option Nat := fun x => if x = t then v else p x
theorem upd_s (p : Nat → Option Nat) (t : Nat) (v : Option Nat) : upd p t v t = v := if_pos rfl
theorem upd_o {p : Nat → Option Nat} {t x : Nat} {v : Option Nat} (h : x ≠ t) : upd p t v x = p x := if_neg h
theorem PlIs.inj {p : Nat → Option Nat} {f : Nat → En} {n i j : Nat} (h : PlIs p f n) (hi : i < n) (hj : j < n) (e : (f i).t = (f j).t) : i = j := by
  have a := (h _ i).2 ⟨hi, rfl⟩
  have b := (h _ j).2 ⟨hj, rfl⟩
  rw [e, b] at a
  exact (Option.some.inj a).symm
theorem PlIs.sw {p : Nat → Option Nat} {f : Nat → En} {n i j : Nat} (h : PlIs p f n) (hi : i < n) (hj : j < n) : PlIs (upd (upd p (f j).t (some i)) (f i).t (some j)) (swF f i j) n := by
  intro t k
  by_cases q : t = (f i).t
  · subst q
    rw [upd_s]
    constructor
    · intro a; cases a; exact ⟨hj, by rw [swF_r]⟩
    · rintro ⟨a, b⟩
      by_cases q1 : k = j
      · rw [q1]
      · by_cases q2 : k = i
        · rw [q2, swF_l] at b; rw [q2, h.inj hi hj b.symm]
        · rw [swF_o q2 q1] at b; exact absurd (h.inj a hi b) q2
  · rw [upd_o q]
    by_cases q1 : t = (f j).t
    · subst q1
      rw [upd_s]
      constructor
      · intro a; cases a; exact ⟨hi, by rw [swF_l]⟩
      · rintro ⟨a, b⟩
        by_cases q3 : k = i
        · rw [q3]
        · by_cases q2 : k = j
          · rw [q2, swF_r] at b; exact absurd b.symm q
          · rw [swF_o q3 q2] at b; exact absurd (h.inj a hj b) q2
    · rw [upd_o q1, h t k]
      constructor
      · rintro ⟨a, b⟩
        refine ⟨a, ?_⟩
        rw [swF_o (fun c => q (by rw [← b, c])) (fun c => q1 (by rw [← b, c]))]; exact b
      · rintro ⟨a, b⟩
        by_cases q3 : k = i
        · rw [q3, swF_l] at b; exact absurd b.symm q1
        · by_cases q2 : k = j
          · rw [q2, swF_r] at b; exact absurd b.symm q
          · rw [swF_o q3 q2] at b; exact ⟨a, b⟩
theorem PlIs.push {p : Nat → Option Nat} {f : Nat → En} {n : Nat} {e : En} (h : PlIs p f n) (he : ∀ k, k < n → (f k).t ≠ e.t) : PlIs (upd p e.t (some n)) (putF f n e) (n + 1) := by
  intro t k
  by_cases q : t = e.t
  · subst q
    rw [upd_s]
    constructor
    · intro a; cases a; exact ⟨by omega, by rw [putF_s]⟩
    · rintro ⟨a, b⟩
      by_cases q : k = n
      · rw [q]
      · rw [putF_o q] at b; exact absurd b (he k (by omega))
  · rw [upd_o q, h t k]
    constructor
    · rintro ⟨a, b⟩; exact ⟨by omega, by rw [putF_o (by omega)]; exact b⟩
    · rintro ⟨a, b⟩
      by_cases q2 : k = n
      · rw [q2, putF_s] at b; exact absurd b.symm q
      · rw [putF_o q2] at b; exact ⟨by omega, b⟩
theorem PlIs.pop {p : Nat → Option Nat} {f : Nat → En} {n : Nat} (h : PlIs p f (n + 1)) : PlIs (upd p (f n).t none) f n := by
  intro t k
  by_cases q : t = (f n).t
  · subst q
    rw [upd_s]
    constructor
    · intro a; cases a
    · rintro ⟨a, b⟩; have := h.inj (by omega) (Nat.lt_succ_self n) b; omega
  · rw [upd_o q, h t k]
    constructor
    · rintro ⟨a, b⟩
      exact ⟨by have : k ≠ n := fun c => q (by rw [← b, c]); omega, b⟩
    · rintro ⟨a, b⟩; exact ⟨by omega, b⟩
theorem PlIs.put {p : Nat → Option Nat} {f : Nat → En} {n i : Nat} {e : En} (h : PlIs p f n) (he : e.t = (f i).t) : PlIs p (putF f i e) n := by
  intro t k
  rw [h t k]
  by_cases q : k = i
  · subst q; rw [putF_s, he]
  · rw [putF_o q]
theorem PlIs.zero (f : Nat → En) : PlIs (fun _ => none) f 0 := fun t k => ⟨fun a => (by cases a), fun a => (by omega)⟩
/-- The entries in the order in which they are told. -/
def Srt (L : List En) : Prop := L.Pairwise eLt
def insE (e : En) : List En → List En
  | [] => [e]
  | x :: r => if eLt e x then e :: x :: r else x :: insE e r
def rmE (t : Nat) (L : List En) : List En := L.filter (fun x => x.t != t)
theorem mem_insE (e : En) : ∀ (L : List En) (y : En), y ∈ insE e L ↔ y = e ∨ y ∈ L
  | [], y => by simp [insE]
  | x :: r, y => by
    unfold insE
    split
    · simp
    · simp only [List.mem_cons, mem_insE e r y]
      constructor
      · rintro (h | h | h)
        · exact .inr (.inl h)
        · exact .inl h
        · exact .inr (.inr h)
      · rintro (h | h | h)
        · exact .inr (.inl h)
        · exact .inl h
        · exact .inr (.inr h)
theorem len_insE (e : En) : ∀ L : List En, (insE e L).length = L.length + 1
  | [] => rfl
  | x :: r => by
    unfold insE
    split
    · rfl
    · simp [len_insE e r]
theorem srt_insE (e : En) : ∀ L : List En, Srt L → (∀ x ∈ L, x.t ≠ e.t) → Srt (insE e L)
  | [], _, _ => by simp [insE, Srt]
  | x :: r, h, ht => by
    have h' := List.pairwise_cons.1 h
    unfold insE
    split
    · next q => exact List.pairwise_cons.2 ⟨fun y hy => by
        rcases List.mem_cons.1 hy with rfl | hy
        · exact q
        · exact eLt_trans q (h'.1 y hy), h⟩
    · next q => exact List.pairwise_cons.2 ⟨fun y hy => by
        rcases (mem_insE e r y).1 hy with rfl | hy
        · exact eLt_total (fun c => ht x (List.mem_cons_self ..) c.symm) q
        · exact h'.1 y hy, srt_insE e r h'.2 (fun y hy => ht y (List.mem_cons_of_mem _ hy))⟩
theorem mem_rmE {t : Nat} {L : List En} {y : En} : y ∈ rmE t L ↔ y ∈ L ∧ y.t ≠ t := by simp [rmE]
theorem srt_rmE {t : Nat} {L : List En} (h : Srt L) : Srt (rmE t L) := h.filter _
def Dst (L : List En) : Prop := ∀ x ∈ L, ∀ y ∈ L, x.t = y.t → x = y
theorem rmE_none {t : Nat} : ∀ {L : List En}, (∀ x ∈ L, x.t ≠ t) → rmE t L = L := fun {L} h => by
  unfold rmE
  exact List.filter_eq_self.2 (fun x hx => by simp [h x hx])
theorem rmE_head {x : En} {r : List En} (h : Srt (x :: r)) (hd : Dst (x :: r)) : rmE x.t (x :: r) = r := by
  have h' := List.pairwise_cons.1 h
  have : rmE x.t (x :: r) = rmE x.t r := by simp [rmE]
  rw [this]
  exact rmE_none (fun y hy c => eLt_irr x (by
    have := hd y (List.mem_cons_of_mem _ hy) x (List.mem_cons_self ..) c
    have k := h'.1 y hy
    rw [this] at k; exact k))
theorem len_rmE {e : En} : ∀ {L : List En}, Srt L → Dst L → e ∈ L → (rmE e.t L).length + 1 = L.length
  | [], _, _, h => by cases h
  | x :: r, hs, hd, h => by
    have h' := List.pairwise_cons.1 hs
    have hd' : Dst r := fun a ha b hb => hd a (List.mem_cons_of_mem _ ha) b (List.mem_cons_of_mem _ hb)
    by_cases q : x.t = e.t
    · rw [← q, rmE_head hs hd]; rfl
    · have : rmE e.t (x :: r) = x :: rmE e.t r := by simp [rmE, q]
      rw [this]
      have he : e ∈ r := by
        rcases List.mem_cons.1 h with rfl | h
        · exact absurd rfl q
        · exact h
      simp [len_rmE h'.2 hd' he]
/-- The heap's first n entries are those of L. -/
structure Cont (L : List En) (f : Nat → En) (n : Nat) : Prop where
  len : L.length = n
  srt : Srt L
  mem : ∀ e, e ∈ L ↔ ∃ k, k < n ∧ f k = e
theorem Cont.nil (f : Nat → En) : Cont [] f 0 := ⟨rfl, List.Pairwise.nil, fun e => ⟨fun h => (by cases h), fun ⟨k, h, _⟩ => (by omega)⟩⟩
theorem Cont.pm {L : List En} {f f' : Nat → En} {n : Nat} (h : Cont L f n) (hp : Pm n f f') : Cont L f' n := ⟨h.len, h.srt, fun e => (h.mem e).trans (hp.1 e).symm⟩
theorem Cont.dst {L : List En} {f : Nat → En} {n : Nat} {p : Nat → Option Nat} (h : Cont L f n) (hp : PlIs p f n) : Dst L := fun x hx y hy e => by
  obtain ⟨i, hi, rfl⟩ := (h.mem x).1 hx
  obtain ⟨j, hj, rfl⟩ := (h.mem y).1 hy
  rw [hp.inj hi hj e]
theorem Cont.at {L : List En} {f : Nat → En} {n k : Nat} (h : Cont L f n) (hk : k < n) : f k ∈ L := (h.mem _).2 ⟨k, hk, rfl⟩
theorem Cont.push {L : List En} {f : Nat → En} {n : Nat} {e : En} (h : Cont L f n) (he : ∀ x ∈ L, x.t ≠ e.t) : Cont (insE e L) (putF f n e) (n + 1) := by
  refine ⟨by rw [len_insE, h.len], srt_insE e L h.srt he, fun y => ?_⟩
  rw [mem_insE, h.mem]
  constructor
  · rintro (rfl | ⟨k, hk, rfl⟩)
    · exact ⟨n, by omega, putF_s _ _ _⟩
    · exact ⟨k, by omega, putF_o (by omega)⟩
  · rintro ⟨k, hk, rfl⟩
    by_cases q : k = n
    · left; rw [q, putF_s]
    · right; exact ⟨k, by omega, (putF_o q).symm⟩
theorem Cont.drop {L : List En} {f f' : Nat → En} {n i : Nat} {p : Nat → Option Nat} (h : Cont L f (n + 1)) (hp : PlIs p f (n + 1)) (hi : i ≤ n) (hf : Pm n (swF f i n) f') : Cont (rmE (f i).t L) f' n := by
  refine ⟨by have := len_rmE h.srt (h.dst hp) (h.at (k := i) (by omega)); have := h.len; omega, srt_rmE h.srt, fun y => ?_⟩
  rw [mem_rmE, h.mem, hf.1 y]
  constructor
  · rintro ⟨⟨k, hk, rfl⟩, ht⟩
    have hki : k ≠ i := fun c => ht (by rw [c])
    by_cases q : k = n
    · exact ⟨i, by omega, by rw [q, swF_l]⟩
    · exact ⟨k, by omega, swF_o hki q⟩
  · rintro ⟨k, hk, rfl⟩
    by_cases q : k = i
    · subst q
      rw [swF_l]
      exact ⟨⟨n, by omega, rfl⟩, fun c => by have := hp.inj (Nat.lt_succ_self n) (by omega) c; omega⟩
    · rw [swF_o q (by omega)]
      exact ⟨⟨k, by omega, rfl⟩, fun c => q (hp.inj (by omega) (by omega) c)⟩
theorem Cont.move {L : List En} {f f' : Nat → En} {n i : Nat} {e : En} {p : Nat → Option Nat} (h : Cont L f n) (hp : PlIs p f n) (hi : i < n) (he : e.t = (f i).t) (hf : Pm n (putF f i e) f') : Cont (insE e (rmE e.t L)) f' n := by
  refine ⟨by rw [len_insE]; have := len_rmE h.srt (h.dst hp) (h.at hi); rw [he]; have := h.len; omega, srt_insE _ _ (srt_rmE h.srt) (fun x hx => (mem_rmE.1 hx).2), fun y => ?_⟩
  rw [mem_insE, mem_rmE, h.mem, hf.1 y]
  constructor
  · rintro (rfl | ⟨⟨k, hk, rfl⟩, ht⟩)
    · exact ⟨i, hi, putF_s _ _ _⟩
    · exact ⟨k, hk, putF_o (fun c => ht (by rw [c, he]))⟩
  · rintro ⟨k, hk, rfl⟩
    by_cases q : k = i
    · left; rw [q, putF_s]
    · right
      rw [putF_o q]
      exact ⟨⟨k, hk, rfl⟩, fun c => q (hp.inj hk hi (by rw [c, he]))⟩
theorem Cont.head {L : List En} {f : Nat → En} {n : Nat} (h : Cont L f n) (hh : Hp f n) (hn : 0 < n) : ∃ r, L = f 0 :: r := by
  match L, h with
  | [], h => have := h.len; simp at this; omega
  | x :: r, h =>
    obtain ⟨k, hk, hx⟩ := (h.mem x).1 (List.mem_cons_self ..)
    have h1 := hh.top k hk
    rw [hx] at h1
    rcases List.mem_cons.1 (h.at hn) with q | q
    · exact ⟨r, by rw [q]⟩
    · exact absurd ((List.pairwise_cons.1 h.srt).1 _ q) h1
end Go.Proofs.Ytkgfeiigdhbddaa
