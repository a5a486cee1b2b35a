/- Package cast, over plain lists: which text enough told. -/
import Derived.Test.YtdfadinpeeigkaaDoorRows
import Derived.WalkKit
namespace Go.Proofs.YtdfadinpeeigkaaDoor
open Go

/-- How often a text was told. -/
def cs (l : List ByteArray) (s : ByteArray) : Nat := l.countP (fun t => decide (t = s))
theorem cs_snoc (l : List ByteArray) (t s : ByteArray) : cs (l ++ [t]) s = cs l s + if t = s then 1 else 0 := by
  unfold cs; rw [List.countP_append]; simp [List.countP_cons]
theorem takeC {α : Type} {l : List α} {i : Nat} {x : α} (h : l[i]? = some x) : l.take (i + 1) = l.take i ++ [x] := by
  rw [List.take_add_one, h]; rfl
theorem cs_take {l : List ByteArray} {i : Nat} {t : ByteArray} (h : l[i]? = some t) (s : ByteArray) : cs (l.take (i + 1)) s = cs (l.take i) s + if t = s then 1 else 0 := by rw [takeC h, cs_snoc]
theorem cs_le (l : List ByteArray) (s : ByteArray) : cs l s ≤ l.length := List.countP_le_length
theorem cs_take_le (l : List ByteArray) (i : Nat) (s : ByteArray) : cs (l.take i) s ≤ i := Nat.le_trans (cs_le _ _) (by rw [List.length_take]; omega)
theorem cs_take_all (l : List ByteArray) (i : Nat) (s : ByteArray) : cs (l.take i) s ≤ cs l s := by
  have : l = l.take i ++ l.drop i := (List.take_append_drop i l).symm
  unfold cs
  conv => rhs; rw [this]
  rw [List.countP_append]; omega
theorem cs_pos {l : List ByteArray} {s : ByteArray} (h : 0 < cs l s) : s ∈ l := by
  obtain ⟨t, ht, e⟩ := List.countP_pos_iff.1 h
  simp at e
  rw [← e]; exact ht
/-- The texts that were told so often, behind k votes. -/
def oft (least : Nat) (l : List ByteArray) : Nat → List ByteArray
  | 0 => []
  | k + 1 => match l[k]? with
    | some t => if t ≠ ⟨#[]⟩ ∧ cs (l.take (k + 1)) t = least then oft least l k ++ [t] else oft least l k
    | none => oft least l k
theorem oft_yes {least k : Nat} {l : List ByteArray} {t : ByteArray} (h : l[k]? = some t) (h1 : t ≠ ⟨#[]⟩) (h2 : cs (l.take (k + 1)) t = least) : oft least l (k + 1) = oft least l k ++ [t] := by
  show (match l[k]? with | some t => if t ≠ (⟨#[]⟩ : ByteArray) ∧ cs (l.take (k + 1)) t = least then oft least l k ++ [t] else oft least l k | none => oft least l k) = _
  rw [h]; exact if_pos ⟨h1, h2⟩
theorem oft_no {least k : Nat} {l : List ByteArray} {t : ByteArray} (h : l[k]? = some t) (h1 : ¬ (t ≠ ⟨#[]⟩ ∧ cs (l.take (k + 1)) t = least)) : oft least l (k + 1) = oft least l k := by
  show (match l[k]? with | some t => if t ≠ (⟨#[]⟩ : ByteArray) ∧ cs (l.take (k + 1)) t = least then oft least l k ++ [t] else oft least l k | none => oft least l k) = _
  rw [h]; exact if_neg h1
theorem oft_mem {least : Nat} (h1 : 1 ≤ least) (l : List ByteArray) (s : ByteArray) : ∀ k, k ≤ l.length → (s ∈ oft least l k ↔ s ≠ ⟨#[]⟩ ∧ least ≤ cs (l.take k) s)
  | 0, _ => by
    constructor
    · intro h; cases h
    · intro h; have := h.2; unfold cs at this; simp at this; omega
  | k + 1, hk => by
    have ih := oft_mem h1 l s k (by omega)
    have ht := List.getElem?_eq_getElem (show k < l.length by omega)
    obtain ⟨t, ht'⟩ : ∃ t, t = (l[k]'(show k < l.length by omega)) := ⟨_, rfl⟩
    rw [← ht'] at ht
    by_cases hc : t ≠ ⟨#[]⟩ ∧ cs (l.take (k + 1)) t = least
    · rw [oft_yes ht hc.1 hc.2, List.mem_append, List.mem_singleton, ih]
      have e := cs_take ht s
      by_cases q : t = s
      · subst q
        constructor
        · intro _; exact ⟨hc.1, by omega⟩
        · intro _; exact .inr rfl
      · rw [if_neg q] at e
        rw [e]
        constructor
        · intro h; exact h.elim id (fun h => absurd h.symm q)
        · exact .inl
    · rw [oft_no ht hc, ih]
      have e := cs_take ht s
      by_cases q : t = s
      · subst q
        rw [if_pos rfl] at e
        constructor
        · intro h; exact ⟨h.1, by omega⟩
        · intro h
          refine ⟨h.1, ?_⟩
          have : cs (l.take (k + 1)) t ≠ least := fun c => hc ⟨h.1, c⟩
          omega
      · rw [if_neg q] at e
        rw [e, Nat.add_zero]
theorem oft_nodup {least : Nat} (h1 : 1 ≤ least) (l : List ByteArray) : ∀ k, k ≤ l.length → (oft least l k).Nodup
  | 0, _ => List.nodup_nil
  | k + 1, hk => by
    have ih := oft_nodup h1 l k (by omega)
    have ht := List.getElem?_eq_getElem (show k < l.length by omega)
    obtain ⟨t, ht'⟩ : ∃ t, t = (l[k]'(show k < l.length by omega)) := ⟨_, rfl⟩
    rw [← ht'] at ht
    by_cases hc : t ≠ ⟨#[]⟩ ∧ cs (l.take (k + 1)) t = least
    · rw [oft_yes ht hc.1 hc.2]
      refine List.nodup_append.2 ⟨ih, by simp, fun x hx y hy => ?_⟩
      rw [List.mem_singleton] at hy
      subst hy
      intro e
      subst e
      have := ((oft_mem h1 l x k (by omega)).1 hx).2
      have e := cs_take ht x
      rw [if_pos rfl] at e
      have := hc.2
      omega
    · rw [oft_no ht hc]; exact ih
/-- The only one. -/
def pick (least : Nat) (l : List ByteArray) : Option ByteArray := match oft least l l.length with
  | [s] => some s
  | _ => none
/-- It is told enough. -/
def Eno (least : Nat) (l : List ByteArray) (s : ByteArray) : Prop := s ≠ ⟨#[]⟩ ∧ least ≤ cs l s
theorem oft_all {least : Nat} (h1 : 1 ≤ least) (l : List ByteArray) (s : ByteArray) : s ∈ oft least l l.length ↔ Eno least l s := by
  have := oft_mem h1 l s l.length (Nat.le_refl _)
  rw [List.take_length] at this
  exact this
theorem pick_of {least : Nat} (h1 : 1 ≤ least) {l : List ByteArray} {s : ByteArray} (hs : Eno least l s) (hu : ∀ t, Eno least l t → t = s) : pick least l = some s := by
  have hm := (oft_all h1 l s).2 hs
  have hn := oft_nodup h1 l l.length (Nat.le_refl _)
  have ha : ∀ t ∈ oft least l l.length, t = s := fun t ht => hu t ((oft_all h1 l t).1 ht)
  unfold pick
  match h : oft least l l.length, hm, hn, ha with
  | [x], hm, _, ha => rw [ha x (by simp)]
  | x :: y :: r, _, hn, ha =>
    have e1 := ha x (by simp)
    have e2 := ha y (by simp)
    rw [e1, e2] at hn
    simp at hn
theorem pick_two {least : Nat} (h1 : 1 ≤ least) {l : List ByteArray} {s t : ByteArray} (hs : Eno least l s) (ht : Eno least l t) (hne : s ≠ t) : pick least l = none := by
  have m1 := (oft_all h1 l s).2 hs
  have m2 := (oft_all h1 l t).2 ht
  unfold pick
  match h : oft least l l.length, m1, m2 with
  | [x], m1, m2 => simp at m1 m2; exact absurd (m1.trans m2.symm) hne
  | x :: y :: r, _, _ => rfl
theorem pick_zero {least : Nat} (h1 : 1 ≤ least) {l : List ByteArray} (h : ∀ t, ¬ Eno least l t) : pick least l = none := by
  unfold pick
  match hh : oft least l l.length with
  | [] => rfl
  | [x] => exact absurd ((oft_all h1 l x).1 (by rw [hh]; simp)) (h x)
  | x :: y :: r => rfl
theorem pick_some {least : Nat} (h1 : 1 ≤ least) {l : List ByteArray} {s : ByteArray} (h : pick least l = some s) : Eno least l s ∧ ∀ t, Eno least l t → t = s := by
  unfold pick at h
  match hh : oft least l l.length, h with
  | [x], h =>
    cases h
    exact ⟨(oft_all h1 l s).1 (by rw [hh]; simp), fun t ht => by have := (oft_all h1 l t).2 ht; rw [hh] at this; simpa using this⟩
  | x :: y :: r, h => cases h
/-- What is answered. -/
def pikS : Option ByteArray → ByteArray
  | some s => s
  | none => ⟨#[]⟩
def pikB : Option ByteArray → Bool
  | some _ => true
  | none => false
end Go.Proofs.YtdfadinpeeigkaaDoor
