/- slices.Index and slices.Delete on a row of numbers, by the library's shelf. -/
import Derived.Test.YtolhkpgpcbebiaaQuC
namespace Go.Proofs.Ytolhkpgpcbebiaa
open Go Go.RowKit Go.Lib Go.Shelf
def sliRen : Go.Shelf.Ren := ⟨fun f => if f = 29 then 21 else 22, fun t => if t = 0 then 0 else if t = 3 then 3 else if t = 4 then 4 else if t = 22 then 58 else 3, fun g => g⟩
theorem idxLays : SlLaysE.n29 Try.prog sliRen where
  mixed := by kernel_rfl
  f29 := ⟨"slices.Index[[]int,int]", by decide, by kernel_rfl⟩
  t0 := by kernel_rfl
  a0 := fun w => by kernel_rfl
  z0 := fun w => by kernel_rfl
  v0 := fun w => by kernel_rfl
  t3 := by kernel_rfl
  a3 := fun w => by kernel_rfl
  z3 := fun w => by kernel_rfl
  v3 := fun w => by kernel_rfl
  t4 := by kernel_rfl
  a4 := fun w => by kernel_rfl
  z4 := fun w => by kernel_rfl
  v4 := fun w => by kernel_rfl
  t22 := by kernel_rfl
  a22 := fun w => by kernel_rfl
  z22 := fun w => by kernel_rfl
  v22 := fun w => by kernel_rfl
  a23 := fun w => by kernel_rfl
  z23 := fun w => by kernel_rfl
theorem delLays : SlLaysE.n45 Try.prog sliRen where
  mixed := by kernel_rfl
  f45 := ⟨"slices.Delete[[]int,int]", by decide, by kernel_rfl⟩
  t0 := by kernel_rfl
  a0 := fun w => by kernel_rfl
  z0 := fun w => by kernel_rfl
  v0 := fun w => by kernel_rfl
  t3 := by kernel_rfl
  a3 := fun w => by kernel_rfl
  z3 := fun w => by kernel_rfl
  v3 := fun w => by kernel_rfl
  t4 := by kernel_rfl
  a4 := fun w => by kernel_rfl
  z4 := fun w => by kernel_rfl
  v4 := fun w => by kernel_rfl
  t22 := by kernel_rfl
  a22 := fun w => by kernel_rfl
  z22 := fun w => by kernel_rfl
  v22 := fun w => by kernel_rfl
  a23 := fun w => by kernel_rfl
  z23 := fun w => by kernel_rfl
theorem flat_iE : ∀ X : List Int, X.flatMap iE = X.map (Value.int .i64)
  | [] => rfl
  | x :: X => by rw [List.flatMap_cons, flat_iE X]; rfl
theorem index_in (w : World) (F : Nat → Prop) (b o cap n i : Nat) (X : List Int) (k : Int) (hn : n = X.length) (hR : RowX iE 1 w F (some ⟨b, o, none⟩) X cap) (hi : X[i]? = some k) (hne : ∀ j x, j < i → X[j]? = some x → x ≠ k) (h8 : n ≤ 1000) :
    Calls Try.prog 21 #[.slice (some ⟨b, o, none⟩) n cap, .int .i64 k] w fun e w' => e = .returned (.int .i64 (i : Nat)) ∧ w' = w := by
  subst hn
  rcases hR with ⟨c, _⟩ | ⟨b', o', h1, h2, h3, h4, h5, h6, h7, h8'⟩
  · cases c
  · cases h1
    have hi' : i < X.length := (List.getElem?_eq_some_iff.1 hi).1
    have g : ∀ j, j < X.length → X[j]? = some X[j]! := fun j hj => by rw [List.getElem!_eq_getElem?_getD, List.getElem?_eq_getElem hj]; rfl
    have hh := AnyE.slices_Index idxLays (Value.int .i64) (fun x y => x == y) (EqlAt.int Try.prog _ .i64) b o X.length cap X k w (Nat.le_refl _) (by omega) (fun j hj => h6 j _ (by rw [flat_iE, List.getElem?_map, g j hj]; rfl))
    have e : Lib.idxBy (fun x y => x == y) (X.take X.length) k = (i : Nat) := idxBy_hit _ X X.length i k hi' (Nat.le_refl _) (by
      have := g i hi'
      rw [hi] at this
      rw [← Option.some.inj this]
      exact beq_self_eq_true _) (fun j hj => by
      have := hne j _ hj (g j (by omega))
      exact beq_eq_false_iff_ne.2 (fun c => this c.symm))
    rw [e] at hh
    exact hh
theorem delete_in (w : World) (F : Nat → Prop) (b o cap n i : Nat) (X : List Int) (hn : n = X.length) (hR : RowX iE 1 w F (some ⟨b, o, none⟩) X cap) (hi : i < n) :
    Calls Try.prog 22 #[.slice (some ⟨b, o, none⟩) n cap, .int .i64 (i : Nat), .int .i64 ((i + 1 : Nat) : Int)] w fun e w' => e = .returned (.slice (some ⟨b, o, none⟩) (n - 1) cap) ∧ RowX iE 1 w' F (some ⟨b, o, none⟩) (X.take i ++ X.drop (i + 1)) cap ∧ Off (fun k => k = b) w w' := by
  subst hn
  rcases hR with ⟨c, _⟩ | ⟨b', o', h1, h2, h3, h4, h5, h6, h7, h8'⟩
  · cases c
  · cases h1
    have g : ∀ j, j < X.length → X[j]? = some X[j]! := fun j hj => by rw [List.getElem!_eq_getElem?_getD, List.getElem?_eq_getElem hj]; rfl
    have hH : Sort.Holds (Value.int .i64) w b o X.toArray := fun j hj => by
      have hj' : j < X.length := by simpa using hj
      refine ⟨h6 j _ ?_, h8' _⟩
      rw [flat_iE, List.getElem?_map, g j hj']
      simp
    obtain ⟨ii, hii, hz1⟩ : ∃ ii, Try.prog.info? 3 = some ii ∧ ii.size = 1 := by
      obtain ⟨ii, z, q1, _, _, q2, _⟩ := infoI.hi
      exact ⟨ii, q1, q2⟩
    have hd := AnyE.slices_Delete delLays (Value.int .i64) (fun _ => rfl) 0 (fun w => by kernel_rfl) ii hii hz1 b o cap i (i + 1) X.toArray w hH (by simpa using h4) (by have := h5; unfold maxLen at this; omega) (by omega) (by simp; omega)
    rw [show X.toArray.size = X.length by simp, show X.length - (i + 1 - i) = X.length - 1 by omega] at hd
    refine hd.mono ?_
    rintro e w' ⟨he, q, hw⟩
    have hsz : (X.toArray.toList.take i ++ X.toArray.toList.drop (i + 1) ++ List.replicate (i + 1 - i) (0 : Int)).toArray.size = X.toArray.size := by
      simp
      omega
    have hHa : Sort.Holds (Value.int .i64) (Sort.ahead w q) b o X.toArray := hH
    have hP := Sort.holds_putRow (Value.int .i64) (Sort.ahead w q) b o X.toArray _ hHa hsz
    rw [← hw] at hP
    have hl : (X.take i ++ X.drop (i + 1)).length = X.length - 1 := by simp; omega
    refine ⟨he, .inr ⟨b, o, rfl, h2, ?_, by rw [hl]; omega, h5, fun j u hj => ?_, fun j hj => ?_, fun j => ?_⟩, ?_⟩
    · rw [hw, Sort.size_putRow]; exact h3
    · rw [flat_iE, List.getElem?_map] at hj
      have hj' : j < (X.take i ++ X.drop (i + 1)).length := by
        cases e : (X.take i ++ X.drop (i + 1))[j]? with
        | none => rw [e] at hj; cases hj
        | some y => exact (List.getElem?_eq_some_iff.1 e).1
      have hs2 : j < (X.toArray.toList.take i ++ X.toArray.toList.drop (i + 1) ++ List.replicate (i + 1 - i) (0 : Int)).toArray.size := by rw [hsz]; simp; omega
      rw [(hP j hs2).1, ← hj, List.getElem?_eq_getElem hj', Option.map_some]
      congr 2
      rw [getElem!_pos _ j hs2]
      simp only [List.getElem_toArray]
      rw [List.getElem_append_left (by simpa using hj')]
    · rw [hw]
      by_cases c : j < X.length
      · have hs2 : j < (X.toArray.toList.take i ++ X.toArray.toList.drop (i + 1) ++ List.replicate (i + 1 - i) (0 : Int)).toArray.size := by rw [hsz]; simpa using c
        rw [← hw, (hP j hs2).1]; rfl
      · rw [Sort.cell?_putRow_other _ _ _ _ _ _ (.inr (.inr (by rw [hsz]; simp only [List.size_toArray]; omega)))]
        exact h7 j hj
    · rw [hw, Sort.frozen?_putRow]; exact h8' j
    · rw [hw]
      refine ⟨rfl, rfl, rfl, by rw [Sort.size_putRow]; exact Nat.le_refl _, fun k hk => ?_⟩
      show ((Sort.ahead w q).heap.modify b _)[k]? = w.heap[k]?
      rw [Array.getElem?_modify, if_neg (fun c => hk c.symm)]
      rfl
theorem delete_at (w : World) (F : Nat → Prop) (b o cap n i j : Nat) (hj : j = i + 1) (X : List Int) (hn : n = X.length) (hR : RowX iE 1 w F (some ⟨b, o, none⟩) X cap) (hi : i < n) :
    Calls Try.prog 22 #[.slice (some ⟨b, o, none⟩) n cap, .int .i64 (i : Nat), .int .i64 (j : Nat)] w fun e w' => e = .returned (.slice (some ⟨b, o, none⟩) (n - 1) cap) ∧ RowX iE 1 w' F (some ⟨b, o, none⟩) (X.take i ++ X.drop (i + 1)) cap ∧ Off (fun k => k = b) w w' := by
  subst hj
  exact delete_in w F b o cap n i X hn hR hi
end Go.Proofs.Ytolhkpgpcbebiaa
