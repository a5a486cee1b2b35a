/- The reference's spread. -/
import Derived.Test.YtienklnigigepaaGreatDoorRef4A
import Derived.Test.YtienklnigigepaaGreatDoorShaS
import Derived.Test.YtienklnigigepaaGreatDoorHeldR
import Derived.Laws.AppendOwn
import Derived.Laws.OwnMore
import Derived.Deep.AppendLies
namespace Go.Proofs.YtienklnigigepaaGreatDoor
open Go.RowKit

theorem infoI64 : (Tryz.prog.info? 3).map (fun i => (i.zero, i.size, i.bytes)) = some (some (.int .i64 0), 1, 8) := by kernel_rfl
theorem info_i64 : ∃ i, Tryz.prog.info? 3 = some i ∧ i.zero = some (.int .i64 0) ∧ i.size = 1 ∧ i.bytes = 8 := by
  have h := infoI64
  cases e : Tryz.prog.info? 3 with
  | none => rw [e] at h; cases h
  | some i =>
    rw [e] at h
    simp at h
    exact ⟨i, rfl, h.1, h.2.1, h.2.2⟩
def intsL (l : List Nat) : List Value := l.map fun x => Value.int .i64 (x : Nat)
theorem intsL_length (l : List Nat) : (intsL l).length = l.length := by simp [intsL]
theorem intsL_one (l : List Nat) : ∀ v ∈ intsL l, v.oneCell' = true := by
  intro v hv
  obtain ⟨x, _, rfl⟩ := List.mem_map.1 hv
  rfl
/-- Ints in memory, n of them. -/
def IntsAt (w : World) (p o n : Nat) (f : Nat → Nat) : Prop := (∀ j, j < n → w.cell? ⟨p, o + j, none⟩ = some (.int .i64 (f j : Nat))) ∧ p < w.heap.size
theorem IntsAt.call {W w1 : World} {p o n : Nat} {f : Nat → Nat} (h : IntsAt W p o n f) (hb : Below W.heap.size W w1) : IntsAt w1 p o n f := ⟨fun j hj => (hb.cell (p := ⟨p, o + j, none⟩) h.2).trans (h.1 j hj), Nat.lt_of_lt_of_le h.2 hb.size⟩
theorem owned_ints {w : World} {base n : Nat} {v : Value} {l : List Nat} (h : w.ownsRow base 3 1 v n (intsL l)) (h0 : 0 < n) : ∃ g cap, v = .slice (some ⟨g, 0, none⟩) n cap ∧ l.length = n ∧ base ≤ g ∧ g < w.heap.size ∧ ∀ j, j < n → w.cell? ⟨g, j, none⟩ = some (.int .i64 (l.getD j 0 : Nat)) := by
  have hl := h.1
  rw [intsL_length] at hl
  have h' := h
  obtain ⟨_, h2⟩ := h
  rcases h2 with ⟨_, hn⟩ | ⟨g, cap, cur, hv, hb, hh, _⟩
  · omega
  · refine ⟨g, cap, hv, by omega, hb, ?_, fun j hj => ?_⟩
    · rcases Nat.lt_or_ge g w.heap.size with l | l
      · exact l
      · rw [Array.getElem?_eq_none l] at hh; cases hh
    · rw [hv] at h'
      have e := h'.cellAt j (by omega)
      rw [e]
      simp only [intsL, List.getElem?_map, List.getD_eq_getElem?_getD]
      rw [List.getElem?_eq_getElem (by omega)]
      rfl

theorem size_le_alloc (w : World) (o : Obj) : w.heap.size ≤ (w.alloc o).heap.size := by simp
def lenOf : Value → Nat | .slice _ n _ => n | _ => 0
theorem wl_snoc (b : Nat → Nat) (t : Nat) : wl b (t + 1) = wl b t ++ [wAt b t] := by rw [wl_succ, wAt_last]
theorem intsL_snoc (l : List Nat) (x : Nat) : intsL (l ++ [x]) = intsL l ++ [.int .i64 (x : Nat)] := by simp [intsL]
theorem cell_one_new4 (w : World) (a : Value) (t : TypeId) : ∀ j u, [a][j]? = some u → (w.alloc (.cells #[a] t)).cell? ((⟨w.heap.size, 0, none⟩ : Addr).add j) = some u := by
  intro j u hj
  match j, hj with
  | 0, hj => simp at hj; subst hj; simp [Addr.add]
  | j + 1, hj => simp at hj
theorem keepS (z : Nat) (h : z < 9223372036854775808) : IntKind.i64.wrap (z : Int) = (z : Nat) ∧ wrap64 (z : Int) = (z : Nat) := ⟨by rw [IntKind.wrap_i64]; omega, by unfold wrap64; omega⟩
theorem remS (z : Nat) : (z : Int).tmod 4294967296 = ((z % 4294967296 : Nat) : Int) ∧ (z : Int) % 4294967296 = ((z % 4294967296 : Nat) : Int) := ⟨by rw [Int.tmod_eq_emod_of_nonneg (by omega)]; omega, by omega⟩
theorem spread_sums (x y z v : Nat) : (x + y + z + v) % 4294967296 = add32 (add32 (add32 x y) z) v := by simp only [add32, Nat.mod_add_mod]
theorem quo8 (x : Nat) : (x : Int).tdiv 8 = ((x / 8 : Nat) : Int) ∧ (x : Int) / 8 = ((x / 8 : Nat) : Int) := ⟨by rw [Int.tdiv_eq_ediv_of_nonneg (by omega)]; omega, by omega⟩
theorem quo1024 (x : Nat) : (x : Int).tdiv 1024 = ((x / 1024 : Nat) : Int) ∧ (x : Int) / 1024 = ((x / 1024 : Nat) : Int) := ⟨by rw [Int.tdiv_eq_ediv_of_nonneg (by omega)]; omega, by omega⟩
theorem ix_facts (t k : Nat) (h0 : 0 < k) (h : k ≤ 16) (ht1 : 16 ≤ t) (ht : t ≤ 64) : (t : Int) - (k : Int) = ((t - k : Nat) : Int) ∧ IntKind.i64.wrap ((t - k : Nat) : Int) = ((t - k : Nat) : Int) ∧ wrap64 ((t - k : Nat) : Int) = ((t - k : Nat) : Int) ∧ t - k < t ∧ ((t - k : Nat) : Int) < (t : Int) := ⟨by omega, by rw [IntKind.wrap_i64]; omega, by unfold wrap64; omega, by omega, by omega⟩
theorem back_ix (t k : Nat) (h : k ≤ t) (ht : t ≤ 64) : (t : Int) - (k : Int) = ((t - k : Nat) : Int) ∧ IntKind.i64.wrap ((t - k : Nat) : Int) = ((t - k : Nat) : Int) ∧ wrap64 ((t - k : Nat) : Int) = ((t - k : Nat) : Int) := ⟨by omega, by rw [IntKind.wrap_i64]; omega, by unfold wrap64; omega⟩

end Go.Proofs.YtienklnigigepaaGreatDoor
