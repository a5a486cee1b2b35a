/- A slice of digits that a world holds, and wardmoteref01.digit. -/
import Derived.Test.YtaigpginoakdfaaDgN
import Derived.Test.YtaigpginoakdfaaHold
import Derived.Laws.AppendOwn
import Derived.Deep.AppendLies
namespace Go.Proofs.Ytaigpginoakdfaa
open Go.RowKit

def dcell (d : Nat) : Value := .int .i64 (d : Int)
def Dg (w : World) (v : Value) (ds : List Nat) : Prop :=
  (v = .slice none 0 0 ∧ ds = []) ∨ ∃ g cap, v = .slice (some ⟨g, 0, none⟩) ds.length cap ∧ g < w.heap.size ∧ ∀ j, j < ds.length → w.cell? ⟨g, j, none⟩ = some (.int .i64 (dget ds j : Nat))
theorem Dg.call {W w1 : World} {v : Value} {ds : List Nat} (h : Dg W v ds) (hb : Below W.heap.size W w1) : Dg w1 v ds := by
  rcases h with h | ⟨g, cap, hv, hg, hc⟩
  · exact Or.inl h
  · exact Or.inr ⟨g, cap, hv, Nat.lt_of_lt_of_le hg hb.size, fun j hj => (hb.cell (p := ⟨g, j, none⟩) hg).trans (hc j hj)⟩
theorem Dg.alloc {W : World} {v : Value} {ds : List Nat} (h : Dg W v ds) (o : Obj) : Dg (W.alloc o) v ds :=
  h.call ((Below.refl _ _).alloc (Nat.le_refl _) o)
theorem Dg.below {W w1 : World} {B : Nat} {v : Value} {ds : List Nat} (h : Dg W v ds) (hb : Below B W w1) (hB : W.heap.size ≤ B) : Dg w1 v ds := h.call (hb.mono hB)
theorem dg_of_owns {w : World} {base n : Nat} {v : Value} {ds : List Nat} (h : w.ownsRow base 3 1 v n (ds.map dcell)) : Dg w v ds := by
  obtain ⟨hl, h⟩ := h
  have hn : ds.length = n := by simpa using hl
  rcases h with ⟨hv, h0⟩ | ⟨g, cap, cur, hv, hb, hh, _, _, hcs, hcur⟩
  · left
    refine ⟨hv, ?_⟩
    cases ds with
    | nil => rfl
    | cons a r => simp at hn; omega
  · right
    refine ⟨g, cap, by rw [hv, hn], ?_, ?_⟩
    · by_cases hg : g < w.heap.size
      · exact hg
      · rw [Array.getElem?_eq_none (by omega)] at hh; cases hh
    · intro j hj
      have e : (cur.toList.take (n * 1))[j]? = (ds.map dcell)[j]? := by rw [hcur]
      simp only [World.cell?, hh]
      rw [List.getElem?_take_of_lt (by omega)] at e
      simp only [Array.getElem?_toList] at e
      simp [e, dcell, dget, hj]

theorem infoInt : (Try.prog.info? 3).map (fun i => (i.zero, i.size, i.bytes)) = some (some (.int .i64 0), 1, 8) := by kernel_rfl
theorem info_int : ∃ i, Try.prog.info? 3 = some i ∧ i.zero = some (.int .i64 0) ∧ i.size = 1 ∧ i.bytes = 8 := by
  have h := infoInt
  cases e : Try.prog.info? 3 with
  | none => rw [e] at h; cases h
  | some i =>
    rw [e] at h
    simp at h
    exact ⟨i, rfl, h.1, h.2.1, h.2.2⟩

theorem digit_any (v : Value) (ds : List Nat) (i : Nat) (w : World) (h : Dg w v ds) :
    Calls Try.prog 40 #[v, .int .i64 i] w fun e w' => e = .returned (.int .i64 (dget ds i : Nat)) ∧ w' = w := by
  rcases h with ⟨rfl, rfl⟩ | ⟨g, cap, rfl, hg, hc⟩
  · go_enter Try.func40, Try.ntmps40
    go_wp2
    go_ret
    exact ⟨rfl, rfl⟩
  · by_cases hlt : i < ds.length
    · have c := hc i hlt
      clear hc
      go_enter Try.func40, Try.ntmps40
      go_wp2
      go_ret
      exact ⟨rfl, rfl⟩
    · have HE : Hid (dget ds i = 0) := dget_ge ds i (by omega)
      clear hc
      go_enter Try.func40, Try.ntmps40
      go_wp2
      go_ret
      exact ⟨by rw [HE.out]; rfl, rfl⟩

theorem append_below {B B' n : Nat} {a wr w1 : World} {v : Value} {xs : List Value} {o : Obj} (hb : Below B a wr) (hown : wr.ownsRow B' 3 1 v n xs) (hBB : B ≤ B') (hsz : B ≤ wr.heap.size) (hg : (wr.alloc o).grownBy w1 v.ownBlock) : Below B a w1 :=
  (hb.alloc hsz o).grown hg (by simp; omega) (fun k hk => Nat.le_trans hBB (hown.lt k hk).1)
theorem owns_snoc {w : World} {B n : Nat} {v : Value} {l : List Nat} {d : Nat} (h : w.ownsRow B 3 1 v n (l.map dcell ++ [.int .i64 (d : Nat)])) : w.ownsRow B 3 1 v n ((l ++ [d]).map dcell) := by
  rw [List.map_append]; exact h
end Go.Proofs.Ytaigpginoakdfaa
