/- Package beat: Silent, Check, Heard. -/
import Derived.Test.YtpgpbfcomobfkaaBtC
namespace Go.Proofs.Ytpgpbfcomobfkaa
open Go Go.RowKit Go.Lib

/-- Numbers behind an address, in a block from B on. -/
def IntsFrom (w : World) (B : Nat) (a : Option Addr) (l : List Int) : Prop :=
  ∀ j n, l[j]? = some n → ∃ p o, a = some ⟨p, o, none⟩ ∧ w.cell? ⟨p, o + j, none⟩ = some (.int .i64 n) ∧ B ≤ p ∧ p < w.heap.size
theorem IntsFrom.ints {w : World} {B : Nat} {a : Option Addr} {l : List Int} (h : IntsFrom w B a l) : IntsAt w a l := fun j n hj => by
  obtain ⟨p, o, h1, h2, _, h3⟩ := h j n hj
  exact ⟨p, o, h1, h2, h3⟩
theorem IntsFrom.get {w : World} {B : Nat} {a : Option Addr} {l : List Int} (h : IntsFrom w B a l) {k : Nat} (hk : k < l.length) : ∃ p o, a = some ⟨p, o, none⟩ ∧ w.cell? ⟨p, o + k, none⟩ = some (.int .i64 (l[k]'hk)) ∧ B ≤ p ∧ p < w.heap.size :=
  h k _ (List.getElem?_eq_getElem hk)
theorem IntsFrom.set {w : World} {B g o : Nat} {a : Option Addr} {l : List Int} (h : IntsFrom w B a l) (hg : g < B) (v : Value) : IntsFrom (w.setCell ⟨g, o, none⟩ v) B a l := fun j n hj => by
  obtain ⟨p, q, h1, h2, h3, h4⟩ := h j n hj
  exact ⟨p, q, h1, by rw [World.cell?_setCell_other _ _ _ _ (by intro c; injection c with c1 _ _; omega)]; exact h2, h3, by rw [World.size_setCell]; exact h4⟩
theorem IntsFrom.call {w w' : World} {B : Nat} {a : Option Addr} {l : List Int} (h : IntsFrom w B a l) (hb : Below w.heap.size w w') : IntsFrom w' B a l := fun j s hj => by
  obtain ⟨p, o, h1, h2, h3, h4⟩ := h j s hj
  exact ⟨p, o, h1, (hb.cell (p := ⟨p, o + j, none⟩) h4).trans h2, h3, Nat.lt_of_lt_of_le h4 hb.size⟩
theorem RowI.from {w : World} {base cap : Nat} {a : Option Addr} {l : List Int} (h : RowI w base a l cap) : IntsFrom w base a l := by
  intro j s hj
  have hu : (l.map (Value.int .i64))[j]? = some (.int .i64 s) := by rw [List.getElem?_map, hj]; rfl
  rcases h.2 with ⟨h1, h2⟩ | ⟨g, cap', cur, h1, h2, h3, h4, h5, h6, h7⟩
  · have : l = [] := List.eq_nil_of_length_eq_zero h2
    subst this
    simp at hj
  · injection h1 with h1 _ h1c
    subst h1
    refine ⟨g, 0, rfl, ?_, h2, (Array.getElem?_eq_some_iff.1 h3).1⟩
    have := World.ownsRow.cells h (g := g) (by simp [Value.ownBlock]) j (.int .i64 s) hu
    rwa [Addr.add_lit] at this

theorem silent_any (g : Nat) (x : Wt) (w : World) (hW : WatchAt w g x) : Calls Try.prog 18 #[.pointer (some ⟨g, 0, none⟩)] w fun e w' => ∃ a cap, e = .returned (.slice a (silL x).length cap) ∧ IntsFrom w' w.heap.size a (silL x) ∧ Below w.heap.size w w' := by
  have HW : Hid (WatchAt w g x) := hW
  clear hW
  go_enter Try.func18, Try.ntmps18
  go_wp2_with fail
  refine (those_silent g x _ HW.out).mono ?_
  rintro e w1 ⟨a, cap, rfl, hR, hb⟩
  have H1 : Hid (_ ∧ _) := ⟨hR, hb⟩
  clear hR hb
  go_wp2_with fail
  go_ret
  exact ⟨a, cap, rfl, H1.out.1.from, H1.out.2⟩

/-- Some are silent besides. -/
def setS (x : Wt) (l : List Int) : Wt := ⟨x.n, x.self, x.now, x.h, x.t, fun j => x.s j || decide ((j : Int) ∈ l)⟩
theorem setS_nil (x : Wt) : setS x [] = x := by unfold setS; simp
theorem setS_late (x : Wt) : setS x (lateL x) = partW x x.n := by
  unfold setS partW
  congr 1
  funext j
  congr 1
  have h : ((j : Int) ∈ lateL x) ↔ (1 ≤ j ∧ j ≤ x.n ∧ lateB x j = true) := by
    unfold lateL; rw [lsN_mem]
    constructor
    · rintro ⟨i, h1, h2, h3, h4⟩
      obtain rfl : j = i := by omega
      exact ⟨h2, h3, h4⟩
    · rintro ⟨h1, h2, h3⟩; exact ⟨j, rfl, h1, h2, h3⟩
  have h' : decide ((j : Int) ∈ lateL x) = decide (1 ≤ j ∧ j ≤ x.n ∧ lateB x j = true) := decide_eq_decide.2 h
  rw [h']
  by_cases h1 : 1 ≤ j <;> by_cases h2 : j ≤ x.n <;> by_cases h3 : lateB x j = true <;> simp [h1, h2, h3]
theorem setS_ok {x : Wt} (h : x.Ok) {l : List Int} (hl : ((x.self : Nat) : Int) ∉ l) : (setS x l).Ok :=
  ⟨h.n1, h.n10, h.s1, h.sn, h.now, h.h, h.t, by show (x.s x.self || decide (((x.self : Nat) : Int) ∈ l)) = false; rw [h.s, decide_eq_false hl]; rfl⟩
theorem WatchAt.now {w : World} {g : Nat} {x : Wt} (h : WatchAt w g x) {m : Nat} (hm : m ≤ 1099511627776) : WatchAt (w.setCell ⟨g, 2, none⟩ (.int .i64 (m : Nat))) g (atW x m) := by
  have e : ∀ o, o ≠ 2 → (w.setCell ⟨g, 2, none⟩ (.int .i64 (m : Nat))).cell? ⟨g, o, none⟩ = w.cell? ⟨g, o, none⟩ := fun o ho => World.cell?_setCell_other _ _ _ _ (by intro c; injection c with _ c2 _; omega)
  refine ⟨atW_ok h.ok hm, by rw [World.size_setCell]; exact h.lt, (e _ (by omega)).trans h.c0, (e _ (by omega)).trans h.c1, World.cell?_setCell_same _ _ _ h.c2, fun k hk => (e _ (by omega)).trans (h.ch k hk), fun k hk => (e _ (by omega)).trans (h.ct k hk), fun k hk => (e _ (by omega)).trans (h.cs k hk), fun o => by rw [World.frozen?_setCell]; exact h.fz o⟩
theorem WatchAt.sil {w : World} {g k : Nat} {x : Wt} {l : List Int} (h : WatchAt w g (setS x l)) (hk : k ≤ 10) (hs : k ≠ x.self) : WatchAt (w.setCell ⟨g, 3 + k * 3 + 2, none⟩ (.bool true)) g (setS x (l ++ [((k : Nat) : Int)])) := by
  have e : ∀ o, o ≠ 3 + k * 3 + 2 → (w.setCell ⟨g, 3 + k * 3 + 2, none⟩ (.bool true)).cell? ⟨g, o, none⟩ = w.cell? ⟨g, o, none⟩ := fun o ho => World.cell?_setCell_other _ _ _ _ (by intro c; injection c with _ c2 _; omega)
  have ok : (setS x (l ++ [((k : Nat) : Int)])).Ok := by
    have h0 := h.ok
    refine ⟨h0.n1, h0.n10, h0.s1, h0.sn, h0.now, h0.h, h0.t, ?_⟩
    have hq := h0.s
    show (x.s x.self || decide (((x.self : Nat) : Int) ∈ l ++ [((k : Nat) : Int)])) = false
    have hq' : (x.s x.self || decide (((x.self : Nat) : Int) ∈ l)) = false := hq
    rw [← hq']
    congr 1
    refine decide_eq_decide.2 ?_
    rw [List.mem_append]
    constructor
    · rintro (h | h)
      · exact h
      · simp at h; omega
    · exact Or.inl
  refine ⟨ok, by rw [World.size_setCell]; exact h.lt, (e _ (by omega)).trans h.c0, (e _ (by omega)).trans h.c1, (e _ (by omega)).trans h.c2, fun j hj => (e _ (by omega)).trans (h.ch j hj), fun j hj => (e _ (by omega)).trans (h.ct j hj), fun j hj => ?_, fun o => by rw [World.frozen?_setCell]; exact h.fz o⟩
  by_cases hjk : j = k
  · subst hjk
    rw [World.cell?_setCell_same _ _ _ (h.cs j hk)]
    show _ = some (Value.bool (x.s j || decide ((j : Int) ∈ l ++ [((j : Nat) : Int)])))
    rw [decide_eq_true (by simp), Bool.or_true]
  · refine (e _ (by omega)).trans ((h.cs j hj).trans ?_)
    show some (Value.bool (x.s j || decide ((j : Int) ∈ l))) = some (Value.bool (x.s j || decide ((j : Int) ∈ l ++ [((k : Nat) : Int)])))
    congr 3
    refine decide_eq_decide.2 ?_
    rw [List.mem_append]
    constructor
    · exact Or.inl
    · rintro (h | h)
      · exact h
      · simp at h; omega
end Go.Proofs.Ytpgpbfcomobfkaa
