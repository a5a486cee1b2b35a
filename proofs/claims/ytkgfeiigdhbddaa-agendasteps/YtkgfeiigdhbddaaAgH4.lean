/- The law AgendaSteps: one step of an agenda and of the reference's. -/
import Derived.Test.YtkgfeiigdhbddaaAgR4
import Derived.Test.YtkgfeiigdhbddaaAgR5
import Derived.Test.YtkgfeiigdhbddaaOpenA
namespace Go.Proofs.Ytkgfeiigdhbddaa
open Go Go.RowKit Go.Lib
/-- An agenda and the reference's, alike; their blocks are apart. -/
structure Both (w : World) (S R : Nat → Prop) (g r l : Nat) (L : List En) : Prop where
  ag : AgZ w S g l L
  rf : RefA w R r l L
  ap : ∀ k, S k → ¬ R k
  sl : ∀ k, S k → k < w.heap.size
  rl : ∀ k, R k → k < w.heap.size
/-- All is as it was but for blocks from B on. -/
theorem Both.ag_step {w w' : World} {S R : Nat → Prop} {g r l l' B : Nat} {L L' : List En} {w0 : World} (h : Both w S R g r l L) (hb : Below B w0 w) (hS : ∀ k, S k → B ≤ k) (hB : B ≤ w.heap.size) (hA : AgZ w' (fun k => S k ∨ w.heap.size ≤ k) g l' L') (hO : Off (fun k => S k ∨ w.heap.size ≤ k) w w') :
    AgZ w' (fun k => (S k ∨ w.heap.size ≤ k) ∧ k < w'.heap.size) g l' L' ∧ RefA w' R r l L ∧ Below B w0 w' ∧ (∀ k, ((S k ∨ w.heap.size ≤ k) ∧ k < w'.heap.size) → ¬ R k) ∧ (∀ k, ((S k ∨ w.heap.size ≤ k) ∧ k < w'.heap.size) → B ≤ k) ∧ ∀ k, R k → k < w'.heap.size := by
  refine ⟨hA.mono (fun k hk hz => ⟨hz, hk⟩), h.rf.kept hO.size (fun k hk hlt => hO.block k (fun c => c.elim (fun c => h.ap k c hk) (fun c => by omega))), ⟨hO.os.trans hb.os, hO.tape.trans hb.tape, hO.output.trans hb.output, Nat.le_trans hb.size hO.size, fun k hk => (hO.block k (fun c => c.elim (fun c => by have := hS k c; omega) (fun c => by omega))).trans (hb.block k hk)⟩, fun k hk hr => ?_, fun k hk => ?_, fun k hk => Nat.lt_of_lt_of_le (h.rl k hk) hO.size⟩
  · rcases hk.1 with c | c
    · exact h.ap k c hr
    · exact absurd (h.rl k hr) (by omega)
  · rcases hk.1 with c | c
    · exact hS k c
    · omega
/-- .. and behind the reference's step. -/
theorem Both.rf_step {w w' w0 : World} {S R : Nat → Prop} {g r l l' B : Nat} {L' : List En} (hA : AgZ w S g l' L') (hap : ∀ k, S k → ¬ R k) (hsl : ∀ k, S k → k < w.heap.size) (hb : Below B w0 w) (hR : ∀ k, R k → B ≤ k) (hB : B ≤ w.heap.size) (hF : RefA w' (fun k => R k ∨ w.heap.size ≤ k) r l L') (hO : Off (fun k => R k ∨ w.heap.size ≤ k) w w') (hl : l = l') :
    Both w' S (fun k => (R k ∨ w.heap.size ≤ k) ∧ k < w'.heap.size) g r l L' ∧ Below B w0 w' ∧ ∀ k, ((R k ∨ w.heap.size ≤ k) ∧ k < w'.heap.size) → B ≤ k := by
  subst hl
  refine ⟨⟨hA.kept hO.size (fun k hk hlt => hO.block k (fun c => c.elim (hap k hk) (fun c => by omega))), hF.mono (fun k hk hz => ⟨hz, hk⟩), fun k hk c => ?_, fun k hk => Nat.lt_of_lt_of_le (hsl k hk) hO.size, fun k hk => hk.2⟩, ⟨hO.os.trans hb.os, hO.tape.trans hb.tape, hO.output.trans hb.output, Nat.le_trans hb.size hO.size, fun k hk => (hO.block k (fun c => c.elim (fun c => by have := hR k c; omega) (fun c => by omega))).trans (hb.block k hk)⟩, fun k hk => ?_⟩
  · rcases c.1 with c | c
    · exact hap k hk c
    · exact absurd (hsl k hk) (by omega)
  · rcases hk.1 with c | c
    · exact hR k c
    · omega
/-- Both, in blocks from B on, and nothing else has changed since w0. -/
def BothB (w0 w : World) (B g r b : Nat) : Prop := ∃ S R l L, l ≤ b ∧ Both w S R g r l L ∧ (∀ k, S k → B ≤ k) ∧ (∀ k, R k → B ≤ k) ∧ B ≤ w.heap.size ∧ Below B w0 w
theorem Both.call {w w' : World} {S R : Nat → Prop} {g r l : Nat} {L : List En} (h : Both w S R g r l L) (hb : Below w.heap.size w w') : Both w' S R g r l L := ⟨h.ag.call hb, h.rf.call hb, h.ap, fun k hk => Nat.lt_of_lt_of_le (h.sl k hk) hb.size, fun k hk => Nat.lt_of_lt_of_le (h.rl k hk) hb.size⟩
theorem BothB.call {w0 w w' : World} {B g r b : Nat} (h : BothB w0 w B g r b) (hb : Below w.heap.size w w') : BothB w0 w' B g r b := by
  obtain ⟨S, R, l, L, h1, h2, h3, h4, h5, h6⟩ := h
  exact ⟨S, R, l, L, h1, h2.call hb, h3, h4, Nat.le_trans h5 hb.size, h6.trans (hb.mono h5)⟩
theorem BothB.up {w0 w : World} {B g r b c : Nat} (h : BothB w0 w B g r b) (hb : b ≤ c) : BothB w0 w B g r c := by
  obtain ⟨S, R, l, L, h1, h2⟩ := h
  exact ⟨S, R, l, L, Nat.le_trans h1 hb, h2⟩
/-- .. with a block beside them. -/
def BothE (w0 w : World) (B g r b E : Nat) : Prop := ∃ S R l L, l ≤ b ∧ Both w S R g r l L ∧ (∀ k, S k → B ≤ k) ∧ (∀ k, R k → B ≤ k) ∧ B ≤ w.heap.size ∧ Below B w0 w ∧ ¬ S E ∧ ¬ R E ∧ E < w.heap.size
theorem BothB.beside {w0 w : World} {B g r b : Nat} (h : BothB w0 w B g r b) (o : Obj) : BothE w0 (w.alloc o) B g r b w.heap.size := by
  have hb : Below w.heap.size w (w.alloc o) := below_alloc0 (Below.refl _ _) _
  obtain ⟨S, R, l, L, h1, h2, h3, h4, h5, h6⟩ := h
  exact ⟨S, R, l, L, h1, h2.call hb, h3, h4, Nat.le_trans h5 hb.size, h6.trans (hb.mono h5), fun c => absurd (h2.sl _ c) (Nat.lt_irrefl _), fun c => absurd (h2.rl _ c) (Nat.lt_irrefl _), by simp⟩
theorem BothE.out {w0 w : World} {B g r b E : Nat} (h : BothE w0 w B g r b E) : BothB w0 w B g r b := by
  obtain ⟨S, R, l, L, h1, h2, h3, h4, h5, h6, _⟩ := h
  exact ⟨S, R, l, L, h1, h2, h3, h4, h5, h6⟩
theorem BothE.drew {w0 w : World} {B g r b E : Nat} (h : BothE w0 w B g r b E) : BothE w0 w.drew B g r b E := by
  obtain ⟨S, R, l, L, h1, h2, h3, h4, h5, h6, h7⟩ := h
  exact ⟨S, R, l, L, h1, ⟨h2.ag.kept (Nat.le_refl _) (fun _ _ _ => rfl), h2.rf.kept (Nat.le_refl _) (fun _ _ _ => rfl), h2.ap, h2.sl, h2.rl⟩, h3, h4, h5, ⟨h6.os, h6.tape, h6.output, h6.size, h6.block⟩, h7⟩
/-- What a step's two calls leave: each answers the same. -/
theorem put_both (w0 : World) (B g r b : Nat) (N : Int) (s : ByteArray) (w : World) (E : Nat) (h : BothE w0 w B g r b E) (hb : b < 100000) (hs : s.size < 140737488351233) :
    ∃ v c : Int, Calls Try.prog 12 #[.pointer (some ⟨g, 0, none⟩), .int .i64 N, .string s] w fun e w' => e = .returned (.tuple #[.int .i64 v, .int .i64 c]) ∧ w'.heap[E]? = w.heap[E]? ∧ Calls Try.prog 16 #[.pointer (some ⟨r, 0, none⟩), .int .i64 N, .string s] w' fun e w'' => e = .returned (.tuple #[.int .i64 v, .int .i64 c]) ∧ BothB w0 w'' B g r (b + 1) := by
  obtain ⟨S, R, l, L, hl, hB, hS, hR, hz, hbl, hSE, hRE, hEz⟩ := h
  by_cases hm : 0 ≤ N ∧ N ≤ 1099511627776
  · obtain ⟨m, rfl⟩ : ∃ m : Nat, N = (m : Int) := ⟨N.toNat, by omega⟩
    by_cases h5 : 512 ≤ L.length
    · refine ⟨0, 5, (aput_full g l m S L s (by omega) w hB.ag h5).mono ?_⟩
      rintro e w' ⟨he, rfl⟩
      refine ⟨he, rfl, (rPut_full r l m R L s (by omega) w' hB.rf h5).mono ?_⟩
      rintro e w'' ⟨he, rfl⟩
      exact ⟨he, S, R, l, L, by omega, hB, hS, hR, hz, hbl⟩
    · refine ⟨((l + 1 : Nat) : Int), 0, (aput_ok g l (l + 1) m rfl (fun k => S k ∨ w.heap.size ≤ k) L s (by omega) w (fun k hk => .inr hk) (hB.ag.mono (fun k _ hk => .inl hk)) (by omega) (by omega) (by omega)).mono ?_⟩
      rintro e w' ⟨he, hA', hO'⟩
      obtain ⟨q1, q2, q3, q4, q5, q6⟩ := hB.ag_step hbl hS hz hA' hO'
      refine ⟨he, (hO'.block E (fun c => c.elim hSE (fun c => by omega))), (rPut_ok r l (l + 1) m rfl (fun k => R k ∨ w'.heap.size ≤ k) L s (by omega) w' (fun k hk => .inr hk) (q2.mono (fun k _ hk => .inl hk)) (by omega) (by omega)).mono ?_⟩
      rintro e w'' ⟨he, hF, hO⟩
      obtain ⟨p1, p2, p3⟩ := Both.rf_step q1 q4 (fun k hk => hk.2) q3 hR (Nat.le_trans hz hO'.size) hF hO rfl
      exact ⟨he, _, _, l + 1, _, by omega, p1, q5, p3, Nat.le_trans hz (Nat.le_trans hO'.size hO.size), p2⟩
  · refine ⟨0, 1, (aput_arg (some ⟨g, 0, none⟩) N s hm w).mono ?_⟩
    rintro e w' ⟨he, rfl⟩
    refine ⟨he, rfl, (rPut_arg (some ⟨r, 0, none⟩) N s hm w').mono ?_⟩
    rintro e w'' ⟨he, rfl⟩
    exact ⟨he, S, R, l, L, by omega, hB, hS, hR, hz, hbl⟩
theorem drop_both (w0 : World) (B g r b : Nat) (M : Int) (w : World) (E : Nat) (h : BothE w0 w B g r b E) (hM : M ≤ 9223372036854775807) :
    ∃ (v : Bool) (c : Int), Calls Try.prog 13 #[.pointer (some ⟨g, 0, none⟩), .int .i64 M] w fun e w' => e = .returned (.tuple #[.bool v, .int .i64 c]) ∧ w'.heap[E]? = w.heap[E]? ∧ Calls Try.prog 17 #[.pointer (some ⟨r, 0, none⟩), .int .i64 M] w' fun e w'' => e = .returned (.tuple #[.bool v, .int .i64 c]) ∧ BothB w0 w'' B g r (b + 1) := by
  obtain ⟨S, R, l, L, hl, hB, hS, hR, hz, hbl, hSE, hRE, hEz⟩ := h
  have h5 := hB.ag.len5
  by_cases h : 1 ≤ M
  · obtain ⟨t, rfl⟩ : ∃ t : Nat, M = (t : Int) := ⟨M.toNat, by omega⟩
    by_cases hx : ∃ x ∈ L, x.t = t
    · obtain ⟨x, hx, hxt⟩ := hx
      refine ⟨true, 0, (adrop_yes g l t (fun k => S k ∨ w.heap.size ≤ k) L x w (fun k hk => .inr hk) (hB.ag.mono (fun k _ hk => .inl hk)) hx hxt (by omega)).mono ?_⟩
      rintro e w' ⟨he, hA', hO'⟩
      obtain ⟨q1, q2, q3, q4, q5, q6⟩ := hB.ag_step hbl hS hz hA' hO'
      refine ⟨he, (hO'.block E (fun c => c.elim hSE (fun c => by omega))), (rDrop_ok r l t (fun k => R k ∨ w'.heap.size ≤ k) L w' (fun k hk => .inr hk) (q2.mono (fun k _ hk => .inl hk)) (by omega) (by omega)).mono ?_⟩
      rintro e w'' ⟨he, hF, hO⟩
      rw [anyT_mem hx hxt] at he
      obtain ⟨p1, p2, p3⟩ := Both.rf_step q1 q4 (fun k hk => hk.2) q3 hR (Nat.le_trans hz hO'.size) hF hO rfl
      exact ⟨he, _, _, l, _, by omega, p1, q5, p3, Nat.le_trans hz (Nat.le_trans hO'.size hO.size), p2⟩
    · have hx' : ∀ e ∈ L, e.t ≠ t := fun e he c => hx ⟨e, he, c⟩
      refine ⟨false, 0, (adrop_no g l t S L w hB.ag (by omega) (by omega) hx').mono ?_⟩
      rintro e w' ⟨he, rfl⟩
      refine ⟨he, rfl, (rDrop_ok r l t (fun k => R k ∨ w'.heap.size ≤ k) L w' (fun k hk => .inr hk) (hB.rf.mono (fun k _ hk => .inl hk)) (by omega) (by omega)).mono ?_⟩
      rintro e w'' ⟨he, hF, hO⟩
      rw [anyT_none hx'] at he
      rw [rmE_none hx'] at hF
      obtain ⟨p1, p2, p3⟩ := Both.rf_step hB.ag hB.ap hB.sl hbl hR hz hF hO rfl
      exact ⟨he, _, _, l, _, by omega, p1, hS, p3, Nat.le_trans hz hO.size, p2⟩
  · refine ⟨false, 1, (adrop_arg (some ⟨g, 0, none⟩) M h w).mono ?_⟩
    rintro e w' ⟨he, rfl⟩
    refine ⟨he, rfl, (rDrop_arg (some ⟨r, 0, none⟩) M h w').mono ?_⟩
    rintro e w'' ⟨he, rfl⟩
    exact ⟨he, S, R, l, L, by omega, hB, hS, hR, hz, hbl⟩
theorem move_both (w0 : World) (B g r b : Nat) (M N : Int) (w : World) (E : Nat) (h : BothE w0 w B g r b E) (hM : M ≤ 9223372036854775807) :
    ∃ c : Int, Calls Try.prog 14 #[.pointer (some ⟨g, 0, none⟩), .int .i64 M, .int .i64 N] w fun e w' => e = .returned (.int .i64 c) ∧ w'.heap[E]? = w.heap[E]? ∧ Calls Try.prog 18 #[.pointer (some ⟨r, 0, none⟩), .int .i64 M, .int .i64 N] w' fun e w'' => e = .returned (.int .i64 c) ∧ BothB w0 w'' B g r (b + 1) ∧ w''.heap[E]? = w'.heap[E]? := by
  obtain ⟨S, R, l, L, hl, hB, hS, hR, hz, hbl, hSE, hRE, hEz⟩ := h
  have h5 := hB.ag.len5
  by_cases h : 1 ≤ M ∧ 0 ≤ N ∧ N ≤ 1099511627776
  · obtain ⟨t, rfl⟩ : ∃ t : Nat, M = (t : Int) := ⟨M.toNat, by omega⟩
    obtain ⟨m, rfl⟩ : ∃ m : Nat, N = (m : Int) := ⟨N.toNat, by omega⟩
    by_cases hx : ∃ x ∈ L, x.t = t
    · obtain ⟨x, hx, hxt⟩ := hx
      refine ⟨0, (amove_yes g l t m (fun k => S k ∨ w.heap.size ≤ k) L x w (fun k hk => .inr hk) (hB.ag.mono (fun k _ hk => .inl hk)) hx hxt (by omega) (by omega)).mono ?_⟩
      rintro e w' ⟨he, hA', hO'⟩
      obtain ⟨q1, q2, q3, q4, q5, q6⟩ := hB.ag_step hbl hS hz hA' hO'
      refine ⟨he, (hO'.block E (fun c => c.elim hSE (fun c => by omega))), (rMove_yes r l t m (fun k => R k ∨ w'.heap.size ≤ k) L x w' (fun k hk => .inr hk) (q2.mono (fun k _ hk => .inl hk)) (by omega) (by omega) (by omega) hB.ag.dst hx hxt).mono ?_⟩
      rintro e w'' ⟨he, hF, hO⟩
      obtain ⟨p1, p2, p3⟩ := Both.rf_step q1 q4 (fun k hk => hk.2) q3 hR (Nat.le_trans hz hO'.size) hF hO rfl
      exact ⟨he, ⟨_, _, l, _, by omega, p1, q5, p3, Nat.le_trans hz (Nat.le_trans hO'.size hO.size), p2⟩, hO.block E (fun c => c.elim hRE (fun c => by have := hO'.size; omega))⟩
    · have hx' : ∀ e ∈ L, e.t ≠ t := fun e he c => hx ⟨e, he, c⟩
      refine ⟨6, (amove_no g l t m S L w hB.ag (by omega) (by omega) (by omega) hx').mono ?_⟩
      rintro e w' ⟨he, rfl⟩
      refine ⟨he, rfl, (rMove_no r l t m (fun k => R k ∨ w'.heap.size ≤ k) L w' (fun k hk => .inr hk) (hB.rf.mono (fun k _ hk => .inl hk)) (by omega) (by omega) (by omega) hx').mono ?_⟩
      rintro e w'' ⟨he, hF, hO⟩
      obtain ⟨p1, p2, p3⟩ := Both.rf_step hB.ag hB.ap hB.sl hbl hR hz hF hO rfl
      exact ⟨he, ⟨_, _, l, _, by omega, p1, hS, p3, Nat.le_trans hz hO.size, p2⟩, hO.block E (fun c => c.elim hRE (fun c => by omega))⟩
  · refine ⟨1, (amove_arg (some ⟨g, 0, none⟩) M N h w).mono ?_⟩
    rintro e w' ⟨he, rfl⟩
    refine ⟨he, rfl, (rMove_arg (some ⟨r, 0, none⟩) M N h w').mono ?_⟩
    rintro e w'' ⟨he, rfl⟩
    exact ⟨he, ⟨S, R, l, L, by omega, hB, hS, hR, hz, hbl⟩, rfl⟩
/-- Take: both lists are told alike. -/
theorem take_both (w0 : World) (B g r b : Nat) (N : Int) (w : World) (E : Nat) (h : BothE w0 w B g r b E) :
    ∃ (c : Int) (n : Nat) (T : List En), n = T.length ∧ n ≤ 600 ∧ Calls Try.prog 15 #[.pointer (some ⟨g, 0, none⟩), .int .i64 N] w fun e w' => ∃ a ca, e = .returned (.tuple #[.slice a n ca, .int .i64 c]) ∧ w'.heap[E]? = w.heap[E]? ∧ Calls Try.prog 19 #[.pointer (some ⟨r, 0, none⟩), .int .i64 N] w' fun e w'' => ∃ a' ca', e = .returned (.tuple #[.slice a' n ca', .int .i64 c]) ∧ EnsR w'' a T ∧ EnsR w'' a' T ∧ BothB w0 w'' B g r (b + 1) := by
  obtain ⟨S, R, l, L, hl, hB, hS, hR, hz, hbl, hSE, hRE, hEz⟩ := h
  have h5 := hB.ag.len5
  by_cases hm : 0 ≤ N ∧ N ≤ 1099511627776
  · obtain ⟨m, rfl⟩ : ∃ m : Nat, N = (m : Int) := ⟨N.toNat, by omega⟩
    refine ⟨0, (due m L).length, due m L, rfl, ?_, (atake_ok g l m (fun k => S k ∨ w.heap.size ≤ k) L (by omega) w (fun k hk => .inr hk) (hB.ag.mono (fun k _ hk => .inl hk))).mono ?_⟩
    · have : (due m L).length ≤ L.length := by unfold due; exact (List.takeWhile_prefix _).length_le
      omega
    rintro e w' ⟨a, n, ca, he, hn, hRow, hown, hA', hO'⟩
    subst hn
    obtain ⟨q1, q2, q3, q4, q5, q6⟩ := hB.ag_step hbl hS hz hA' hO'
    refine ⟨a, ca, he, (hO'.block E (fun c => c.elim hSE (fun c => by omega))), (rTake_ok r l m (fun k => R k ∨ w'.heap.size ≤ k) L (by omega) w' (q2.mono (fun k _ hk => .inl hk)) (by omega)).mono ?_⟩
    rintro e w'' ⟨a', n', ca', he, hn', hE', hF, hO⟩
    subst hn'
    obtain ⟨p1, p2, p3⟩ := Both.rf_step q1 q4 (fun k hk => hk.2) q3 hR (Nat.le_trans hz hO'.size) hF hO rfl
    have hEa : EnsAt w' (fun k => w.heap.size ≤ k ∧ k < w'.heap.size) a (due m L) := by
      have := EnsAt.of_row (F := fun k => w.heap.size ≤ k) hRow rfl hown
      exact this.mono (fun k hk hz => ⟨hz, hk⟩)
    exact ⟨a', ca', he, (hEa.kept hO.size (fun k hk hlt => hO.block k (fun c => c.elim (fun c => q4 k ⟨.inr hk.1, hk.2⟩ c) (fun c => by omega)))).mono (fun _ _ _ => trivial), hE'.mono (fun _ _ _ => trivial), _, _, l, _, by omega, p1, q5, p3, Nat.le_trans hz (Nat.le_trans hO'.size hO.size), p2⟩
  · refine ⟨1, 0, [], rfl, by omega, (atake_arg (some ⟨g, 0, none⟩) N hm w).mono ?_⟩
    rintro e w' ⟨he, rfl⟩
    refine ⟨none, 0, he, rfl, (rTake_arg (some ⟨r, 0, none⟩) N hm w').mono ?_⟩
    rintro e w'' ⟨he, rfl⟩
    exact ⟨none, 0, he, EnsAt.nil _ _ _, EnsAt.nil _ _ _, S, R, l, L, by omega, hB, hS, hR, hz, hbl⟩
end Go.Proofs.Ytkgfeiigdhbddaa
