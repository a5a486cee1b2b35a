/- Package agenda: Take. -/
import Derived.Test.YtkgfeiigdhbddaaAgG1
namespace Go.Proofs.Ytkgfeiigdhbddaa
open Go Go.RowKit Go.Lib
def enF (T : List En) : Nat → En := fun k => T.getD k zeroE
def due (now : Nat) (L : List En) : List En := L.takeWhile (fun x => decide (x.m ≤ now))
def rest (now : Nat) (L : List En) : List En := L.dropWhile (fun x => decide (x.m ≤ now))
def sliceLen : Value → Nat
  | .slice _ m _ => m
  | _ => 0
theorem enF_snoc (T : List En) (x : En) : ∀ k, k < T.length + 1 → enF (T ++ [x]) k = putF (enF T) T.length x k := fun k hk => by
  unfold enF putF
  by_cases c : k = T.length
  · subst c; simp
  · have : k < T.length := by omega
    rw [if_neg c]
    simp [List.getD, List.getElem?_append_left this]
theorem atake_arg (v : Option Addr) (now : Int) (h : ¬ (0 ≤ now ∧ now ≤ 1099511627776)) (w : World) : Calls Try.prog 15 #[.pointer v, .int .i64 now] w fun e w' => e = .returned (.tuple #[.slice none 0 0, .int .i64 1]) ∧ w' = w := by
  have HD : Hid (decide (0 ≤ now ∧ now ≤ 1099511627776) = false) := decide_eq_false h
  clear h
  go_enter Try.func15, Try.ntmps15
  go_wp2_with fail
  refine (isMoment_any _ _).mono ?_
  rintro e w1 ⟨rfl, rfl⟩
  rw [HD.out]
  go_wp2_with fail
  go_ret2
  exact ⟨rfl, rfl⟩
theorem agpop_in (g l : Nat) (Z : Nat → Prop) (x : En) (r : List En) (w : World) (hZ : ∀ k, w.heap.size ≤ k → Z k) (hA : AgZ w Z g l (x :: r)) : Calls Try.prog 29 #[pif g] w fun e w' => e = .returned (enA x) ∧ AgZ w' Z g l r ∧ Off Z w w' := by
  have hd := hA.dst
  have hs := hA.srt
  obtain ⟨n, f, h, hc, hm⟩ := hA
  have hcl := hc.len
  rw [List.length_cons] at hcl
  rcases h with ⟨_, h0⟩ | ⟨q, cap, B, p, hP, hh⟩
  · omega
  · obtain ⟨n', rfl⟩ : ∃ n', n = n' + 1 := ⟨n - 1, by omega⟩
    obtain ⟨r', hr'⟩ := hc.head hh (by omega)
    have hx0 : f 0 = x := by injection hr' with a _; exact a.symm
    refine (hpop_in g l n' (n' + 1) rfl Z f w hZ ⟨q, cap, B, p, hP, hh⟩).mono ?_
    rintro e w' ⟨he, ⟨f', hP', hM'⟩, hO⟩
    have := hc.drop hP.pl (Nat.zero_le _) hM'
    rw [hx0, rmE_head hs hd] at this
    exact ⟨by rw [he, hx0], ⟨n', f', .inr hP', this, fun e he => hm e (List.mem_cons_of_mem _ he)⟩, hO⟩
/-- What Take answers. -/
def TkP (g l : Nat) (Z : Nat → Prop) (now : Nat) (L : List En) (w : World) (e : Ending) (w' : World) : Prop := ∃ a m cap, e = .returned (.tuple #[.slice a m cap, .int .i64 0]) ∧ m = (due now L).length ∧ RwO w' a cap m (enF (due now L)) ∧ (∀ q, a = some ⟨q, 0, none⟩ → w.heap.size ≤ q) ∧ AgZ w' Z g l (rest now L) ∧ Off Z w w'
theorem TkP.mk {g l : Nat} {Z : Nat → Prop} {now : Nat} {L : List En} {w : World} {e : Ending} {w' : World} (h : ∃ a m cap, e = .returned (.tuple #[.slice a m cap, .int .i64 0]) ∧ m = (due now L).length ∧ RwO w' a cap m (enF (due now L)) ∧ (∀ q, a = some ⟨q, 0, none⟩ → w.heap.size ≤ q) ∧ AgZ w' Z g l (rest now L) ∧ Off Z w w') : TkP g l Z now L w e w' := h
theorem AgZ.top {w : World} {Z : Nat → Prop} {g l : Nat} {x : En} {r : List En} (h : AgZ w Z g l (x :: r)) : ∃ q n cap, n = (x :: r).length ∧ w.cell? ⟨g, 0, none⟩ = some (.slice (some ⟨q, 0, none⟩) n cap) ∧ w.cell? ⟨q, 1, none⟩ = some (.int .i64 (x.m : Nat)) := by
  obtain ⟨n, f, h, hc, hm⟩ := h
  have hcl := hc.len
  rw [List.length_cons] at hcl
  rcases h with ⟨_, h0⟩ | ⟨q, cap, B, p, hP, hh⟩
  · omega
  · obtain ⟨r', hr'⟩ := hc.head hh (by omega)
    have hx0 : f 0 = x := by injection hr' with a _; exact a.symm
    have := hP.rw.c1 0 (by omega)
    rw [hx0] at this
    exact ⟨q, n, cap, hc.len.symm, hP.c0, this⟩
structure TkI (g l : Nat) (Z : Nat → Prop) (now : Nat) (L : List En) (w : World) (a : Option Addr) (m cap : Nat) (T R : List En) (S : Nat → Prop) (wr : World) : Prop where
  sp : L = T ++ R
  tl : ∀ x ∈ T, x.m ≤ now
  ml : m = T.length
  row : RwO wr a cap m (enF T)
  own : ∀ q, a = some ⟨q, 0, none⟩ → w.heap.size ≤ q
  ag : AgZ wr S g l R
  sz : ∀ k, S k → Z k
  ns : ∀ q, a = some ⟨q, 0, none⟩ → ¬ S q
  off : Off Z w wr
theorem RwO.lt {w : World} {a : Option Addr} {cap n q : Nat} {f : Nat → En} (h : RwO w a cap n f) (ha : a = some ⟨q, 0, none⟩) : q < w.heap.size := by
  rcases h with ⟨h, _⟩ | ⟨q', h, hr⟩
  · rw [ha] at h; cases h
  · rw [ha] at h; cases h; exact hr.lt
theorem RwO.some {w : World} {q cap n : Nat} {f : Nat → En} (h : Rw w q cap n f) : RwO w (some ⟨q, 0, none⟩) cap n f := .inr ⟨q, rfl, h⟩
theorem Rw.eqf {w : World} {q cap n : Nat} {f f' : Nat → En} (h : Rw w q cap n f) (hf : ∀ k, k < n → f' k = f k) : Rw w q cap n f' := h.less (Nat.le_refl _) hf
theorem TkI.step {g l now m cap q' cap' : Nat} {Z S : Nat → Prop} {L T R : List En} {a : Option Addr} {w wr w3 w9 : World} {x : En} {o1 o2 : Obj} (hZ : ∀ k, w.heap.size ≤ k → Z k) (h : TkI g l Z now L w a m cap T (x :: R) S wr) (hx : x.m ≤ now) (hO3 : Off (fun k => S k ∨ wr.heap.size ≤ k) wr w3) (hA3 : AgZ w3 (fun k => S k ∨ wr.heap.size ≤ k) g l R)
    (hA : AppR ((w3.alloc o1).alloc o2) w9 a q' cap' (m + 1) (putF (enF T) m x)) : TkI g l Z now L w (Option.some ⟨q', 0, none⟩) (m + 1) cap' (T ++ [x]) R (fun k => (S k ∨ wr.heap.size ≤ k) ∧ k < w3.heap.size) w9 := by
  have hb : Below w3.heap.size w3 ((w3.alloc o1).alloc o2) := below_alloc0 (below_alloc0 (Below.refl _ _) _) _
  have hwz := h.off.size
  have h3z := hO3.size
  have hml := h.ml
  refine ⟨by rw [List.append_assoc]; exact h.sp, fun y hy => ?_, by rw [List.length_append, hml]; rfl, RwO.some (hA.row.eqf (fun k hk => ?_)), fun q hq => ?_, ?_, fun k hk => ?_, fun q hq => ?_, ?_⟩
  · rcases List.mem_append.1 hy with hy | hy
    · exact h.tl y hy
    · rw [List.mem_singleton.1 hy]; exact hx
  · rw [hml]; exact enF_snoc T x k (by omega)
  · cases hq
    rcases hA.own with c | c
    · exact h.own _ c
    · have := hb.size; omega
  · refine (hA3.mono (fun k hk hz => ⟨hz, hk⟩)).kept (Nat.le_trans hb.size hA.size) (fun k hk hlt => ?_)
    refine (hA.block k (Nat.lt_of_lt_of_le hlt hb.size) (fun c => ?_)).trans (hb.block k hlt)
    rcases hk.1 with hk | hk
    · exact h.ns k c hk
    · exact absurd (h.row.lt c) (by omega)
  · rcases hk.1 with hk | hk
    · exact h.sz k hk
    · exact hZ k (by omega)
  · cases hq
    intro c
    rcases hA.own with d | d
    · rcases c.1 with c1 | c1
      · exact h.ns _ d c1
      · exact absurd (h.row.lt d) (by omega)
    · have := hb.size; omega
  · refine ⟨hA.os.trans (hb.os.trans (hO3.os.trans h.off.os)), hA.tape.trans (hb.tape.trans (hO3.tape.trans h.off.tape)), hA.output.trans (hb.output.trans (hO3.output.trans h.off.output)), by have := hb.size; have := hA.size; omega, fun b hbz => ?_⟩
    have hbw : b < w.heap.size := Nat.lt_of_not_le (fun c => hbz (hZ b c))
    rw [hA.block b (by have := hb.size; omega) (fun c => by have := h.own b c; omega), hb.block b (by omega), hO3.block b (fun c => c.elim (fun c => hbz (h.sz b c)) (fun c => by omega))]
    exact h.off.block b hbz
theorem due_split {now : Nat} {L T R : List En} (h : L = T ++ R) (ht : ∀ x ∈ T, x.m ≤ now) (hr : ∀ x r, R = x :: r → ¬ x.m ≤ now) : due now L = T ∧ rest now L = R := by
  subst h
  unfold due rest
  rw [List.takeWhile_append_of_pos (fun x hx => decide_eq_true (ht x hx)), List.dropWhile_append_of_pos (fun x hx => decide_eq_true (ht x hx))]
  cases R with
  | nil => simp
  | cons x r => simp [hr x r rfl]
theorem wpList_append_run {P : Program} {w w' : World} {ops : Array Oper} {rest : List Oper} {o : Oper} {a : Act} {Q : Exit → Act → World → Prop} (hgd : o.guard = none) (s x : Operand) (t : TypeId) (ho : o.op = .call { callee := .builtin .append, args := #[s, x], argTypes := #[t, t] }) {v1 v2 v : Value} (h1 : a.eval s = v1) (h2 : a.eval x = v2) (hrun : (Builtin.append_ #[t, t] o.type #[v1, v2]).run P w = .ok v w') (h : wpList P ops Q rest (a.put o.dst v) w') : wpList P ops Q (o :: rest) a w := by
  refine wpList_plain hgd fun K hK => ?_
  unfold Oper.wp
  simp [execOp, ho, resolve, invoke, builtin, h1, h2, hrun, Result.andThen]
  exact hK _ _ h
set_option maxRecDepth 100000 in
set_option maxHeartbeats 2000000 in
theorem atake_ok (g l now : Nat) (Z : Nat → Prop) (L : List En) (hnow : now ≤ 1099511627776) (w : World) (hZ : ∀ k, w.heap.size ≤ k → Z k) (hA : AgZ w Z g l L) : Calls Try.prog 15 #[.pointer (some ⟨g, 0, none⟩), .int .i64 (now : Nat)] w fun e w' => TkP g l Z now L w e w' := by
  have HD : Hid (decide (0 ≤ (now : Int) ∧ (now : Int) ≤ 1099511627776) = true) := decide_eq_true ⟨by omega, by omega⟩
  have HA : Hid (AgZ w Z g l L ∧ (∀ k, w.heap.size ≤ k → Z k) ∧ L.length ≤ 512) := ⟨hA, hZ, hA.len5⟩
  have nw : (now : Int) ≤ 1099511627776 := by omega
  clear hnow hA hZ
  go_enter Try.func15, Try.ntmps15
  go_wp2_with fail
  refine (isMoment_any _ _).mono ?_
  rintro e w1 ⟨rfl, rfl⟩
  rw [HD.out]
  go_wp2_with fail
  rename_i Kr hKr
  have HKr : Hid _ := hKr
  clear hKr
  go_loopw [6] (fun ov wr => ∃ (a : Option Addr) (m cap : Nat) (T R : List En) (S : Nat → Prop), ov = .slice a m cap ∧ TkI g l Z now L w1 a m cap T R S wr) (fun ov _ => 600 - sliceLen ov)
  case atStart => exact ⟨none, 0, 0, [], L, Z, rfl, ⟨rfl, fun x hx => (by cases hx), rfl, .inl ⟨rfl, rfl, rfl⟩, fun q h => (by cases h), HA.out.1, fun k h => h, fun q h => (by cases h), Off.refl _ _⟩⟩
  case round =>
    obtain ⟨a, m, cap, T, R, S, rfl, hI⟩ := hrel
    rename World => wr
    have HI : Hid (TkI g l Z now L w1 a m cap T R S wr) := hI
    have m5 : (m : Int) ≤ 512 := by have := HA.out.2.2; rw [hI.sp, List.length_append, ← hI.ml] at this; omega
    cases R with
    | nil =>
      clear hI
      go_wp2_with fail
      refine (alen_in g l 0 S [] rfl wr HI.out.ag).mono ?_
      rintro e w2 ⟨rfl, rfl⟩
      go_wp2_with fail
      refine HKr.out _ _ ?_
      clear HKr
      go_wp2_with fail
      go_ret2
      have hd := due_split HI.out.sp HI.out.tl (fun x r h => by cases h)
      exact TkP.mk ⟨a, m, cap, rfl, by rw [hd.1]; exact HI.out.ml, by rw [hd.1]; exact HI.out.row, HI.out.own, by rw [hd.2]; exact HI.out.ag.mono (fun k _ h => HI.out.sz k h), HI.out.off⟩
    | cons x R =>
      obtain ⟨q, n, capq, hn, c0, c1⟩ := hI.ag.top
      have n5 := hI.ag.len5
      have i1 : (0 : Int) < (n : Nat) := by rw [hn, List.length_cons]; omega
      have i2 : (n : Int) ≤ 512 := by omega
      have i3 : decide ((0 : Int) < (n : Nat)) = true := decide_eq_true i1
      have HN : Hid (n = (x :: R).length) := hn
      clear hI hn n5
      go_wp2_with fail
      refine (alen_in g l n S (x :: R) HN.out wr HI.out.ag).mono ?_
      rintro e w2 ⟨rfl, rfl⟩
      by_cases hx : x.m ≤ now
      · have i4 : (x.m : Int) ≤ (now : Int) := by omega
        have i5 : decide ((x.m : Int) ≤ (now : Int)) = true := decide_eq_true i4
        have HX : Hid (x.m ≤ now) := hx
        clear hx
        go_wp2_with fail
        refine (agpop_in g l (fun k => S k ∨ w2.heap.size ≤ k) x R w2 (fun k h => .inr h) (HI.out.ag.mono (fun k _ h => .inl h))).mono ?_
        rintro e w3 ⟨rfl, hA3, hO3⟩
        have H3 : Hid (AgZ w3 (fun k => S k ∨ w2.heap.size ≤ k) g l R ∧ Off (fun k => S k ∨ w2.heap.size ≤ k) w2 w3) := ⟨hA3, hO3⟩
        have hta := assert_en x
        have hR : RwO ((w3.alloc (.cells #[.int .i64 (x.t : Nat), .int .i64 (x.m : Nat), .string x.s] 34)).alloc (.cells #[.int .i64 (x.t : Nat), .int .i64 (x.m : Nat), .string x.s] 34)) a cap m (enF T) :=
          (HI.out.row.block hO3.size (fun q hq hl => hO3.block q (fun c => c.elim (HI.out.ns q hq) (fun c => by omega)))).call (below_alloc0 (below_alloc0 (Below.refl _ _) _) _)
        obtain ⟨q', cap', w9, happ, hAp⟩ := run_append_Rw ((w3.alloc (.cells #[.int .i64 (x.t : Nat), .int .i64 (x.m : Nat), .string x.s] 34)).alloc (.cells #[.int .i64 (x.t : Nat), .int .i64 (x.m : Nat), .string x.s] 34)) 47 47 34 enI_code a cap m (enF T) x hR (by omega) (w3.heap.size + 1) 1 (fun j u hj => by
          have : (w3.alloc (.cells #[.int .i64 (x.t : Nat), .int .i64 (x.m : Nat), .string x.s] 34)).heap.size = w3.heap.size + 1 := by simp
          rw [← this, World.cell?_alloc_new, List.getElem?_toArray]; exact hj)
        have H9 : Hid (TkI g l Z now L w1 (some ⟨q', 0, none⟩) (m + 1) cap' (T ++ [x]) R (fun k => (S k ∨ w2.heap.size ≤ k) ∧ k < w3.heap.size) w9) := TkI.step HA.out.2.1 HI.out HX.out hO3 hA3 hAp
        obtain ⟨m1, hm1⟩ : ∃ m1, m1 = m + 1 := ⟨_, rfl⟩
        have HM : Hid (m1 = m + 1 ∧ m ≤ 512) := ⟨hm1, by omega⟩
        rw [← hm1] at happ
        clear hA3 hO3 hR hAp HKr hm1
        unfold enA
        go_wp2_with (at_builtin; refine wpList_append_run rfl _ _ 47 rfl rfl rfl happ ?_)
        go_roundw
        case rel => first | exact ⟨some ⟨q', 0, none⟩, m1, cap', T ++ [x], R, _, rfl, by rw [HM.out.1]; exact H9.out⟩ | ((repeat apply Exists.intro); exact ⟨⟨some ⟨q', 0, none⟩, m1, cap', T ++ [x], R, _, rfl, by rw [HM.out.1]; exact H9.out⟩, rfl⟩)
        case measure => have h1 := HM.out; simp [sliceLen]; omega
      · have i4 : ¬ ((x.m : Int) ≤ (now : Int)) := by omega
        have i5 : decide ((x.m : Int) ≤ (now : Int)) = false := decide_eq_false i4
        have HX : Hid (¬ x.m ≤ now) := hx
        clear hx
        go_wp2_with fail
        refine HKr.out _ _ ?_
        clear HKr
        go_wp2_with fail
        go_ret2
        have hd := due_split HI.out.sp HI.out.tl (fun y r h => by cases h; exact HX.out)
        exact TkP.mk ⟨a, m, cap, rfl, by rw [hd.1]; exact HI.out.ml, by rw [hd.1]; exact HI.out.row, HI.out.own, by rw [hd.2]; exact HI.out.ag.mono (fun k _ h => HI.out.sz k h), HI.out.off⟩
end Go.Proofs.Ytkgfeiigdhbddaa
