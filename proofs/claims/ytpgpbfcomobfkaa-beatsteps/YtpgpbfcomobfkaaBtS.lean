/- The reference's watch: New. -/
import Derived.Test.YtpgpbfcomobfkaaBtL
import Derived.Test.YtpgpbfcomobfkaaHeldN
namespace Go.Proofs.Ytpgpbfcomobfkaa
open Go Go.RowKit Go.Lib

/-- The reference's watch at block r, its peers at block q. -/
structure RWatch (w : World) (r q cap : Nat) (x : Wt) : Prop where
  ok : x.Ok
  rl : r < w.heap.size
  ql : q < w.heap.size
  ne : r ≠ q
  c0 : w.cell? ⟨r, 0, none⟩ = some (.int .i64 (x.n : Nat))
  c1 : w.cell? ⟨r, 1, none⟩ = some (.int .i64 (x.self : Nat))
  c2 : w.cell? ⟨r, 2, none⟩ = some (.int .i64 (x.now : Nat))
  c3 : w.cell? ⟨r, 3, none⟩ = some (.slice (some ⟨q, 0, none⟩) (x.n + 1) cap)
  ch : ∀ k, k ≤ x.n → w.cell? ⟨q, k * 3, none⟩ = some (.int .i64 (x.h k : Nat))
  ct : ∀ k, k ≤ x.n → w.cell? ⟨q, k * 3 + 1, none⟩ = some (.int .i64 (x.t k : Nat))
  cs : ∀ k, k ≤ x.n → w.cell? ⟨q, k * 3 + 2, none⟩ = some (.bool (x.s k))
  fr : ∀ o, w.frozen? ⟨r, o, none⟩ = false
  fq : ∀ o, w.frozen? ⟨q, o, none⟩ = false
theorem RWatch.block {w w' : World} {r q cap : Nat} {x : Wt} (h : RWatch w r q cap x) (hz : w.heap.size ≤ w'.heap.size) (hr : w'.heap[r]? = w.heap[r]?) (hq : w'.heap[q]? = w.heap[q]?) : RWatch w' r q cap x :=
  have er : ∀ o, w'.cell? ⟨r, o, none⟩ = w.cell? ⟨r, o, none⟩ := fun o => World.cell?_of_block (w := w) (a := ⟨r, o, none⟩) hr
  have eq : ∀ o, w'.cell? ⟨q, o, none⟩ = w.cell? ⟨q, o, none⟩ := fun o => World.cell?_of_block (w := w) (a := ⟨q, o, none⟩) hq
  ⟨h.ok, Nat.lt_of_lt_of_le h.rl hz, Nat.lt_of_lt_of_le h.ql hz, h.ne, (er _).trans h.c0, (er _).trans h.c1, (er _).trans h.c2, (er _).trans h.c3, fun k hk => (eq _).trans (h.ch k hk), fun k hk => (eq _).trans (h.ct k hk), fun k hk => (eq _).trans (h.cs k hk),
   fun o => (World.frozen?_of_block (w := w) (a := ⟨r, o, none⟩) hr).trans (h.fr o), fun o => (World.frozen?_of_block (w := w) (a := ⟨q, o, none⟩) hq).trans (h.fq o)⟩
theorem RWatch.call {w w' : World} {r q cap : Nat} {x : Wt} (h : RWatch w r q cap x) (hb : Below w.heap.size w w') : RWatch w' r q cap x := h.block hb.size (hb.block r h.rl) (hb.block q h.ql)
theorem RWatch.but {w w' : World} {r q cap g : Nat} {x : Wt} (h : RWatch w r q cap x) (hb : But g (From w.heap.size) w w') (gr : r ≠ g) (gq : q ≠ g) : RWatch w' r q cap x :=
  h.block hb.size (hb.block r (not_from h.rl) gr) (hb.block q (not_from h.ql) gq)
/-- All is as it was but for blocks r and q, and blocks of P. -/
structure But2 (r q : Nat) (P : Nat → Prop) (w w' : World) : Prop where
  os : w'.os = w.os
  tape : w'.tape = w.tape
  output : w'.output = w.output
  size : w.heap.size ≤ w'.heap.size
  block : ∀ k, ¬ P k → k ≠ r → k ≠ q → w'.heap[k]? = w.heap[k]?
theorem But2.refl (r q : Nat) (P : Nat → Prop) (w : World) : But2 r q P w w := ⟨rfl, rfl, rfl, Nat.le_refl _, fun _ _ _ _ => rfl⟩
theorem But2.setR {r q o : Nat} {P : Nat → Prop} {a w : World} (h : But2 r q P a w) (v : Value) : But2 r q P a (w.setCell ⟨r, o, none⟩ v) :=
  ⟨h.os, h.tape, h.output, by rw [World.size_setCell]; exact h.size, fun k hk hr hq => (Below.heap_setCell w ⟨r, o, none⟩ v k hr).trans (h.block k hk hr hq)⟩
theorem But2.setQ {r q o : Nat} {P : Nat → Prop} {a w : World} (h : But2 r q P a w) (v : Value) : But2 r q P a (w.setCell ⟨q, o, none⟩ v) :=
  ⟨h.os, h.tape, h.output, by rw [World.size_setCell]; exact h.size, fun k hk hr hq => (Below.heap_setCell w ⟨q, o, none⟩ v k hq).trans (h.block k hk hr hq)⟩
theorem But2.drewN {r q n : Nat} {P : Nat → Prop} {a w : World} (h : But2 r q P a w) : But2 r q P a (w.drewN n) := ⟨h.os, h.tape, h.output, h.size, h.block⟩
theorem But2.drew {r q : Nat} {P : Nat → Prop} {a w : World} (h : But2 r q P a w) : But2 r q P a w.drew := ⟨h.os, h.tape, h.output, h.size, h.block⟩
theorem But2.call {r q B : Nat} {a w w' : World} (h : But2 r q (From B) a w) (hb : Below B w w') : But2 r q (From B) a w' :=
  ⟨hb.os.trans h.os, hb.tape.trans h.tape, hb.output.trans h.output, Nat.le_trans h.size hb.size, fun k hk hr hq => (hb.block k (Nat.lt_of_not_le hk)).trans (h.block k hk hr hq)⟩
theorem WatchAt.but2 {w w' : World} {r q g : Nat} {x : Wt} (h : WatchAt w g x) (hb : But2 r q (From w.heap.size) w w') (gr : g ≠ r) (gq : g ≠ q) : WatchAt w' g x :=
  h.block hb.size (hb.block g (not_from h.lt) gr gq)
theorem below_but2 {B r q : Nat} {a w w' : World} (h : Below B a w) (hr : B ≤ r) (hq : B ≤ q) (hB : B ≤ w.heap.size) (hb : But2 r q (From w.heap.size) w w') : Below B a w' :=
  ⟨hb.os.trans h.os, hb.tape.trans h.tape, hb.output.trans h.output, Nat.le_trans h.size hb.size, fun k hk => (hb.block k (not_from (Nat.lt_of_lt_of_le hk hB)) (by omega) (by omega)).trans (h.block k hk)⟩

theorem infoPeer : ∃ i, Try.prog.info? 49 = some i ∧ i.zero = some (.agg #[.int .i64 0, .int .i64 0, .bool false]) ∧ i.size = 3 ∧ i.bytes = 24 := by
  have h : (Try.prog.info? 49).map (fun i => (i.zero, i.size, i.bytes)) = some (some (.agg #[.int .i64 0, .int .i64 0, .bool false]), 3, 24) := by kernel_rfl
  cases e : Try.prog.info? 49 with
  | none => rw [e] at h; cases h
  | some i =>
    rw [e] at h
    simp only [Option.map_some, Option.some.injEq, Prod.mk.injEq] at h
    exact ⟨i, rfl, h.1, h.2.1, h.2.2⟩
def peerV (m : Nat) : List Value := [.int .i64 (m : Nat), .int .i64 4, .bool false]
def peersV (m : Nat) : Nat → List Value
  | 0 => []
  | n + 1 => peersV m n ++ peerV m
theorem peersV_len (m : Nat) : ∀ n, (peersV m n).length = n * 3
  | 0 => rfl
  | n + 1 => by rw [peersV, List.length_append, peersV_len]; show _ + 3 = _; omega
theorem peersV_get (m : Nat) : ∀ n k c, k < n → c < 3 → (peersV m n)[k * 3 + c]? = (peerV m)[c]?
  | 0, k, c, h, _ => absurd h (Nat.not_lt_zero _)
  | n + 1, k, c, h, hc => by
    rw [peersV]
    by_cases e : k < n
    · rw [List.getElem?_append_left (by rw [peersV_len]; omega)]; exact peersV_get m n k c e hc
    · obtain rfl : k = n := by omega
      rw [List.getElem?_append_right (by rw [peersV_len]; omega), peersV_len]
      congr 1
      omega
def RowP (w : World) (base : Nat) (a : Option Addr) (n cap m : Nat) : Prop := w.ownsRow base 49 3 (.slice a n cap) n (peersV m n)
theorem RowP.nil (w : World) (base m : Nat) : RowP w base none 0 0 m := World.ownsRow_nil w base _ 3
theorem RowP.keep {w w' : World} {base n cap m : Nat} {a : Option Addr} (h : RowP w base a n cap m) (hk : ∀ k, base ≤ k → k < w.heap.size → w'.heap[k]? = w.heap[k]?) : RowP w' base a n cap m := by
  refine ⟨h.1, ?_⟩
  rcases h.2 with h2 | ⟨g, cap', cur, h1, h2, h3, h4⟩
  · exact .inl h2
  · exact .inr ⟨g, cap', cur, h1, h2, by rw [hk g h2 (Array.getElem?_eq_some_iff.1 h3).1]; exact h3, h4⟩
theorem RowP.at {w : World} {base n cap m : Nat} {a : Option Addr} (h : RowP w base a (n + 1) cap m) : ∃ q, a = some ⟨q, 0, none⟩ ∧ base ≤ q ∧ q < w.heap.size ∧ (∀ o, w.frozen? ⟨q, o, none⟩ = false) ∧
    (∀ k, k < n + 1 → w.cell? ⟨q, k * 3, none⟩ = some (.int .i64 (m : Nat)) ∧ w.cell? ⟨q, k * 3 + 1, none⟩ = some (.int .i64 4) ∧ w.cell? ⟨q, k * 3 + 2, none⟩ = some (.bool false)) := by
  rcases h.2 with ⟨h1, h2⟩ | ⟨g, cap', cur, h1, h2, h3, h4, h5, h6, h7⟩
  · omega
  · injection h1 with h1 _ h1c
    subst h1
    refine ⟨g, rfl, h2, (Array.getElem?_eq_some_iff.1 h3).1, fun o => by simp [World.frozen?, h3], fun k hk => ?_⟩
    have key : ∀ c u, c < 3 → (peerV m)[c]? = some u → w.cell? ⟨g, k * 3 + c, none⟩ = some u := fun c u hc hu => by
      have := World.ownsRow.cells h (g := g) (by simp [Value.ownBlock]) (k * 3 + c) u (by rw [peersV_get m (n + 1) k c hk hc]; exact hu)
      rwa [Addr.add_lit, Nat.zero_add] at this
    exact ⟨key 0 _ (by omega) rfl, key 1 _ (by omega) rfl, key 2 _ (by omega) rfl⟩
section
variable (w : World)
theorem owp_append_RowP {o : Oper} {a : Act} {K : Act → World → Prop} {Q : Exit → Act → World → Prop}
    (sl x : Operand) (hop : o.op = Op.call { callee := Callee.builtin Builtin.append, args := #[sl, x], argTypes := #[33, 33] })
    (base : Nat) (aa : Option Addr) (n cap m : Nat) (hs : a.eval sl = .slice aa n cap) (h : RowP w base aa n cap m) (hB : base ≤ w.heap.size) (hl : n ≤ 1000000)
    (b c : Nat) (hx : a.eval x = .slice (some ⟨b, 0, none⟩) 1 c) (hc : ∀ j u, (peerV m)[j]? = some u → w.cell? ⟨b, j, none⟩ = some u)
    (hK : ∀ a' m' cap' w', m' = n + 1 → RowP w' base a' (n + 1) cap' m → Below base w w' → K (a.put o.dst (.slice a' m' cap')) w') : Oper.wp Try.prog o a w K Q := by
  obtain ⟨i, hi, hz, hsize, hby⟩ := infoPeer
  obtain ⟨v', w', hr, ho, hg, _⟩ := run_append_own (P := Try.prog) w base 33 o.type 49 i _ 3 24 Try.underlying33 hi hz hsize hby rfl (by decide) (.slice aa n cap) n (peersV m n) h ⟨b, 0, none⟩ 1 c (peerV m) rfl
    (fun j u hj => by
      rw [Addr.add_lit, Nat.zero_add]
      exact hc j u hj) (fun u hu => by
        simp [peerV] at hu
        rcases hu with rfl | rfl | rfl <;> rfl) (by unfold maxLen; omega) (by omega) hB
  have ho' : w'.ownsRow base 49 3 v' (n + 1) (peersV m (n + 1)) := ho
  have hv : ∃ a' cap', v' = .slice a' (n + 1) cap' := by
    rcases ho'.2 with ⟨rfl, h2⟩ | ⟨g, cap', cur, rfl, _⟩
    · omega
    · exact ⟨_, cap', rfl⟩
  obtain ⟨a', cap', rfl⟩ := hv
  have hb : Below base w w' := (Below.refl base w).grown hg hB (fun k hk => (World.ownsRow.lt h k hk).1)
  unfold Oper.wp
  simp [execOp, hop, resolve, invoke, builtin, hs, hx, hr, Result.andThen]
  have := hK a' (n + 1) cap' w' rfl ho' hb
  exact this
theorem wpList_append_RowP {ops : Array Oper} {rest : List Oper} {o : Oper} {a : Act} {Q : Exit → Act → World → Prop} (hgd : o.guard = none)
    (sl x : Operand) (hop : o.op = Op.call { callee := Callee.builtin Builtin.append, args := #[sl, x], argTypes := #[33, 33] })
    (base : Nat) (aa : Option Addr) (n cap m : Nat) (hs : a.eval sl = .slice aa n cap) (h : RowP w base aa n cap m) (hB : base ≤ w.heap.size) (hl : n ≤ 1000000)
    (b c : Nat) (hx : a.eval x = .slice (some ⟨b, 0, none⟩) 1 c) (hc : ∀ j u, (peerV m)[j]? = some u → w.cell? ⟨b, j, none⟩ = some u)
    (hK : ∀ a' m' cap' w', m' = n + 1 → RowP w' base a' (n + 1) cap' m → Below base w w' → wpList Try.prog ops Q rest (a.put o.dst (.slice a' m' cap')) w') : wpList Try.prog ops Q (o :: rest) a w := by
  refine wpList_plain hgd fun K hK' => ?_
  exact owp_append_RowP w sl x hop base aa n cap m hs h hB hl b c hx hc (fun a' m' cap' w' h1 h2 h3 => hK' _ _ (hK a' m' cap' w' h1 h2 h3))
end
theorem rnew_no (n s m : Int) (h : ¬ ((1 ≤ n ∧ n ≤ 10) ∧ (1 ≤ s ∧ s ≤ n) ∧ 0 ≤ m ∧ m ≤ 1099511627776)) (w : World) : Calls Try.prog 10 #[.int .i64 n, .int .i64 s, .int .i64 m] w fun e w' => e = .returned (.tuple #[.pointer none, .int .i64 1]) ∧ w' = w := by
  have hc : n < 1 ∨ (1 ≤ n ∧ 10 < n) ∨ (1 ≤ n ∧ n ≤ 10 ∧ s < 1) ∨ (1 ≤ n ∧ n ≤ 10 ∧ 1 ≤ s ∧ n < s) ∨ (1 ≤ n ∧ n ≤ 10 ∧ 1 ≤ s ∧ s ≤ n ∧ m < 0) ∨ (1 ≤ n ∧ n ≤ 10 ∧ 1 ≤ s ∧ s ≤ n ∧ 0 ≤ m ∧ 1099511627776 < m) := by omega
  clear h
  rcases hc with h1 | ⟨h1, h2⟩ | ⟨h1, h2, h3⟩ | ⟨h1, h2, h3, h4⟩ | ⟨h1, h2, h3, h4, h5⟩ | ⟨h1, h2, h3, h4, h5, h6⟩
  all_goals
    go_enter Try.func10, Try.ntmps10
    go_wp2_with fail
    go_ret2
    exact ⟨rfl, rfl⟩
structure RNewI (wr w : World) (r n s m : Nat) (a : Option Addr) (i cap : Nat) : Prop where
  rl : r < wr.heap.size
  c0 : wr.cell? ⟨r, 0, none⟩ = some (.int .i64 (n : Nat))
  c1 : wr.cell? ⟨r, 1, none⟩ = some (.int .i64 (s : Nat))
  c2 : wr.cell? ⟨r, 2, none⟩ = some (.int .i64 (m : Nat))
  c3 : wr.cell? ⟨r, 3, none⟩ = some (.slice a i cap)
  fr : ∀ o, wr.frozen? ⟨r, o, none⟩ = false
  row : RowP wr (r + 1) a i cap m
  fr0 : Below r w wr
theorem RNewI.step {wr w w5 : World} {r n s m i cap m5 cap5 : Nat} {a a5 : Option Addr} (h : RNewI wr w r n s m a i cap) (hm : m5 = i + 1) (hR : RowP w5 (r + 1) a5 (i + 1) cap5 m) (hb : Below (r + 1) wr w5) :
    RNewI (w5.setCell ⟨r, 3, none⟩ (.slice a5 m5 cap5)) w r n s m a5 (i + 1) cap5 := by
  have e : ∀ o, w5.cell? ⟨r, o, none⟩ = wr.cell? ⟨r, o, none⟩ := fun o => hb.cell (p := ⟨r, o, none⟩) (Nat.lt_succ_self _)
  refine ⟨by simpa using Nat.lt_of_lt_of_le h.rl hb.size, ?_, ?_, ?_, ?_, fun o => ?_, ?_, ?_⟩
  · rw [cell_ne (by omega), e]; exact h.c0
  · rw [cell_ne (by omega), e]; exact h.c1
  · rw [cell_ne (by omega), e]; exact h.c2
  · rw [hm]; exact cell_eq ((e 3).trans h.c3)
  · rw [World.frozen?_setCell]; exact (hb.frozen (p := ⟨r, o, none⟩) (Nat.lt_succ_self _)).trans (h.fr o)
  · exact hR.keep fun k hk _ => Below.heap_setCell _ _ _ _ (by show k ≠ r; omega)
  · exact (h.fr0.trans (hb.mono (Nat.le_succ _))).setCell (p := ⟨r, _, none⟩) (Nat.le_refl _) _
set_option maxHeartbeats 1000000 in
theorem rnew_ok (n s m : Nat) (n1 : 1 ≤ n) (n10 : n ≤ 10) (s1 : 1 ≤ s) (sn : s ≤ n) (hm : m ≤ 1099511627776) (w : World) : Calls Try.prog 10 #[.int .i64 (n : Nat), .int .i64 (s : Nat), .int .i64 (m : Nat)] w fun e w' => ∃ q cap, e = .returned (.tuple #[.pointer (some ⟨w.heap.size, 0, none⟩), .int .i64 0]) ∧ RWatch w' w.heap.size q cap (newW n s m) ∧ w.heap.size < q ∧ Below w.heap.size w w' := by
  have HO : Hid ((newW n s m).Ok) := newW_ok n1 n10 s1 sn hm
  have a1 : (1 : Int) ≤ (n : Nat) := by omega
  have a2 : ((n : Nat) : Int) ≤ 10 := by omega
  have a3 : (1 : Int) ≤ (s : Nat) := by omega
  have a4 : ((s : Nat) : Int) ≤ (n : Nat) := by omega
  have a5 : (0 : Int) ≤ (m : Nat) := by omega
  have a6 : ((m : Nat) : Int) ≤ 1099511627776 := by omega
  have HN : Hid (n ≤ 10) := n10
  have d1 : decide (((n : Nat) : Int) < 1) = false := decide_eq_false (by omega)
  have d2 : decide ((10 : Int) < ((n : Nat) : Int)) = false := decide_eq_false (by omega)
  have d3 : decide (((s : Nat) : Int) < 1) = false := decide_eq_false (by omega)
  have d4 : decide (((n : Nat) : Int) < ((s : Nat) : Int)) = false := decide_eq_false (by omega)
  have d4' : decide (n < s) = false := decide_eq_false (by omega)
  have d5 : decide (((m : Nat) : Int) < 0) = false := decide_eq_false (by omega)
  have d6 : decide ((1099511627776 : Int) < ((m : Nat) : Int)) = false := decide_eq_false (by omega)
  clear n1 n10 s1 sn hm
  go_enter Try.func10, Try.ntmps10
  go_wp2_with fail
  rename_i Kr hKr
  have HKr : Hid _ := hKr
  clear hKr
  obtain ⟨W, hWW⟩ : ∃ W : World, W = (w.alloc (Obj.cells #[.int .i64 (n : Nat), .int .i64 (s : Nat), .int .i64 (m : Nat), .slice none 0 0] 35)) := ⟨_, rfl⟩
  rw [← hWW]
  obtain ⟨r, hr⟩ : ∃ r, r = w.heap.size := ⟨_, rfl⟩
  have HR : Hid (r = w.heap.size) := hr
  have HP : Hid (RNewI W w r n s m none 0 0) := by
    rw [hr, hWW]
    refine ⟨by simp, by simp [go_sem], by simp [go_sem], by simp [go_sem], by simp [go_sem], fun o => World.frozen?_alloc_new _ _ _ _, RowP.nil _ _ _, below_alloc0 (Below.refl _ _) _⟩
  rw [← hr]
  clear hr hWW
  go_loopw [9] (fun iv wr => ∃ (i : Nat) (a : Option Addr) (cap : Nat), i ≤ n + 1 ∧ iv = .int .i64 (i : Nat) ∧ RNewI wr w r n s m a i cap) (fun iv _ => n + 1 - (Go.RowKit.intOf iv).toNat)
  case atStart => exact ⟨0, none, 0, Nat.zero_le _, rfl, HP.out⟩
  case round =>
    obtain ⟨i, a, cap, hi, rfl, hA⟩ := hrel
    rename World => wr
    have HA : Hid (RNewI wr w r n s m a i cap) := hA
    by_cases hlt : i ≤ n
    · clear HKr
      have hlt' : (i : Int) ≤ (n : Nat) := by omega
      have c3 := hA.c3
      have f3 := hA.fr 3
      have rl := hA.rl
      have HL : Hid (i ≤ n ∧ i ≤ 1000000 ∧ r < wr.heap.size) := ⟨hlt, by have := HN.out; omega, hA.rl⟩
      have HB : Hid (RowP (wr.alloc (.cells #[.int .i64 (m : Nat), .int .i64 4, .bool false] 49)) (r + 1) a i cap m ∧ (∀ j u, (peerV m)[j]? = some u → (wr.alloc (.cells #[.int .i64 (m : Nat), .int .i64 4, .bool false] 49)).cell? ⟨wr.heap.size, j, none⟩ = some u) ∧ r + 1 ≤ (wr.alloc (.cells #[.int .i64 (m : Nat), .int .i64 4, .bool false] 49)).heap.size) :=
        ⟨hA.row.keep fun k _ hk => ((Below.refl _ _).alloc (Nat.le_refl _) _ : Below wr.heap.size wr _).block k hk, fun j u hj => by rw [World.cell?_alloc_new, List.getElem?_toArray]; exact hj, by simp; omega⟩
      clear hA hlt hi
      go_wp2_with (at_builtin; refine wpList_append_RowP _ rfl (.tmp 47) (.tmp 50) rfl (r + 1) a i cap m rfl HB.out.1 HB.out.2.2 HL.out.2.1 wr.heap.size 1 rfl HB.out.2.1 ?_; intro a5 m5 cap5 w5 hm5 hR5 hb5; have H5 : Hid (m5 = i + 1 ∧ RowP w5 (r + 1) a5 (i + 1) cap5 m ∧ Below (r + 1) wr w5) := ⟨hm5, hR5, (((Below.refl _ _).alloc (Nat.le_refl _) _).mono (Nat.succ_le_of_lt HL.out.2.2)).trans hb5⟩; have d3 : w5.cell? ⟨r, 3, none⟩ = some (.slice a i cap) := (H5.out.2.2.cell (p := ⟨r, 3, none⟩) (Nat.lt_succ_self _)).trans c3; have g3 : w5.frozen? ⟨r, 3, none⟩ = false := (H5.out.2.2.frozen (p := ⟨r, 3, none⟩) (Nat.lt_succ_self _)).trans f3; clear hm5 hR5 hb5)
      go_roundw
      case rel => first | exact ⟨i + 1, a5, cap5, Nat.succ_le_succ HL.out.1, by go_num, HA.out.step H5.out.1 H5.out.2.1 H5.out.2.2⟩ | ((repeat apply Exists.intro); exact ⟨⟨i + 1, a5, cap5, Nat.succ_le_succ HL.out.1, by go_num, HA.out.step H5.out.1 H5.out.2.1 H5.out.2.2⟩, rfl⟩)
      case measure => have h1 := HL.out.1; simp [Go.RowKit.intOf]; omega
    · obtain rfl : i = n + 1 := by omega
      have hnl : ¬ (((n + 1 : Nat) : Int) ≤ (n : Nat)) := by omega
      clear hlt hi hA
      go_wp2_with fail
      refine HKr.out _ _ ?_
      clear HKr
      go_wp2_with fail
      go_ret2
      obtain ⟨q, hq, q1, q2, q3, q4⟩ := HA.out.row.at
      refine ⟨q, cap, by rw [← HR.out]; rfl, ?_, by rw [← HR.out]; exact q1, by rw [← HR.out]; exact HA.out.fr0⟩
      rw [← HR.out]
      have c3 := HA.out.c3
      rw [hq] at c3
      exact ⟨HO.out, HA.out.rl, q2, by omega, HA.out.c0, HA.out.c1, HA.out.c2, c3, fun k hk => (q4 k (Nat.lt_succ_of_le hk)).1, fun k hk => (q4 k (Nat.lt_succ_of_le hk)).2.1, fun k hk => (q4 k (Nat.lt_succ_of_le hk)).2.2, HA.out.fr, q3⟩
end Go.Proofs.Ytpgpbfcomobfkaa
