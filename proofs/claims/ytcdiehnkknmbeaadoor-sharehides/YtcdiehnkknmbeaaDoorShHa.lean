/- Share: own rows of ints, whole lists appended; the value that goes with a secret (mathematics of ShareHides). -/
import Derived.Test.YtcdiehnkknmbeaaDoorShZb
namespace Go.Proofs.YtcdiehnkknmbeaaDoor
open Go Go.RowKit Go.Lib

theorem infoIntH : ∃ i, Tryd.prog.info? 3 = some i ∧ i.zero = some (.int .i64 0) ∧ i.size = 1 ∧ i.bytes = 8 := by
  have h : (Tryd.prog.info? 3).map (fun i => (i.zero, i.size, i.bytes)) = some (some (.int .i64 0), 1, 8) := by kernel_rfl
  cases e : Tryd.prog.info? 3 with
  | none => rw [e] at h; cases h
  | some i =>
    rw [e] at h
    simp only [Option.map_some, Option.some.injEq, Prod.mk.injEq] at h
    exact ⟨i, rfl, h.1, h.2.1, h.2.2⟩
def RowJ (w : World) (base : Nat) (a : Option Addr) (l : List Int) (cap : Nat) : Prop := w.ownsRow base 3 1 (.slice a l.length cap) l.length (l.map (Value.int .i64))
theorem RowJ.nil (w : World) (base : Nat) : RowJ w base none [] 0 := World.ownsRow_nil w base _ 1
theorem RowJ.call {w w' : World} {base cap : Nat} {a : Option Addr} {l : List Int} (h : RowJ w base a l cap) (hb : Below w.heap.size w w') : RowJ w' base a l cap :=
  World.ownsRow.kept h (grown_of_belowN hb) (by
    cases e : (Value.slice a l.length cap).ownBlock with
    | none => exact .inl rfl
    | some k => exact .inr (by simp))
theorem RowJ.alloc {w : World} {base cap : Nat} {a : Option Addr} {l : List Int} {o : Obj} (h : RowJ w base a l cap) : RowJ (w.alloc o) base a l cap := h.call ((Below.refl _ _).alloc (Nat.le_refl _) o)
theorem RowJ.ints {w : World} {base cap : Nat} {a : Option Addr} {l : List Int} (h : RowJ w base a l cap) : IntsAt w a l := by
  intro j s hj
  have hu : (l.map (Value.int .i64))[j]? = some (.int .i64 s) := by rw [List.getElem?_map, hj]; rfl
  rcases h.2 with ⟨h1, h2⟩ | ⟨g, cap', cur, h1, h2, h3, h4, h5, h6, h7⟩
  · have : l = [] := List.eq_nil_of_length_eq_zero h2
    subst this
    simp at hj
  · injection h1 with h1 _ h1c
    subst h1
    refine ⟨g, 0, rfl, ?_, (Array.getElem?_eq_some_iff.1 h3).1⟩
    have := World.ownsRow.cells h (g := g) (by simp [Value.ownBlock]) j (.int .i64 s) hu
    rwa [Addr.add_lit] at this
theorem cellsN_at (l : List Nat) (j : Nat) (u : Value) (h : (cellsN l)[j]? = some u) : ∃ n, l[j / 4]? = some n ∧ u = .int .u64 (limb n (j % 4) : Nat) := by
  have hj : j < l.length * 4 := by rw [← cellsN_length]; exact (List.getElem?_eq_some_iff.1 h).1
  have hk : j / 4 < l.length := by omega
  refine ⟨_, List.getElem?_eq_getElem hk, ?_⟩
  have h1 := cellsN_get l (j / 4) _ (j % 4) (List.getElem?_eq_getElem hk) (by omega)
  rw [show j / 4 * 4 + j % 4 = j by omega, h] at h1
  exact Option.some.inj h1
section
variable (w : World)
theorem wpList_append_RowJ {ops : Array Oper} {rest : List Oper} {o : Oper} {a : Act} {Q : Exit → Act → World → Prop} (hgd : o.guard = none)
    (sl x : Operand) (hop : o.op = Op.call { callee := Callee.builtin Builtin.append, args := #[sl, x], argTypes := #[35, 35] })
    (base : Nat) (aa : Option Addr) (n cap : Nat) (l zs : List Int) (hs : a.eval sl = .slice aa n cap) (hnn : n = l.length) (h : RowJ w base aa l cap) (hB : base ≤ w.heap.size) (hl : l.length + zs.length ≤ 1000000)
    (b off m c : Nat) (hx : a.eval x = .slice (some ⟨b, off, none⟩) m c) (hm : m = zs.length) (hc : IntsAt w (some ⟨b, off, none⟩) zs)
    (hK : ∀ a' m' cap' w', m' = n + m → RowJ w' base a' (l ++ zs) cap' → Below base w w' → wpList Tryd.prog ops Q rest (a.put o.dst (.slice a' m' cap')) w') : wpList Tryd.prog ops Q (o :: rest) a w := by
  refine wpList_plain hgd fun K hK' => ?_
  obtain ⟨i, hi, hz, hsize, hby⟩ := infoIntH
  subst hnn
  subst hm
  obtain ⟨v', w', hr, ho, hg, _⟩ := run_append_own (P := Tryd.prog) w base 35 o.type 3 i (.int .i64 0) 1 8 Tryd.underlying35 hi hz hsize hby rfl (by decide) (.slice aa l.length cap) l.length (l.map (Value.int .i64)) h ⟨b, off, none⟩ zs.length c (zs.map (Value.int .i64)) (by rw [List.length_map, Nat.mul_one])
    (fun j u hj => by
      rw [List.getElem?_map] at hj
      obtain ⟨z, hz, rfl⟩ := Option.map_eq_some_iff.1 hj
      obtain ⟨p', o', e, hcell, _⟩ := hc j z hz
      simp only [Option.some.injEq, Addr.mk.injEq, and_true] at e
      obtain ⟨rfl, rfl⟩ := e
      rw [Addr.add_lit]
      exact hcell) (fun u hu => by obtain ⟨z, _, rfl⟩ := List.mem_map.1 hu; rfl) (by unfold maxLen; omega) (by omega) hB
  have ho' : w'.ownsRow base 3 1 v' (l ++ zs).length ((l ++ zs).map (Value.int .i64)) := by
    rw [List.length_append, List.map_append]; exact ho
  have hv : ∃ a' cap', v' = .slice a' (l ++ zs).length cap' := by
    rcases ho'.2 with ⟨rfl, h2⟩ | ⟨g, cap', cur, rfl, _⟩
    · exact ⟨none, 0, by rw [h2]⟩
    · exact ⟨_, cap', rfl⟩
  obtain ⟨a', cap', rfl⟩ := hv
  have hb : Below base w w' := (Below.refl base w).grown hg hB (fun k hk => (World.ownsRow.lt h k hk).1)
  unfold Oper.wp
  simp [execOp, hop, resolve, invoke, builtin, hs, hx, hr, Result.andThen]
  have := hK a' (l.length + zs.length) cap' w' rfl ho' hb
  exact hK' _ _ this
theorem wpList_append_RowNs {ops : Array Oper} {rest : List Oper} {o : Oper} {a : Act} {Q : Exit → Act → World → Prop} (hgd : o.guard = none)
    (sl x : Operand) (hop : o.op = Op.call { callee := Callee.builtin Builtin.append, args := #[sl, x], argTypes := #[22, 22] })
    (base : Nat) (aa : Option Addr) (n cap : Nat) (l zs : List Nat) (hs : a.eval sl = .slice aa n cap) (hnn : n = l.length) (h : RowN w base aa l cap) (hB : base ≤ w.heap.size) (hl : l.length + zs.length ≤ 1000000)
    (b off m c : Nat) (hx : a.eval x = .slice (some ⟨b, off, none⟩) m c) (hm : m = zs.length) (hc : Nums w (some ⟨b, off, none⟩) zs)
    (hK : ∀ a' m' cap' w', m' = n + m → RowN w' base a' (l ++ zs) cap' → Below base w w' → wpList Tryd.prog ops Q rest (a.put o.dst (.slice a' m' cap')) w') : wpList Tryd.prog ops Q (o :: rest) a w := by
  refine wpList_plain hgd fun K hK' => ?_
  obtain ⟨i, hi, hz, hsize, hby⟩ := infoNum
  subst hnn
  subst hm
  obtain ⟨v', w', hr, ho, hg, _⟩ := run_append_own (P := Tryd.prog) w base 22 o.type 25 i _ 4 32 Tryd.underlying22 hi hz hsize hby rfl (by decide) (.slice aa l.length cap) l.length (cellsN l) h ⟨b, off, none⟩ zs.length c (cellsN zs) (cellsN_length zs)
    (fun j u hj => by
      obtain ⟨z, hz, rfl⟩ := cellsN_at zs j u hj
      obtain ⟨p', o', e, hcell, _⟩ := hc (j / 4) z hz
      simp only [Option.some.injEq, Addr.mk.injEq, and_true] at e
      obtain ⟨rfl, rfl⟩ := e
      have h1 := hcell (j % 4) (by omega)
      have e : off + j = off + j / 4 * 4 + j % 4 := by omega
      rw [Addr.add_lit, e]
      exact h1) (fun u hu => by
        obtain ⟨j, hj, e⟩ := List.getElem_of_mem hu
        obtain ⟨z, _, rfl⟩ := cellsN_at zs j u (by rw [← e]; exact List.getElem?_eq_getElem hj)
        rfl) (by unfold maxLen; omega) (by omega) hB
  have ho' : w'.ownsRow base 25 4 v' (l ++ zs).length (cellsN (l ++ zs)) := by
    rw [List.length_append, cellsN_append]; exact ho
  have hv : ∃ a' cap', v' = .slice a' (l ++ zs).length cap' := by
    rcases ho'.2 with ⟨rfl, h2⟩ | ⟨g, cap', cur, rfl, _⟩
    · exact ⟨none, 0, by rw [h2]⟩
    · exact ⟨_, cap', rfl⟩
  obtain ⟨a', cap', rfl⟩ := hv
  have hb : Below base w w' := (Below.refl base w).grown hg hB (fun k hk => (World.ownsRow.lt h k hk).1)
  unfold Oper.wp
  simp [execOp, hop, resolve, invoke, builtin, hs, hx, hr, Result.andThen]
  have := hK a' (l.length + zs.length) cap' w' rfl ho' hb
  exact hK' _ _ this
end
/-- The rest of the secret behind the first k shares. -/
def reK (s : Nat) (w p : Nat → Nat) : Nat → Nat
  | 0 => s
  | k + 1 => subM QQ (reK s w p k) (w k * p k % QQ)
theorem reK_lt {s : Nat} (hs : s < QQ) (w p : Nat → Nat) (k : Nat) : reK s w p k < QQ := by
  cases k with
  | zero => exact hs
  | succ k => exact Nat.mod_lt _ QQ_pos
theorem reK_cz (s : Nat) (w p : Nat → Nat) : ∀ k, CZ QQ (reK s w p k + joK p w k : Int) (s : Nat)
  | 0 => by
    show CZ QQ ((s : Int) + ((0 : Nat) : Int)) (s : Nat)
    exact CZ.of_eq (by simp)
  | k + 1 => by
    have ih := reK_cz s w p k
    have h1 : CZ QQ ((reK s w p (k + 1) : Nat) : Int) ((reK s w p k : Int) - ((w k * p k : Nat) : Int)) := by
      show CZ QQ (((reK s w p k + QQ - w k * p k % QQ) % QQ : Nat) : Int) _
      exact (sub_cz QQ (reK s w p k) (w k * p k % QQ) (Nat.le_of_lt (Nat.mod_lt _ QQ_pos))).trans ((CZ.refl QQ _).sub (cz_mod _ QQ))
    have h2 : CZ QQ ((joK p w (k + 1) : Nat) : Int) ((joK p w k : Int) + ((w k * p k : Nat) : Int)) := by
      rw [joK_comm]
      refine (cz_mod _ QQ).trans ?_
      rw [Int.natCast_add]
      exact (CZ.refl QQ _).add (cz_mod _ QQ)
    exact ((h1.add h2).trans (CZ.of_eq (by omega))).trans ih
theorem not_dvd_pow {c : Int} (h : ¬ (QQ : Int) ∣ c) : ∀ k : Nat, ¬ (QQ : Int) ∣ c ^ k
  | 0, hd => by
    rw [Int.pow_zero] at hd
    have h1 : QQ ∣ 1 := Int.natCast_dvd_natCast.1 hd
    have h2 := Nat.le_of_dvd (by decide) h1
    have h3 := FM_Q.pos
    omega
  | k + 1, hd => by
    rw [Int.pow_succ] at hd
    rcases primeZ_of prime_Q _ _ hd with g | g
    · exact not_dvd_pow h k g
    · exact h g
theorem wAt_ne {l : List Int} (hP : NodesP l) {k : Nat} (hk : k < l.length) : ¬ (QQ : Int) ∣ ((wAt l 0 k : Nat) : Int) := fun hd => by
  have h := wAt_cz hP 0 hk
  have hd2 : (QQ : Int) ∣ wtI QQ ((0 : Nat) : Int) ((l[k]'hk).toNat : Nat) (ints (othN (nsL l) (l[k]'hk).toNat)) := by
    obtain ⟨a, ha⟩ := hd
    obtain ⟨b, hb⟩ := h
    exact ⟨a - b, by rw [Int.mul_sub]; omega⟩
  have hm : (l[k]'hk).toNat ∈ nsL l := List.mem_map.2 ⟨_, List.getElem_mem hk, rfl⟩
  have hzero : ¬ (QQ : Int) ∣ prodV ((0 : Nat) : Int) (ints (othN (nsL l) (l[k]'hk).toNat)) := prodV_ne prime_Q _ _ (fun o ho => by
    obtain ⟨m, hm', rfl⟩ := ints_mem ho
    have h1 := mem_oth.1 hm'
    obtain ⟨z, hz, e⟩ := List.mem_map.1 h1.1
    have h2 := hP.1 z hz
    exact apart_nodes QQ_pos (nsL_lt hP _ h1.1) (by omega))
  have hown : ¬ (QQ : Int) ∣ prodV (((l[k]'hk).toNat : Nat) : Int) (ints (othN (nsL l) (l[k]'hk).toNat)) := prodV_ne prime_Q _ _ (fun o ho => by
    obtain ⟨m, hm', rfl⟩ := ints_mem ho
    have h1 := mem_oth.1 hm'
    exact apart_nodes (nsL_lt hP _ hm) (nsL_lt hP _ h1.1) (fun c => h1.2 c.symm))
  unfold wtI at hd2
  rcases primeZ_of prime_Q _ _ hd2 with g | g
  · exact hzero g
  · exact not_dvd_pow hown _ g
theorem joK_congr {s s' w : Nat → Nat} : ∀ k, (∀ j, j < k → s j = s' j) → joK s w k = joK s' w k
  | 0, _ => rfl
  | k + 1, h => by
    show (joK s w k + s k * w k % QQ) % QQ = (joK s' w k + s' k * w k % QQ) % QQ
    rw [joK_congr k (fun j hj => h j (by omega)), h k (by omega)]
theorem hides {l : List Int} {p : List Nat} {s v n : Nat} (hP : NodesP l) (hl : l.length = n + 1) (hp : p.length = n) (hs : s < QQ) (hv : v = reK s (wAt l 0) (fun i => p[i]?.getD 0) n * (wAt l 0 n ^ (QQ - 2) % QQ) % QQ) : joV l (p ++ [v]) 0 = s := by
  unfold joV
  rw [hl]
  refine cz_eq (joK_lt _ _ _) hs ?_
  have h1 := reK_cz s (wAt l 0) (fun i => p[i]?.getD 0) n
  have e1 : joK (fun i => (p ++ [v])[i]?.getD 0) (wAt l 0) n = joK (fun i => p[i]?.getD 0) (wAt l 0) n := joK_congr n (fun j hj => by
    show (p ++ [v])[j]?.getD 0 = p[j]?.getD 0
    rw [List.getElem?_append_left (by omega)])
  have e2 : (p ++ [v])[n]?.getD 0 = v := by
    rw [List.getElem?_append_right (by omega), hp, Nat.sub_self]; rfl
  show CZ QQ ((joK (fun i => (p ++ [v])[i]?.getD 0) (wAt l 0) n + (p ++ [v])[n]?.getD 0 * wAt l 0 n % QQ) % QQ : Nat) _
  rw [e1, e2]
  refine (cz_mod _ QQ).trans ?_
  rw [Int.natCast_add]
  obtain ⟨R, hR⟩ : ∃ R, R = reK s (wAt l 0) (fun i => p[i]?.getD 0) n := ⟨_, rfl⟩
  obtain ⟨J, hJ⟩ : ∃ J, J = joK (fun i => p[i]?.getD 0) (wAt l 0) n := ⟨_, rfl⟩
  obtain ⟨W, hW⟩ : ∃ W, W = wAt l 0 n := ⟨_, rfl⟩
  rw [← hR, ← hJ] at h1
  rw [← hR, ← hW] at hv
  rw [← hJ, ← hW]
  have hf := fermatZ prime_Q (W : Int) (by rw [hW]; exact wAt_ne hP (by omega))
  have h3 : CZ QQ ((v * W % QQ : Nat) : Int) (R : Int) := by
    refine (cz_mod _ QQ).trans ?_
    rw [Int.natCast_mul]
    have h4 : CZ QQ (v : Int) ((R : Int) * (W : Int) ^ (QQ - 2)) := by
      rw [hv]
      refine (cz_mod _ QQ).trans ?_
      rw [Int.natCast_mul]
      refine (CZ.refl QQ _).mul ((cz_mod _ QQ).trans (CZ.of_eq ?_))
      rw [Int.natCast_pow]
    refine (h4.mul (CZ.refl QQ (W : Int))).trans ?_
    generalize (W : Int) ^ (QQ - 2) = X at *
    have h5 := (CZ.refl QQ (R : Int)).mul hf
    refine CZ.trans (CZ.of_eq ?_) (h5.trans (CZ.of_eq (Int.mul_one _)))
    rw [Int.mul_assoc, Int.mul_comm X]
  refine CZ.trans ((CZ.refl QQ (J : Int)).add h3) ?_
  exact CZ.trans (CZ.of_eq (Int.add_comm _ _)) h1
end Go.Proofs.YtcdiehnkknmbeaaDoor
