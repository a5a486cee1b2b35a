/- Package disk: a crash. -/
import Derived.Test.YtlcinkhgjjpmmaaDkF
namespace Go.Proofs.Ytlcinkhgjjpmmaa
open Go Go.RowKit Go.Lib

set_option maxHeartbeats 1000000 in
theorem fcrash_no (g : Nat) (P : Nat → Prop) (m : Nat) (k q : Int) (bs : ByteArray) (hm : m ≤ bs.size) (hz : bs.size ≤ 1048576) (hn : k < 0 ∨ (bs.size : Int) - (m : Int) < k ∨ q < 0 ∨ 255 < q) (w : World) (hF : FileAt w g P m bs) :
    Calls Try.prog 13 #[.pointer (some ⟨g, 0, none⟩), .int .i64 k, .int .i64 q] w fun e w' => e = .returned (.int .i64 1) ∧ FileAt w' g P m bs ∧ But g P w w' := by
  have HF : Hid (FileAt w g P m bs) := hF
  obtain ⟨a, cap, c0, c1, fz, hg, hB, hR⟩ := hF
  clear fz hg hB hR
  have m0 : (m : Int) ≤ (bs.size : Int) := by omega
  have z0 : (bs.size : Int) ≤ 1048576 := by omega
  by_cases h0 : k < 0
  · clear hn hm hz
    have d0 : decide (k < 0) = true := decide_eq_true h0
    go_enter Try.func13, Try.ntmps13
    go_wp2
    go_quiet (fail)
    go_wp2
    go_ret
    exact ⟨rfl, HF.out.drewN, (But.refl _ _ _).drewN⟩
  · have d0 : decide (k < 0) = false := decide_eq_false h0
    by_cases h1 : (bs.size : Int) - (m : Int) < k
    · have d1 : decide ((bs.size : Int) - (m : Int) < k) = true := decide_eq_true h1
      clear hn hm hz
      go_enter Try.func13, Try.ntmps13
      go_wp2
      go_quiet (fail)
      go_wp2
      go_ret
      exact ⟨rfl, HF.out.drewN, (But.refl _ _ _).drewN⟩
    · have d1 : decide ((bs.size : Int) - (m : Int) < k) = false := decide_eq_false h1
      by_cases h2 : q < 0
      · have d2 : decide (q < 0) = true := decide_eq_true h2
        clear hn hm hz
        go_enter Try.func13, Try.ntmps13
        go_wp2
        go_quiet (fail)
        go_wp2
        go_ret
        exact ⟨rfl, HF.out.drewN, (But.refl _ _ _).drewN⟩
      · have d2 : decide (q < 0) = false := decide_eq_false h2
        have h3 : 255 < q := by omega
        have d3 : decide (255 < q) = true := decide_eq_true h3
        clear hn hm hz
        go_enter Try.func13, Try.ntmps13
        go_wp2
        go_quiet (fail)
        go_wp2
        go_ret
        exact ⟨rfl, HF.out.drewN, (But.refl _ _ _).drewN⟩

section
variable {P : Program} (w : World)
/-- append of a slice that is there. -/
theorem run_append_RowB_slice (F : Nat → Prop) (t ty e : TypeId) (i : TypeInfo) (ht : P.underlying t = some (.slice e)) (hi : P.info? e = some i) (hz : i.zero = some (.int .u8 0))
    (hsize : i.size = 1) (hby : i.bytes = 1) (a : Option Addr) (cap : Nat) (bs s : ByteArray) (h : RowB w F a bs cap) (hn : bs.size + s.size ≤ 140737488355328) (hB : ∀ k, w.heap.size ≤ k → F k)
    (ad : Addr) (c : Nat) (hc : ∀ j u, (strCells s)[j]? = some u → w.cell? (ad.add j) = some u) :
    ∃ a' cap' w', (Builtin.append_ #[t, t] ty #[.slice a bs.size cap, .slice (some ad) s.size c]).run P w = .ok (.slice a' (bs.size + s.size) cap') w' ∧ RowB w' F a' (bs ++ s) cap' ∧ Off F w w' := by
  have h63 : bs.size + s.size ≤ maxLen := by unfold maxLen; omega
  have hl : (strCells s).length = s.size * 1 := by rw [strCells_length]; omega
  rcases h with ⟨rfl, h1, rfl⟩ | ⟨b, rfl, h2, h3, h4, h5, h6, h7, h8⟩
  · rw [h1]
    have hx : strCells bs = [] := List.eq_nil_of_length_eq_zero (by rw [strCells_length]; exact h1)
    obtain ⟨v', w', hr, ho, hg, _⟩ := run_append_own (P := P) w w.heap.size t ty e i (.int .u8 0) 1 1 ht hi hz hsize hby rfl (by decide) (.slice none 0 0) 0 [] (World.ownsRow_nil w w.heap.size e 1) ad s.size c (strCells s) hl hc (strCells_oneCell s) (by omega) (by omega) (Nat.le_refl _)
    have ho' : w'.ownsRow w.heap.size e 1 v' (0 + s.size) (strCells (bs ++ s)) := by rw [strCells_append, hx]; exact ho
    obtain ⟨a', cap', rfl, hR⟩ := RowB.of_owns ho' hB
    exact ⟨a', cap', w', hr, hR, Off.of_below ((Below.refl w.heap.size w).grown hg (Nat.le_refl _) (fun k hk => by simp [Value.ownBlock] at hk)) hB⟩
  · by_cases hroom : bs.size + s.size ≤ cap
    · have hr := run_append_room_cells (P := P) w t ty e i ht hi b 0 bs.size cap ad s.size c (strCells s) (by rw [hsize]; exact hl) hc (strCells_oneCell s) hroom (fun j hj => by rw [strCells_length] at hj; exact h7 _ (by rw [hsize]; omega)) (fun j _ => h8 _)
      rw [hsize, Nat.zero_add, Nat.mul_one] at hr
      refine ⟨some ⟨b, 0, none⟩, cap, _, hr, .inr ⟨b, rfl, h2, by rw [size_setCells]; exact h3, by rw [ByteArray.size_append]; exact hroom, h5, fun j v hj => ?_, fun j hj => ?_, fun j => by rw [World.frozen?_setCells]; exact h8 j⟩, ?_⟩
      · rw [strCells_append, List.getElem?_append] at hj
        split at hj
        · next c =>
          rw [strCells_length] at c
          rw [World.cell?_setCells_out b _ _ w _ (fun _ _ => .inl c)]
          exact h6 j v hj
        · next c =>
          rw [strCells_length] at c hj
          have hj' : j - bs.size < (strCells s).length := by
            rcases Nat.lt_or_ge (j - bs.size) (strCells s).length with q | q
            · exact q
            · rw [List.getElem?_eq_none q] at hj; cases hj
          have k := World.cell?_setCells_in b (strCells s) bs.size w (fun i hi => by rw [strCells_length] at hi; exact h7 _ (by omega)) (j - bs.size) hj'
          rw [show bs.size + (j - bs.size) = j from by omega] at k
          rw [k, ← List.getElem?_eq_getElem, hj]
      · rcases Nat.lt_or_ge j bs.size with c | c
        · rw [World.cell?_setCells_out b _ _ w _ (fun _ _ => .inl c)]; exact h7 j hj
        · rcases Nat.lt_or_ge j (bs.size + s.size) with c2 | c2
          · have k := World.cell?_setCells_in b (strCells s) bs.size w (fun i hi => by rw [strCells_length] at hi; exact h7 _ (by omega)) (j - bs.size) (by rw [strCells_length]; omega)
            rw [show bs.size + (j - bs.size) = j from by omega] at k
            rw [k]; rfl
          · rw [World.cell?_setCells_out b _ _ w _ (fun _ _ => .inr (by rw [strCells_length]; exact c2))]; exact h7 j hj
      · obtain ⟨e1, e2, e3⟩ := os_setCells b (strCells s) bs.size w
        exact ⟨e1, e2, e3, by rw [size_setCells]; exact Nat.le_refl _, fun k hk => heap_setCells b k (fun c => hk (c ▸ h2)) _ _ _⟩
    · obtain ⟨v', w', hr, ho, hg⟩ := run_append_arg_grows (P := P) w t ty e i (.int .u8 0) 1 1 ht hi hz hsize hby rfl (by decide) ⟨b, 0, none⟩ bs.size cap (strCells bs) (by rw [strCells_length]; omega) (fun j v hj => by rw [Addr.add_lit]; simpa using h6 j v hj) ad s.size c (strCells s) hl hc (by omega) h63 (by omega)
      rw [← strCells_append] at ho
      obtain ⟨a', cap', rfl, hR⟩ := RowB.of_owns ho hB
      exact ⟨a', cap', w', hr, hR, Off.of_below ((Below.refl w.heap.size w).grown hg (Nat.le_refl _) (fun k hk => by cases hk)) hB⟩
theorem owp_append_RowB {o : Oper} {a : Act} {K : Act → World → Prop} {Q : Exit → Act → World → Prop}
    (sl x : Operand) (t : TypeId) (hop : o.op = Op.call { callee := Callee.builtin Builtin.append, args := #[sl, x], argTypes := #[t, t] })
    (F : Nat → Prop) (e : TypeId) (i : TypeInfo) (ht : P.underlying t = some (.slice e)) (hi : P.info? e = some i) (hz : i.zero = some (.int .u8 0))
    (hsize : i.size = 1) (hby : i.bytes = 1) (aa : Option Addr) (n cap : Nat) (bs s : ByteArray) (hs : a.eval sl = .slice aa n cap) (hnn : n = bs.size) (h : RowB w F aa bs cap) (hn : bs.size + s.size ≤ 140737488355328) (hB : ∀ k, w.heap.size ≤ k → F k)
    (ad : Addr) (c m : Nat) (hx : a.eval x = .slice (some ad) m c) (hm : m = s.size) (hc : ∀ j u, (strCells s)[j]? = some u → w.cell? (ad.add j) = some u)
    (hK : ∀ a' m' cap' w', m' = n + s.size → RowB w' F a' (bs ++ s) cap' → Off F w w' → K (a.put o.dst (.slice a' m' cap')) w') : Oper.wp P o a w K Q := by
  subst hnn hm
  obtain ⟨a', cap', w', hr, h2, h3⟩ := run_append_RowB_slice (P := P) w F t o.type e i ht hi hz hsize hby aa cap bs s h hn hB ad c hc
  unfold Oper.wp
  simp [execOp, hop, resolve, invoke, builtin, hs, hx, hr, Result.andThen]
  exact hK _ _ _ _ rfl h2 h3
end
end Go.Proofs.Ytlcinkhgjjpmmaa
