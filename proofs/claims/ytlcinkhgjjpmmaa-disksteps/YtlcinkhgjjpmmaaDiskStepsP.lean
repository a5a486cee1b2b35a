/- The statement DiskSteps holds: at every input the law answers true, and each argument reads as it did; no conditions. -/
import Derived.Test.YtlcinkhgjjpmmaaDkX
import Derived.Test.YtlcinkhgjjpmmaaFrameK
import Derived.Test.YtlcinkhgjjpmmaaSliceK
namespace Go.Proofs.Ytlcinkhgjjpmmaa
open Go Go.ChangeShapes Go.WideShapes Go.ChangeAt Go.RowKit

theorem add_plain (b o j : Nat) : (⟨b, o, none⟩ : Addr).add j = ⟨b, o + j, none⟩ := by unfold Addr.add; split <;> simp_all
set_option maxRecDepth 100000 in
theorem diskSteps_lifted (os : Os) (started : os.Started) (H : Type) (enc : TypeId × Value → H) :
    ReturnsInHanded {} Try.checked os 3 .any (Rows.diskStepsSpec.pre6 enc Try.prog Try.f3 Rows.diskStepsRow.domain false) (Rows.diskStepsSpec.post enc Try.prog Try.f3 false true false false) := by
  refine returnsInHanded_of_change_sized (C := Try.checked) Try.own started (by kernel_rfl) Try.func3
    (ChangeSpec.witness6 (enc := enc) (C := Try.checked) false ⟨#[], #[.slice none 0 0], []⟩ 8 (by kernel_rfl) (by kernel_rfl) (by kernel_rfl) (by kernel_rfl)) ?_
  intro W base args ds gs before hval0 hW _ hsz0 _
  have hsz : (DataW.weightsEach Try.prog (Try.f3.params.toList ++ Rows.diskStepsSpec.plain.varTypes Try.prog) (ds ++ gs)).all (· ≤ reachBytes) = true := hsz0
  clear hsz0
  have hval : ∀ (j : Nat) t v, Try.f3.params[j]? = some t → args[j]? = some v → Value.okWide Try.prog W .any base t v := hval0
  have hW' := hW
  obtain ⟨p, q, hA0, hV, rfl, hfz, hnd⟩ := hW
  have hA : DataW.TrodAll enc Try.prog W 0 (fun _ => true) true Try.f3.params.toList args.toList ds p := hA0
  rw [Try.params3] at hA hval hsz
  obtain ⟨v0, d0, rfl, rfl, h0⟩ := trodAll_one hA
  obtain ⟨rfl, rfl⟩ := trodVars_none hV
  have k0 := h0
  simp only [List.append_nil] at hW'
  have hlt : ∀ x ∈ p, x.block < W.heap.size := fun x hx => by simpa using hW'.lt x hx
  have r0 : ∀ (W' : World), Below W.heap.size W W' → DataW.Trod enc Try.prog W' 0 (fun b => decide (b < W.heap.size)) true 22 v0 d0 p :=
    fun W' hn => Below.trod (by kernel_rfl) (by kernel_rfl) (of_decide_eq_true (by kernel_rfl)) k0 hn (fun x hx => hlt x hx)
  have fin : ∀ e W', (e = Ending.returned (.bool true) ∧ Below W.heap.size W W') → ∃ v, e = Ending.returned v ∧ Rows.diskStepsSpec.post enc Try.checked.prog Try.f3 false true false false W #[v0] v W' := by
    rintro e W' ⟨rfl, hg⟩
    exact ⟨_, rfl, _, _, _, [], p, [], hW', trodAll_mk1 (shut_bool Try.underlying4 _), trodAll_mk1 (r0 _ hg), rfl, hg.frame _, fun h => by cases h⟩
  clear hlt r0 hA0 hval0
  obtain ⟨a0, len, cap, rfl⟩ := okWide_slice Try.underlying22 (hval 0 22 v0 rfl rfl)
  obtain ⟨fuel, hf⟩ := h0
  rcases DataW.trod_slice Try.underlying22 hf with ⟨hcs, hx⟩ | ⟨a, len', cap', elems, rest, n, _, hcs, hx, hb, hl, hm, hlen, hel, _⟩
  · simp [Value.cells] at hcs
    obtain ⟨rfl, rfl, rfl⟩ := hcs
    exact (diskSteps_in none 0 0 0 0 (fun h => absurd h (by decide)) (by decide) W (fun j hj => absurd hj (by omega))).mono fin
  · simp [Value.cells] at hcs
    obtain ⟨rfl, rfl, rfl⟩ := hcs
    simp only [Prod.mk.injEq] at hx
    obtain ⟨rfl, rfl⟩ := hx
    rcases Nat.lt_or_ge 300 len with c | c
    · exact (diskSteps_long (some a) len cap c W).mono fin
    · have cz : Try.prog.cellsOf 30 = 4 := by kernel_rfl
      have ci : Try.prog.cellsOf 3 = 1 := by kernel_rfl
      have cs : Try.prog.cellsOf 9 = 1 := by kernel_rfl
      have key : ∀ j, j < len → ∃ (X N M : Int) (s : ByteArray), W.cell? (a.add (j * 4) |>.add 0) = some (.int .i64 X) ∧ W.cell? (a.add (j * 4) |>.add 1) = some (.int .i64 N) ∧ W.cell? (a.add (j * 4) |>.add 2) = some (.int .i64 M) ∧ W.cell? (a.add (j * 4) |>.add 3) = some (.string s) ∧ s.size < 140737488351233 := by
        intro j hj
        have hj' : j < elems.length := by omega
        have h1 := hel j hj
        rw [cz, List.getElem?_eq_getElem hj', Option.bind_eq_some_iff] at h1
        obtain ⟨l, hl1, hl2⟩ := h1
        obtain ⟨g1, g2⟩ := cells?_get hl1
        obtain ⟨y0, y1, y2, y3, m, hy, _, t0, t1, t2, t3⟩ := Go.Joins.trod_struct4 Try.underlying30 hl2
        match l, g1 with
        | [c0, c1, c2, c3], _ =>
          simp [ci, cs] at t0 t1 t2 t3
          obtain ⟨x0, e0, rfl, _⟩ := DataW.trod_int Try.underlying3 t0
          obtain ⟨x1, e1, rfl, _⟩ := DataW.trod_int Try.underlying3 t1
          obtain ⟨x2, e2, rfl, _⟩ := DataW.trod_int Try.underlying3 t2
          obtain ⟨x3, e3, rfl, _⟩ := DataW.trod_string Try.underlying9 t3
          obtain rfl : c0 = .int .i64 x0 := by simpa using e0
          obtain rfl : c1 = .int .i64 x1 := by simpa using e1
          obtain rfl : c2 = .int .i64 x2 := by simpa using e2
          obtain rfl : c3 = .string x3 := by simpa using e3
          refine ⟨x0, x1, x2, x3, g2 0 (by omega), g2 1 (by omega), g2 2 (by omega), g2 3 (by omega), ?_⟩
          have hmem : (elems[j]'hj').1 ∈ elems.map (·.1) := List.mem_map.2 ⟨_, List.getElem_mem hj', rfl⟩
          have h := sized_in hsz (j := 0) (t := 22) (e := 30) (k := x3.data.toList.length) rfl rfl Try.underlying22 hmem (by
            rw [hy]
            simp [DataW.weights, Try.underlying30, DataW.weightsEach])
          have e : x3.data.toList.length = x3.size := (Lib.size_eq x3).symm
          rw [e] at h
          exact Nat.lt_succ_of_le h
      rcases Nat.eq_zero_or_pos len with hl0 | hl0
      · subst hl0
        exact (diskSteps_in (some a) 0 0 0 cap (fun h => absurd h (by decide)) (by decide) W (fun j hj => absurd hj (by omega))).mono fin
      · obtain ⟨b, off, spot⟩ := a
        have hspot : spot = none := by
          obtain ⟨_, _, _, _, h, _⟩ := key 0 hl0
          simpa [Addr.add] using World.cell?_spot h
        subst hspot
        refine (diskSteps_in _ b off len cap (fun _ => rfl) c W (fun j hj => ?_)).mono fin
        obtain ⟨X, N, M, s, q0, q1, q2, q3, q4⟩ := key j hj
        rw [add_plain, add_plain] at q0 q1 q2 q3
        exact ⟨X, N, M, s, q0, q1, q2, q3, q4, cell_in q0⟩

theorem diskSteps_holds : Rows.DiskStepsSaid :=
  OpenClaim.holds_of_wide 3 Try.f3 rfl rfl rfl rfl rfl rfl rfl ⟨rfl, rfl, rfl, rfl, rfl⟩ rfl rfl rfl rfl rfl (by kernel_rfl) Try.func3 (by kernel_rfl)
    (of_decide_eq_true (by kernel_rfl)) (by unfold Func.isWrapper; first | (rw [if_pos (by decide +kernel)]; kernel_rfl) | (rw [if_neg (by decide +kernel)]; exact ⟨rfl, rfl⟩))
    (fun os started H enc _ => diskSteps_lifted os started H enc)
end Go.Proofs.Ytlcinkhgjjpmmaa
