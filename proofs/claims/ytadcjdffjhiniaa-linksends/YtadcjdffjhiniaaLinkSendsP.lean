/- The statement LinkSends holds: at every input the law answers true, and each argument reads as it did; no conditions. -/
import Derived.Test.YtadcjdffjhiniaaLkT
import Derived.Test.YtadcjdffjhiniaaOpenS
import Derived.Test.YtadcjdffjhiniaaFrameK
import Derived.Test.YtadcjdffjhiniaaSliceK
import Derived.Lib.SmallJoins
namespace Go.Proofs.Ytadcjdffjhiniaa
open Go Go.ChangeShapes Go.WideShapes Go.ChangeAt Go.RowKit
open Go.ChangeMaps (open_string shut_string)

theorem linkSends_any (x : Int) (a0 : Option Addr) (p o n cap : Nat) (ha : 0 < n → a0 = some ⟨p, o, none⟩) (w : World) (hS : SendsAt w p o n) :
    Calls Try.prog 3 #[.int .i64 x, .slice a0 n cap] w fun e w' => e = .returned (.bool true) ∧ Below w.heap.size w w' := by
  by_cases hl : 1 ≤ x ∧ x ≤ 1099511627776
  · obtain ⟨l, rfl⟩ : ∃ l : Nat, x = (l : Nat) := ⟨x.toNat, by omega⟩
    by_cases hn : n ≤ 300
    · exact linkSends_in l (by omega) a0 p o n cap ha hn w hS
    · exact linkSends_long l (by omega) a0 n cap (by omega) w
  · exact linkSends_no x hl _ w
set_option maxRecDepth 100000 in
theorem open_sends {H : Type} {enc : TypeId × Value → H} {W : World} {base : Nat} {v : Value} {d : DataW H} {p : List MemPlace} {ts : List TypeId} {ds : List (DataW H)} {j : Nat}
    (hv : Value.okWide Try.prog W .any base 22 v) (h : DataW.Trod enc Try.prog W 0 (fun _ => true) true 22 v d p)
    (hsz : (DataW.weightsEach Try.prog ts ds).all (· ≤ reachBytes) = true) (ht : ts[j]? = some 22) (hd : ds[j]? = some d) :
    ∃ (a : Option Addr) (n cap q o : Nat), v = .slice a n cap ∧ (0 < n → a = some ⟨q, o, none⟩) ∧ SendsAt W q o n := by
  obtain ⟨a0, len, cap, rfl⟩ := okWide_slice Try.underlying22 hv
  obtain ⟨fuel, hf⟩ := h
  rcases DataW.trod_slice Try.underlying22 hf with ⟨hcs, hx⟩ | ⟨a, len', cap', elems, rest, n, _, hcs, hx, hb, hl, hm, hlen, hel, _⟩
  · simp [Value.cells] at hcs
    obtain ⟨rfl, rfl, rfl⟩ := hcs
    exact ⟨none, 0, 0, 0, 0, rfl, fun h => absurd h (by decide), fun j hj => absurd hj (by omega)⟩
  · simp [Value.cells] at hcs
    obtain ⟨rfl, rfl, rfl⟩ := hcs
    simp only [Prod.mk.injEq] at hx
    obtain ⟨rfl, rfl⟩ := hx
    have cz : Try.prog.cellsOf 33 = 2 := by kernel_rfl
    have ci : Try.prog.cellsOf 3 = 1 := by kernel_rfl
    have cs : Try.prog.cellsOf 9 = 1 := by kernel_rfl
    have key : ∀ i, i < len → ∃ (X : Int) (s : ByteArray), W.cell? (a.add (i * 2) |>.add 0) = some (.int .i64 X) ∧ W.cell? (a.add (i * 2) |>.add 1) = some (.string s) ∧ s.size < 140737488351233 := by
      intro i hi
      have hi' : i < elems.length := by omega
      have h1 := hel i hi
      rw [cz, List.getElem?_eq_getElem hi', Option.bind_eq_some_iff] at h1
      obtain ⟨l, hl1, hl2⟩ := h1
      obtain ⟨g1, g2⟩ := cells?_get hl1
      obtain ⟨y0, y1, m, hy, _, t0, t1⟩ := trod_struct2 Try.underlying33 hl2
      match l, g1 with
      | [c0, c1], _ =>
        simp [ci, cs] at t0 t1
        obtain ⟨x0, e0, rfl, _⟩ := DataW.trod_int Try.underlying3 t0
        obtain ⟨x1, e1, rfl, _⟩ := DataW.trod_string Try.underlying9 t1
        obtain rfl : c0 = .int .i64 x0 := by simpa using e0
        obtain rfl : c1 = .string x1 := by simpa using e1
        refine ⟨x0, x1, g2 0 (by omega), g2 1 (by omega), ?_⟩
        have hmem : (elems[i]'hi').1 ∈ elems.map (·.1) := List.mem_map.2 ⟨_, List.getElem_mem hi', rfl⟩
        have h := sized_in hsz (j := j) (t := 22) (e := 33) (k := x1.data.toList.length) ht hd Try.underlying22 hmem (by
          rw [hy]
          simp [DataW.weights, Try.underlying33, DataW.weightsEach])
        have e : x1.data.toList.length = x1.size := (Lib.size_eq x1).symm
        rw [e] at h
        exact Nat.lt_succ_of_le h
    rcases Nat.eq_zero_or_pos len with hl0 | hl0
    · subst hl0
      exact ⟨some a, 0, cap, 0, 0, rfl, fun h => absurd h (by decide), fun j hj => absurd hj (by omega)⟩
    · obtain ⟨b, off, spot⟩ := a
      have hspot : spot = none := by
        obtain ⟨_, _, h, _⟩ := key 0 hl0
        simpa [Addr.add] using World.cell?_spot h
      subst hspot
      refine ⟨_, len, cap, b, off, rfl, fun _ => rfl, fun i hi => ?_⟩
      obtain ⟨X, s, q0, q1, q4⟩ := key i hi
      rw [add_plain, add_plain] at q0 q1
      exact ⟨X, s, q0, q1, q4, cell_in q0⟩
set_option maxRecDepth 100000 in
theorem linkSends_lifted (os : Os) (started : os.Started) (H : Type) (enc : TypeId × Value → H) :
    ReturnsInHanded {} Try.checked os 3 .any (Rows.linkSendsSpec.pre6 enc Try.prog Try.f3 Rows.linkSendsRow.domain false) (Rows.linkSendsSpec.post enc Try.prog Try.f3 false true false false) := by
  refine returnsInHanded_of_change_sized (C := Try.checked) Try.own started (by kernel_rfl) Try.func3
    (ChangeSpec.witness6 (enc := enc) (C := Try.checked) false ⟨#[], #[.int .i64 0, .slice none 0 0], []⟩ 8 (by kernel_rfl) (by kernel_rfl) (by kernel_rfl) (by kernel_rfl)) ?_
  intro W base args ds gs before hval0 hW _ hsz0 _
  have hsz : (DataW.weightsEach Try.prog (Try.f3.params.toList ++ Rows.linkSendsSpec.plain.varTypes Try.prog) (ds ++ gs)).all (· ≤ reachBytes) = true := hsz0
  clear hsz0
  have hval : ∀ (j : Nat) t v, Try.f3.params[j]? = some t → args[j]? = some v → Value.okWide Try.prog W .any base t v := hval0
  have hW' := hW
  obtain ⟨p, q, hA0, hV, rfl, hfz, hnd⟩ := hW
  have hA : DataW.TrodAll enc Try.prog W 0 (fun _ => true) true Try.f3.params.toList args.toList ds p := hA0
  rw [Try.params3] at hA hval hsz
  obtain ⟨v0, v1, d0, d1, p0, p1, rfl, rfl, rfl, h0, h1⟩ := trodAll_two hA
  obtain ⟨rfl, rfl⟩ := trodVars_none hV
  have k0 := h0
  have k1 := h1
  simp only [List.append_nil] at hW'
  have hlt : ∀ x ∈ p0 ++ p1, x.block < W.heap.size := fun x hx => by simpa using hW'.lt x hx
  have r0 : ∀ (W' : World), Below W.heap.size W W' → DataW.Trod enc Try.prog W' 0 (fun b => decide (b < W.heap.size)) true 3 v0 d0 p0 :=
    fun W' hn => Below.trod (by kernel_rfl) (by kernel_rfl) (of_decide_eq_true (by kernel_rfl)) k0 hn (fun x hx => hlt x (List.mem_append.2 (.inl hx)))
  have r1 : ∀ (W' : World), Below W.heap.size W W' → DataW.Trod enc Try.prog W' 0 (fun b => decide (b < W.heap.size)) true 22 v1 d1 p1 :=
    fun W' hn => Below.trod (by kernel_rfl) (by kernel_rfl) (of_decide_eq_true (by kernel_rfl)) k1 hn (fun x hx => hlt x (List.mem_append.2 (.inr hx)))
  clear hlt
  obtain ⟨x0, rfl, rfl, rfl, h0x⟩ := open_int Try.underlying3 (hval 0 3 v0 rfl rfl) h0
  obtain ⟨a1, n1, c1, q1, o1, rfl, A1, S1⟩ := open_sends (hval 1 22 v1 rfl rfl) h1 hsz (j := 1) rfl rfl
  clear hA0 hval0
  refine (linkSends_any x0 a1 q1 o1 n1 c1 A1 W S1).mono fun e W' ⟨he, hg⟩ => ?_
  subst he
  exact ⟨_, rfl, _, _, _, [], _, [], hW', trodAll_mk1 (shut_bool Try.underlying4 _), trodAll_mk2 (r0 _ hg) (r1 _ hg), rfl, hg.frame _, fun h => by cases h⟩

theorem linkSends_holds : Rows.LinkSendsSaid :=
  OpenClaim.holds_of_wide 3 Try.f3 rfl rfl rfl rfl rfl rfl rfl ⟨rfl, rfl, rfl, rfl, rfl⟩ rfl rfl rfl rfl rfl (by kernel_rfl) Try.func3 (by kernel_rfl)
    (of_decide_eq_true (by kernel_rfl)) (by unfold Func.isWrapper; first | (rw [if_pos (by decide +kernel)]; kernel_rfl) | (rw [if_neg (by decide +kernel)]; exact ⟨rfl, rfl⟩))
    (fun os started H enc _ => linkSends_lifted os started H enc)
end Go.Proofs.Ytadcjdffjhiniaa
