/- The statement LinkOnce holds: at every input the law answers true, and each argument reads as it did; no conditions. -/
import Derived.Test.YtadcjdffjhiniaaLkX
import Derived.Test.YtadcjdffjhiniaaOpenS
import Derived.Test.YtadcjdffjhiniaaFrameK
import Derived.Test.YtadcjdffjhiniaaSliceK
import Derived.Lib.SmallJoins
namespace Go.Proofs.Ytadcjdffjhiniaa
open Go Go.ChangeShapes Go.WideShapes Go.ChangeAt Go.RowKit
open Go.ChangeMaps (open_string shut_string)

set_option maxRecDepth 100000 in
set_option maxHeartbeats 4000000 in
theorem linkOnce_long (a : Option Addr) (n cap : Nat) (hn : 200 < n) (w : World) : Calls Try.prog 5 #[.slice a n cap] w fun e w' => e = .returned (.bool true) ∧ Below w.heap.size w w' := by
  have K1 : Hid (∀ w : World, Calls Try.prog 8 #[.int .i64 1] w fun e w' => e = .returned (.tuple #[.pointer (some ⟨w.heap.size, 0, none⟩), .int .i64 0]) ∧ SenderAt w' w.heap.size (From (w.heap.size + 1)) 1 0 [] ∧ Below w.heap.size w w' ∧ w'.heap.size = w.heap.size + 1) := fun w : World => newSender_in 1 (by decide) w
  have K2 : Hid _ := fun w : World => ltwo_any w
  have K3 : Hid _ := fun w : World => newTaker_any w
  have n1 : (200 : Int) < (n : Int) := by omega
  clear hn
  go_enter Try.func5, Try.ntmps5
  go_wp2_with fail
  refine (K1.out _).mono ?_
  rintro e w1 ⟨rfl, -, hb1, -⟩
  have H1 : Hid _ := hb1
  clear hb1
  go_wp2_with fail
  refine (K3.out _).mono ?_
  rintro e w3 ⟨rfl, -, hb3, -⟩
  have H3 : Hid _ := below_call0 H1.out hb3
  clear hb3
  go_wp2_with fail
  refine (K2.out _).mono ?_
  rintro e w2 ⟨rfl, hb2⟩
  have H2 : Hid _ := below_call0 H3.out hb2
  clear hb2
  go_wp2_with fail
  go_ret
  exact ⟨rfl, H2.out⟩
theorem linkOnce_any (a0 : Option Addr) (p o n cap : Nat) (ha : 0 < n → a0 = some ⟨p, o, none⟩) (w : World) (hS : NetsAt w p o n) :
    Calls Try.prog 5 #[.slice a0 n cap] w fun e w' => e = .returned (.bool true) ∧ Below w.heap.size w w' := by
  by_cases hn : n ≤ 200
  · exact linkOnce_in a0 p o n cap ha hn w hS
  · exact linkOnce_long a0 n cap (by omega) w
set_option maxRecDepth 100000 in
theorem open_nets {H : Type} {enc : TypeId × Value → H} {W : World} {base : Nat} {v : Value} {d : DataW H} {p : List MemPlace} {ts : List TypeId} {ds : List (DataW H)} {j : Nat}
    (hv : Value.okWide Try.prog W .any base 55 v) (h : DataW.Trod enc Try.prog W 0 (fun _ => true) true 55 v d p)
    (hsz : (DataW.weightsEach Try.prog ts ds).all (· ≤ reachBytes) = true) (ht : ts[j]? = some 55) (hd : ds[j]? = some d) :
    ∃ (a : Option Addr) (n cap q o : Nat), v = .slice a n cap ∧ (0 < n → a = some ⟨q, o, none⟩) ∧ NetsAt W q o n := by
  obtain ⟨a0, len, cap, rfl⟩ := okWide_slice Try.underlying55 hv
  obtain ⟨fuel, hf⟩ := h
  rcases DataW.trod_slice Try.underlying55 hf with ⟨hcs, hx⟩ | ⟨a, len', cap', elems, rest, n, _, hcs, hx, hb, hl, hm, hlen, hel, _⟩
  · simp [Value.cells] at hcs
    obtain ⟨rfl, rfl, rfl⟩ := hcs
    exact ⟨none, 0, 0, 0, 0, rfl, fun h => absurd h (by decide), fun j hj => absurd hj (by omega)⟩
  · simp [Value.cells] at hcs
    obtain ⟨rfl, rfl, rfl⟩ := hcs
    simp only [Prod.mk.injEq] at hx
    obtain ⟨rfl, rfl⟩ := hx
    have cz : Try.prog.cellsOf 58 = 3 := by kernel_rfl
    have ci : Try.prog.cellsOf 3 = 1 := by kernel_rfl
    have cs : Try.prog.cellsOf 9 = 1 := by kernel_rfl
    have key : ∀ i, i < len → ∃ (X N : Int) (s : ByteArray), W.cell? (a.add (i * 3) |>.add 0) = some (.int .i64 X) ∧ W.cell? (a.add (i * 3) |>.add 1) = some (.int .i64 N) ∧ W.cell? (a.add (i * 3) |>.add 2) = some (.string s) ∧ s.size < 140737488351233 := by
      intro i hi
      have hi' : i < elems.length := by omega
      have h1 := hel i hi
      rw [cz, List.getElem?_eq_getElem hi', Option.bind_eq_some_iff] at h1
      obtain ⟨l, hl1, hl2⟩ := h1
      obtain ⟨g1, g2⟩ := cells?_get hl1
      obtain ⟨y0, y1, y2, m, hy, _, t0, t1, t2⟩ := Go.Deep.trod_struct3 Try.underlying58 hl2
      match l, g1 with
      | [c0, c1, c2], _ =>
        simp [ci, cs] at t0 t1 t2
        obtain ⟨x0, e0, rfl, _⟩ := DataW.trod_int Try.underlying3 t0
        obtain ⟨x1, e1, rfl, _⟩ := DataW.trod_int Try.underlying3 t1
        obtain ⟨x2, e2, rfl, _⟩ := DataW.trod_string Try.underlying9 t2
        obtain rfl : c0 = .int .i64 x0 := by simpa using e0
        obtain rfl : c1 = .int .i64 x1 := by simpa using e1
        obtain rfl : c2 = .string x2 := by simpa using e2
        refine ⟨x0, x1, x2, g2 0 (by omega), g2 1 (by omega), g2 2 (by omega), ?_⟩
        have hmem : (elems[i]'hi').1 ∈ elems.map (·.1) := List.mem_map.2 ⟨_, List.getElem_mem hi', rfl⟩
        have h := sized_in hsz (j := j) (t := 55) (e := 58) (k := x2.data.toList.length) ht hd Try.underlying55 hmem (by
          rw [hy]
          simp [DataW.weights, Try.underlying58, DataW.weightsEach])
        have e : x2.data.toList.length = x2.size := (Lib.size_eq x2).symm
        rw [e] at h
        exact Nat.lt_succ_of_le h
    rcases Nat.eq_zero_or_pos len with hl0 | hl0
    · subst hl0
      exact ⟨some a, 0, cap, 0, 0, rfl, fun h => absurd h (by decide), fun j hj => absurd hj (by omega)⟩
    · obtain ⟨b, off, spot⟩ := a
      have hspot : spot = none := by
        obtain ⟨_, _, _, h, _⟩ := key 0 hl0
        simpa [Addr.add] using World.cell?_spot h
      subst hspot
      refine ⟨_, len, cap, b, off, rfl, fun _ => rfl, fun i hi => ?_⟩
      obtain ⟨X, N, s, q0, q1, q2, q4⟩ := key i hi
      rw [add_plain, add_plain] at q0 q1 q2
      exact ⟨X, N, s, q0, q1, q2, q4, cell_in q0⟩
set_option maxRecDepth 100000 in
theorem linkOnce_lifted (os : Os) (started : os.Started) (H : Type) (enc : TypeId × Value → H) :
    ReturnsInHanded {} Try.checked os 5 .any (Rows.linkOnceSpec.pre6 enc Try.prog Try.f5 Rows.linkOnceRow.domain false) (Rows.linkOnceSpec.post enc Try.prog Try.f5 false true false false) := by
  refine returnsInHanded_of_change_sized (C := Try.checked) Try.own started (by kernel_rfl) Try.func5
    (ChangeSpec.witness6 (enc := enc) (C := Try.checked) false ⟨#[], #[.slice none 0 0], []⟩ 8 (by kernel_rfl) (by kernel_rfl) (by kernel_rfl) (by kernel_rfl)) ?_
  intro W base args ds gs before hval0 hW _ hsz0 _
  have hsz : (DataW.weightsEach Try.prog (Try.f5.params.toList ++ Rows.linkOnceSpec.plain.varTypes Try.prog) (ds ++ gs)).all (· ≤ reachBytes) = true := hsz0
  clear hsz0
  have hval : ∀ (j : Nat) t v, Try.f5.params[j]? = some t → args[j]? = some v → Value.okWide Try.prog W .any base t v := hval0
  have hW' := hW
  obtain ⟨p, q, hA0, hV, rfl, hfz, hnd⟩ := hW
  have hA : DataW.TrodAll enc Try.prog W 0 (fun _ => true) true Try.f5.params.toList args.toList ds p := hA0
  rw [Try.params5] at hA hval hsz
  obtain ⟨v0, d0, rfl, rfl, h0⟩ := trodAll_one hA
  obtain ⟨rfl, rfl⟩ := trodVars_none hV
  have k0 := h0
  simp only [List.append_nil] at hW'
  have hlt : ∀ x ∈ p, x.block < W.heap.size := fun x hx => by simpa using hW'.lt x hx
  have r0 : ∀ (W' : World), Below W.heap.size W W' → DataW.Trod enc Try.prog W' 0 (fun b => decide (b < W.heap.size)) true 55 v0 d0 p :=
    fun W' hn => Below.trod (by kernel_rfl) (by kernel_rfl) (of_decide_eq_true (by kernel_rfl)) k0 hn (fun x hx => hlt x (hx))
  clear hlt
  obtain ⟨a0, n0, c0, q0, o0, rfl, A0, S0⟩ := open_nets (hval 0 55 v0 rfl rfl) h0 hsz (j := 0) rfl rfl
  clear hA0 hval0
  refine (linkOnce_any a0 q0 o0 n0 c0 A0 W S0).mono fun e W' ⟨he, hg⟩ => ?_
  subst he
  exact ⟨_, rfl, _, _, _, [], _, [], hW', trodAll_mk1 (shut_bool Try.underlying4 _), trodAll_mk1 (r0 _ hg), rfl, hg.frame _, fun h => by cases h⟩

theorem linkOnce_holds : Rows.LinkOnceSaid :=
  OpenClaim.holds_of_wide 5 Try.f5 rfl rfl rfl rfl rfl rfl rfl ⟨rfl, rfl, rfl, rfl, rfl⟩ rfl rfl rfl rfl rfl (by kernel_rfl) Try.func5 (by kernel_rfl)
    (of_decide_eq_true (by kernel_rfl)) (by unfold Func.isWrapper; first | (rw [if_pos (by decide +kernel)]; kernel_rfl) | (rw [if_neg (by decide +kernel)]; exact ⟨rfl, rfl⟩))
    (fun os started H enc _ => linkOnce_lifted os started H enc)
end Go.Proofs.Ytadcjdffjhiniaa
