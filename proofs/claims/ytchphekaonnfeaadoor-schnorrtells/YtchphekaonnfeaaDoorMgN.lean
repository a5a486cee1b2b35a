/- Several texts laid together. -/
import Derived.Test.YtchphekaonnfeaaDoorMgJ
import Derived.Test.YtchphekaonnfeaaDoorMgK
import Derived.Test.YtchphekaonnfeaaDoorRgA
import Derived.Test.YtchphekaonnfeaaDoorRows
import Derived.Deep.Cut
namespace Go.Proofs.YtchphekaonnfeaaDoor
open Go Go.RowKit Go.Lib
/-- Which error a number tells that is to be a scalar. -/
def scE (x : Nat) : Int := if x < QQ then 0 else 20
def nzE (x : Nat) : Int := if x = 0 then 21 else 0
def shE (m : ByteArray) : Int := if m.size ≤ 4096 then 0 else 2
def onE (x y : Nat) (i : Bool) : Int := if ptOk x y i = true then 0 else 30
def fiE (x y : Nat) (i : Bool) : Int := if i = true then 30 else onE x y i
theorem Bl.cells {w : World} {b : Nat} {vs : List Value} {t : TypeId} (h : Bl w b vs t) (j : Nat) (v : Value) (hv : vs[j]? = some v) : w.cell? ⟨b, j, none⟩ = some v := by
  have h' : w.heap[b]? = some (.cells vs.toArray t) := h
  simpa [World.cell?, h'] using hv
set_option maxRecDepth 100000 in
set_option maxHeartbeats 4000000 in
theorem q_scalar (x : Nat) (E : Int) (hx : x < R256) (hE : E = scE x) (w : World) (hG : GlobQ w) : Calls Tryd.prog 17 #[.agg #[.int .u64 (limb x 0 : Nat), .int .u64 (limb x 1 : Nat), .int .u64 (limb x 2 : Nat), .int .u64 (limb x 3 : Nat)]] w fun e w' => e = .returned (.int .i64 E) ∧ Below w.heap.size w w' := by
  have KS : Hid _ := scalars_any
  have KC : Hid (∀ (g : Nat) (w : World), FieldB w g QQ → Calls Tryd.prog 31 #[.pointer (some ⟨g, 0, none⟩), .agg #[.int .u64 (limb x 0 : Nat), .int .u64 (limb x 1 : Nat), .int .u64 (limb x 2 : Nat), .int .u64 (limb x 3 : Nat)]] w fun e w' => e = .returned (.int .i64 E) ∧ Below w.heap.size w w') := fun g w h => by
    rw [hE]
    unfold scE
    by_cases c : x < QQ
    · rw [if_pos c]
      exact check_in g QQ x hx FM_Q.2.1 c w h
    · rw [if_neg c]
      exact check_no g QQ x hx FM_Q.2.1 c w h
  obtain ⟨W1, hW1⟩ : ∃ W1, W1 = w.alloc (.cells #[.int .u64 (limb x 0 : Nat), .int .u64 (limb x 1 : Nat), .int .u64 (limb x 2 : Nat), .int .u64 (limb x 3 : Nat)] 52) := ⟨_, rfl⟩
  have H1 : Hid (Below w.heap.size w W1 ∧ Bl W1 w.heap.size (numV x) 52 ∧ GlobQ W1) := by
    have hb : Below w.heap.size w W1 := by
      rw [hW1]
      exact below_alloc0 (Below.refl _ _) _
    refine ⟨hb, ?_, hG.call hb⟩
    rw [hW1]
    exact Bl.new w (numV x) _
  have HW : Hid (W1 = w.alloc (.cells #[.int .u64 (limb x 0 : Nat), .int .u64 (limb x 1 : Nat), .int .u64 (limb x 2 : Nat), .int .u64 (limb x 3 : Nat)] 52)) := hW1
  clear hW1 hG hx hE
  go_enter Tryd.func17, Tryd.ntmps17
  go_upto_region 1 with fail
  rw [← HW.out]
  clear HW
  refine wp_region_H (fun w' => Below W1.heap.size W1 w') 4 rfl (by kernel_rfl) ?_
  refine wpAnyH_take (i := 1) (oi := ?o1s) (v := ?v1s) ?hi1s (by kernel_rfl) (by kernel_rfl) (by kernel_rfl) ?hQ1s ?hy1s (Below.drew (Below.refl _ _)) ?more1s
  case hi1s => rw [List.getElem?_toArray]; exact rfl
  case hQ1s => exact fun _ _ _ h => h
  case hy1s =>
    refine Or.inl ⟨by rfl, ?_⟩
    intro w' hSw
    have q0 := (H1.out.2.1.call hSw).cells 0 _ rfl
    have q1 := (H1.out.2.1.call hSw).cells 1 _ rfl
    have q2 := (H1.out.2.1.call hSw).cells 2 _ rfl
    have q3 := (H1.out.2.1.call hSw).cells 3 _ rfl
    clear hSw
    go_simp
    try with_reducible rfl
  simp only [Act.put, List.setIfInBounds_toArray, List.set_cons_zero, List.set_cons_succ]
  refine wpAnyH_one (i := 0) (o := ?o0s) (by kernel_rfl) ?hi0s ?hw0s ?st0s
  case hi0s => rw [List.getElem?_toArray]; exact rfl
  case hw0s => exact rfl
  intro K hK
  have HK0s : Hid _ := hK
  clear hK
  go_simp
  refine (KS.out _ (H1.out.2.2.call (Below.drew (Below.refl _ _)))).mono ?_
  rintro e w2 ⟨g, rfl, hF, hb2⟩
  have I2 : Hid (Below W1.heap.size W1 w2) := below_call0 (Below.drew (Below.refl _ _)) hb2
  have HF : Hid (FieldB w2 g QQ) := hF
  clear hb2 hF KS
  go_wp2_with fail
  refine HK0s.out _ _ ⟨I2.out, ?_⟩
  clear HK0s K
  try simp only [Act.put, List.setIfInBounds_toArray, List.set_cons_zero, List.set_cons_succ]
  refine wpAnyH_one (i := 2) (o := ?o2s) (by kernel_rfl) ?hi2s ?hw2s ?st2s
  case hi2s => rw [List.getElem?_toArray]; exact rfl
  case hw2s => exact rfl
  intro K hK
  have HK2s : Hid _ := hK
  clear hK
  go_simp
  refine (KC.out g _ HF.out).mono ?_
  rintro e w3 ⟨rfl, hb3⟩
  have I3 : Hid (Below W1.heap.size W1 w3) := below_call0 I2.out hb3
  clear hb3 KC
  go_wp2_with fail
  refine HK2s.out _ _ ⟨I3.out, ?_⟩
  clear HK2s K
  try simp only [Act.put, List.setIfInBounds_toArray, List.set_cons_zero, List.set_cons_succ]
  refine wpAnyH_take (i := 3) (oi := ?o3s) (v := ?v3s) ?hi3s (by kernel_rfl) (by kernel_rfl) (by kernel_rfl) ?hQ3s ?hy3s I3.out ?more3s
  case hi3s => rw [List.getElem?_toArray]; exact rfl
  case hQ3s => exact fun _ _ _ h => h
  case hy3s =>
    refine Or.inl ⟨by rfl, ?_⟩
    intro w' hSw
    clear hSw
    go_simp
    try with_reducible rfl
  simp only [Act.put, List.setIfInBounds_toArray, List.set_cons_zero, List.set_cons_succ]
  refine wpAnyH_done (by kernel_rfl) ?_ _
  go_wp2_with fail
  go_ret
  exact ⟨rfl, below_call0 H1.out.1 I3.out⟩
theorem run_eqN' (d : Nat) (x0 x1 x2 x3 y0 y1 y2 y3 : Int) (w : World) : (Op.equalIn (d + 2) 52 (.agg #[.int .u64 x0, .int .u64 x1, .int .u64 x2, .int .u64 x3]) (.agg #[.int .u64 y0, .int .u64 y1, .int .u64 y2, .int .u64 y3])).run Tryd.prog w = .ok (eq4 x0 x1 x2 x3 y0 y1 y2 y3) w := by
  rw [Op.equalIn]
  simp only [Sem.run_bind, run_underlying Tryd.underlying52, Result.andThen_ok, size_limb]
  simp only [Std.Legacy.Range.forIn_eq_forIn_range', Std.Legacy.Range.size]
  simp only [List.range', List.forIn_cons, List.forIn_nil, Sem.run_bind, Nat.mul_one, Nat.sub_zero, Nat.zero_add, limb_part0, Result.andThen_ok, eq_limb]
  unfold eq4
  cases x0 == y0
  · simp
  simp only [Bool.not_true, Bool.false_eq_true, if_false, Sem.run_pure, Result.andThen_ok, Sem.run_bind, limb_part1, eq_limb]
  cases x1 == y1
  · simp
  simp only [Bool.not_true, Bool.false_eq_true, if_false, Sem.run_pure, Result.andThen_ok, Sem.run_bind, show 1 + 1 = 2 from rfl, show 2 + 1 = 3 from rfl, limb_part2, eq_limb]
  cases x2 == y2
  · simp
  simp only [Bool.not_true, Bool.false_eq_true, if_false, Sem.run_pure, Result.andThen_ok, Sem.run_bind, limb_part3, eq_limb]
  cases x3 == y3
  · simp
  · simp
theorem run_eqN (x0 x1 x2 x3 y0 y1 y2 y3 : Int) (w : World) : (Op.equalIn 10000 52 (.agg #[.int .u64 x0, .int .u64 x1, .int .u64 x2, .int .u64 x3]) (.agg #[.int .u64 y0, .int .u64 y1, .int .u64 y2, .int .u64 y3])).run Tryd.prog w = .ok (eq4 x0 x1 x2 x3 y0 y1 y2 y3) w := run_eqN' 9998 x0 x1 x2 x3 y0 y1 y2 y3 w
set_option maxRecDepth 100000 in
set_option maxHeartbeats 4000000 in
theorem q_zero (x : Nat) (E : Int) (hx : x < R256) (hE : E = nzE x) (w : World) : Calls Tryd.prog 18 #[.agg #[.int .u64 (limb x 0 : Nat), .int .u64 (limb x 1 : Nat), .int .u64 (limb x 2 : Nat), .int .u64 (limb x 3 : Nat)]] w fun e w' => e = .returned (.int .i64 E) ∧ Below w.heap.size w w' := by
  have hq : ∀ w : World, (Op.equalIn 10000 52 (.agg #[.int .u64 (limb x 0 : Nat), .int .u64 (limb x 1 : Nat), .int .u64 (limb x 2 : Nat), .int .u64 (limb x 3 : Nat)]) (.agg #[.int .u64 0, .int .u64 0, .int .u64 0, .int .u64 0])).run Tryd.prog w = .ok (decide (x = 0)) w := fun w => by
    have h := eq4_num x 0 hx (by decide)
    have e : (limb 0 0 : Int) = 0 ∧ (limb 0 1 : Int) = 0 ∧ (limb 0 2 : Int) = 0 ∧ (limb 0 3 : Int) = 0 := ⟨by kernel_rfl, by kernel_rfl, by kernel_rfl, by kernel_rfl⟩
    rw [e.1, e.2.1, e.2.2.1, e.2.2.2] at h
    rw [run_eqN, h]
  have HB : Hid (Below w.heap.size w (w.alloc (.cells #[.int .u64 (limb x 0 : Nat), .int .u64 (limb x 1 : Nat), .int .u64 (limb x 2 : Nat), .int .u64 (limb x 3 : Nat)] 52))) := below_alloc0 (Below.refl _ _) _
  by_cases c : x = 0
  · have d : decide (x = 0) = true := decide_eq_true c
    rw [d] at hq
    obtain rfl : E = 21 := by rw [hE]; exact if_pos c
    clear c d hE hx
    go_enter Tryd.func18, Tryd.ntmps18
    go_wp2_with fail
    go_ret
    exact ⟨rfl, HB.out⟩
  · have d : decide (x = 0) = false := decide_eq_false c
    rw [d] at hq
    obtain rfl : E = 0 := by rw [hE]; exact if_neg c
    clear c d hE hx
    go_enter Tryd.func18, Tryd.ntmps18
    go_wp2_with fail
    go_ret
    exact ⟨rfl, HB.out⟩
theorem q_short (m : ByteArray) (E : Int) (hE : E = shE m) (w : World) : Calls Tryd.prog 19 #[.string m] w fun e w' => e = .returned (.int .i64 E) ∧ w' = w := by
  by_cases c : m.size ≤ 4096
  · have d : decide ((4096 : Int) < (m.size : Int)) = false := decide_eq_false (by omega)
    obtain rfl : E = 0 := by rw [hE]; exact if_pos c
    clear c hE
    go_enter Tryd.func19, Tryd.ntmps19
    go_wp2_with fail
    go_ret
    exact ⟨rfl, rfl⟩
  · have d : decide ((4096 : Int) < (m.size : Int)) = true := decide_eq_true (by omega)
    obtain rfl : E = 2 := by rw [hE]; exact if_neg c
    clear c hE
    go_enter Tryd.func19, Tryd.ntmps19
    go_wp2_with fail
    go_ret
    exact ⟨rfl, rfl⟩
set_option maxRecDepth 100000 in
set_option maxHeartbeats 4000000 in
theorem q_on (x y : Nat) (i : Bool) (E : Int) (hx : x < R256) (hy : y < R256) (hE : E = onE x y i) (w : World) (hG : GlobP w) : Calls Tryd.prog 27 #[.agg #[.int .u64 (limb x 0 : Nat), .int .u64 (limb x 1 : Nat), .int .u64 (limb x 2 : Nat), .int .u64 (limb x 3 : Nat), .int .u64 (limb y 0 : Nat), .int .u64 (limb y 1 : Nat), .int .u64 (limb y 2 : Nat), .int .u64 (limb y 3 : Nat), .bool i]] w fun e w' => e = .returned (.int .i64 E) ∧ Below w.heap.size w w' := by
  have KC : Hid (∀ w, GlobP w → Calls Tryd.prog 40 #[.agg #[.int .u64 (limb x 0 : Nat), .int .u64 (limb x 1 : Nat), .int .u64 (limb x 2 : Nat), .int .u64 (limb x 3 : Nat), .int .u64 (limb y 0 : Nat), .int .u64 (limb y 1 : Nat), .int .u64 (limb y 2 : Nat), .int .u64 (limb y 3 : Nat), .bool i]] w fun e w' => e = .returned (.int .i64 E) ∧ Below w.heap.size w w') := fun w h => by
    rw [hE]
    unfold onE
    by_cases c : ptOk x y i = true
    · rw [if_pos c]
      exact Check_ok x y i hx hy c w h
    · rw [if_neg c]
      exact Check_bad x y i hx hy (by simpa using c) w h
  obtain ⟨W1, hW1⟩ : ∃ W1, W1 = w.alloc (.cells #[.int .u64 (limb x 0 : Nat), .int .u64 (limb x 1 : Nat), .int .u64 (limb x 2 : Nat), .int .u64 (limb x 3 : Nat), .int .u64 (limb y 0 : Nat), .int .u64 (limb y 1 : Nat), .int .u64 (limb y 2 : Nat), .int .u64 (limb y 3 : Nat), .bool i] 57) := ⟨_, rfl⟩
  have H1 : Hid (Below w.heap.size w W1 ∧ Bl W1 w.heap.size (ptL x y i) 57 ∧ GlobP W1) := by
    have hb : Below w.heap.size w W1 := by
      rw [hW1]
      exact below_alloc0 (Below.refl _ _) _
    refine ⟨hb, ?_, hG.call hb⟩
    rw [hW1]
    exact Bl.new w (ptL x y i) _
  have HW : Hid (W1 = w.alloc (.cells #[.int .u64 (limb x 0 : Nat), .int .u64 (limb x 1 : Nat), .int .u64 (limb x 2 : Nat), .int .u64 (limb x 3 : Nat), .int .u64 (limb y 0 : Nat), .int .u64 (limb y 1 : Nat), .int .u64 (limb y 2 : Nat), .int .u64 (limb y 3 : Nat), .bool i] 57)) := hW1
  have L1 : Hid ((loadVar 57 ⟨w.heap.size, 0, none⟩).run Tryd.prog W1 = .ok (.agg #[.int .u64 (limb x 0 : Nat), .int .u64 (limb x 1 : Nat), .int .u64 (limb x 2 : Nat), .int .u64 (limb x 3 : Nat), .int .u64 (limb y 0 : Nat), .int .u64 (limb y 1 : Nat), .int .u64 (limb y 2 : Nat), .int .u64 (limb y 3 : Nat), .bool i]) W1) := H1.out.2.1.load Tryd.underlying57 rfl (by kernel_rfl)
  clear hW1 hG hx hy hE
  go_enter Tryd.func27, Tryd.ntmps27
  go_upto_region 1 with fail
  rw [← HW.out]
  clear HW
  go_wp2_with ((with_reducible refine load_to (b := w.heap.size) (k := 0) (x := 1) ?_ ?_ ?_ L1.out ?_); rfl; rfl; rfl)
  refine (KC.out _ H1.out.2.2).mono ?_
  rintro e w2 ⟨rfl, hb2⟩
  have H2 : Hid (Below w.heap.size w w2) := below_call0 H1.out.1 hb2
  clear hb2 KC H1 L1
  go_wp2_with fail
  go_ret
  exact ⟨rfl, H2.out⟩
set_option maxRecDepth 100000 in
set_option maxHeartbeats 4000000 in
theorem q_finite (x y : Nat) (i : Bool) (E : Int) (hx : x < R256) (hy : y < R256) (hE : E = fiE x y i) (w : World) (hG : GlobP w) : Calls Tryd.prog 24 #[.agg #[.int .u64 (limb x 0 : Nat), .int .u64 (limb x 1 : Nat), .int .u64 (limb x 2 : Nat), .int .u64 (limb x 3 : Nat), .int .u64 (limb y 0 : Nat), .int .u64 (limb y 1 : Nat), .int .u64 (limb y 2 : Nat), .int .u64 (limb y 3 : Nat), .bool i]] w fun e w' => e = .returned (.int .i64 E) ∧ Below w.heap.size w w' := by
  have KC : Hid (∀ E, E = onE x y i → ∀ w, GlobP w → Calls Tryd.prog 27 #[.agg #[.int .u64 (limb x 0 : Nat), .int .u64 (limb x 1 : Nat), .int .u64 (limb x 2 : Nat), .int .u64 (limb x 3 : Nat), .int .u64 (limb y 0 : Nat), .int .u64 (limb y 1 : Nat), .int .u64 (limb y 2 : Nat), .int .u64 (limb y 3 : Nat), .bool i]] w fun e w' => e = .returned (.int .i64 E) ∧ Below w.heap.size w w') := fun E h w a => q_on x y i E hx hy h w a
  obtain ⟨W1, hW1⟩ : ∃ W1, W1 = w.alloc (.cells #[.int .u64 (limb x 0 : Nat), .int .u64 (limb x 1 : Nat), .int .u64 (limb x 2 : Nat), .int .u64 (limb x 3 : Nat), .int .u64 (limb y 0 : Nat), .int .u64 (limb y 1 : Nat), .int .u64 (limb y 2 : Nat), .int .u64 (limb y 3 : Nat), .bool i] 57) := ⟨_, rfl⟩
  have H1 : Hid (Below w.heap.size w W1 ∧ Bl W1 w.heap.size (ptL x y i) 57 ∧ GlobP W1) := by
    have hb : Below w.heap.size w W1 := by
      rw [hW1]
      exact below_alloc0 (Below.refl _ _) _
    refine ⟨hb, ?_, hG.call hb⟩
    rw [hW1]
    exact Bl.new w (ptL x y i) _
  have HW : Hid (W1 = w.alloc (.cells #[.int .u64 (limb x 0 : Nat), .int .u64 (limb x 1 : Nat), .int .u64 (limb x 2 : Nat), .int .u64 (limb x 3 : Nat), .int .u64 (limb y 0 : Nat), .int .u64 (limb y 1 : Nat), .int .u64 (limb y 2 : Nat), .int .u64 (limb y 3 : Nat), .bool i] 57)) := hW1
  have L1 : Hid ((loadVar 57 ⟨w.heap.size, 0, none⟩).run Tryd.prog W1 = .ok (.agg #[.int .u64 (limb x 0 : Nat), .int .u64 (limb x 1 : Nat), .int .u64 (limb x 2 : Nat), .int .u64 (limb x 3 : Nat), .int .u64 (limb y 0 : Nat), .int .u64 (limb y 1 : Nat), .int .u64 (limb y 2 : Nat), .int .u64 (limb y 3 : Nat), .bool i]) W1) := H1.out.2.1.load Tryd.underlying57 rfl (by kernel_rfl)
  have c8 : W1.cell? ⟨w.heap.size, 8, none⟩ = some (.bool i) := H1.out.2.1.cells 8 _ rfl
  clear hW1 hG hx hy
  go_enter Tryd.func24, Tryd.ntmps24
  go_upto_region 1 with fail
  rw [← HW.out]
  clear HW
  cases i with
  | true =>
    obtain rfl : E = 30 := by rw [hE]; rfl
    clear hE KC L1
    go_wp2_with fail
    go_ret
    exact ⟨rfl, H1.out.1⟩
  | false =>
    have K1 : Hid _ := KC.out E (by rw [hE]; rfl)
    clear hE KC
    go_upto_region 3 with fail
    clear c8
    go_wp2_with ((with_reducible refine load_to (b := w.heap.size) (k := 0) (x := 1) ?_ ?_ ?_ L1.out ?_); rfl; rfl; rfl)
    refine (K1.out _ H1.out.2.2).mono ?_
    rintro e w2 ⟨rfl, hb2⟩
    have H2 : Hid (Below w.heap.size w w2) := below_call0 H1.out.1 hb2
    clear hb2 K1 H1 L1
    go_wp2_with fail
    go_ret
    exact ⟨rfl, H2.out⟩
end Go.Proofs.YtchphekaonnfeaaDoor

namespace Go.Proofs.YtchphekaonnfeaaDoor
open Go Go.RowKit Go.Lib
def fErr : List Int → Int
  | [] => 0
  | e :: r => if e = 0 then fErr r else e
theorem fErr_zero : ∀ {l : List Int}, (∀ e ∈ l, e = 0) → fErr l = 0
  | [], _ => rfl
  | e :: r, h => by
    unfold fErr
    rw [if_pos (h e List.mem_cons_self)]
    exact fErr_zero fun x hx => h x (List.mem_cons_of_mem e hx)
theorem fErr_at : ∀ {l : List Int} {k : Nat} (hk : k < l.length), (∀ j (hj : j < l.length), j < k → (l[j]'hj) = 0) → (l[k]'hk) ≠ 0 → fErr l = l[k]'hk
  | e :: r, 0, hk, _, h => by
    show (if e = 0 then fErr r else e) = e
    exact if_neg h
  | e :: r, k + 1, hk, h0, h => by
    show (if e = 0 then fErr r else e) = _
    rw [if_pos (show e = 0 from h0 0 (Nat.zero_lt_succ _) (Nat.zero_lt_succ _))]
    exact fErr_at (l := r) (k := k) (Nat.lt_of_succ_lt_succ hk) (fun j hj hjk => h0 (j + 1) (Nat.succ_lt_succ hj) (Nat.succ_lt_succ hjk)) h
set_option maxRecDepth 100000 in
set_option maxHeartbeats 4000000 in
theorem first_any (n b : Nat) (q : Nat → Nat) (bd : Nat → Array Value) (es : Nat → Int) (E : Int) (P : World → Prop) (hPc : ∀ w w', P w → Below w.heap.size w w' → P w')
    (hK : ∀ j, j < n → (∀ i, i < j → es i = 0) → ∀ w, P w → Calls Tryd.prog (q j) (bd j) w fun e w' => e = .returned (.int .i64 (es j)) ∧ Below w.heap.size w w') (hen : ∀ j, j < n → ∀ args w, (callFunc (q j) args).run Tryd.prog w = .ok (.enter (q j) args) w) (hn : n ≤ 10) (hE : E = fErr ((List.range n).map es)) (w : World) (hP : P w)
    (hb : b < w.heap.size ∧ ∀ j, j < n → w.cell? ⟨b, j, none⟩ = some (.func (.func (q j)) (bd j) #[])) :
    Calls Tryd.prog 16 #[.slice (some ⟨b, 0, none⟩) n n] w fun e w' => e = .returned (.int .i64 E) ∧ Below w.heap.size w w' := by
  have KC : Hid _ := hK
  have KN : Hid _ := hen
  have H0 : Hid (P w ∧ (b < w.heap.size ∧ ∀ j, j < n → w.cell? ⟨b, j, none⟩ = some (.func (.func (q j)) (bd j) #[])) ∧ (∀ w w', P w → Below w.heap.size w w' → P w') ∧ E = fErr ((List.range n).map es)) := ⟨hP, hb, hPc, hE⟩
  have n64 : (n : Int) ≤ 10 := by omega
  clear hK hP hb hPc hE hn hen
  go_enter Tryd.func16, Tryd.ntmps16
  go_wp2_with fail
  rename_i Kr hKr
  have HKr : Hid _ := hKr
  clear hKr
  go_loopw [8] (fun iv wr => ∃ k : Nat, k ≤ n ∧ iv = .int .i64 (k : Nat) ∧ (∀ i, i < k → es i = 0) ∧ Below w.heap.size w wr) (fun iv _ => n - (Go.RowKit.intOf iv).toNat)
  case atStart => exact ⟨0, Nat.zero_le _, rfl, fun i h => absurd h (Nat.not_lt_zero _), Below.refl _ _⟩
  case round =>
    obtain ⟨k, hk, rfl, hz, hB⟩ := hrel
    rename World => wr
    have HC : Hid ((∀ i, i < k → es i = 0) ∧ Below w.heap.size w wr ∧ k ≤ n) := ⟨hz, hB, hk⟩
    clear hz hB hk
    by_cases hlt : k < n
    · clear HKr
      have hlt' : (k : Int) < (n : Int) := Int.ofNat_lt.2 hlt
      obtain ⟨qq, hqq⟩ : ∃ x, x = q k := ⟨_, rfl⟩
      obtain ⟨bb, hbb⟩ : ∃ x, x = bd k := ⟨_, rfl⟩
      obtain ⟨ee, hee⟩ : ∃ x, x = es k := ⟨_, rfl⟩
      have c0 : wr.cell? ⟨b, k, none⟩ = some (.func (.func qq) bb #[]) := by
        rw [hqq, hbb]
        exact (HC.out.2.1.cell (p := ⟨b, k, none⟩) H0.out.2.1.1).trans (H0.out.2.1.2 k hlt)
      have K1 : Hid (Calls Tryd.prog qq bb wr fun e w' => e = .returned (.int .i64 ee) ∧ Below wr.heap.size wr w') := by
        rw [hqq, hbb, hee]
        exact KC.out k hlt HC.out.1 wr (H0.out.2.2.1 _ _ H0.out.1 HC.out.2.1)
      have HE : Hid (k < n ∧ ee = es k) := ⟨hlt, hee⟩
      have hent : ∀ w, (callFunc qq bb).run Tryd.prog w = .ok (.enter qq bb) w := fun w => by
        rw [hqq]
        exact KN.out k hlt bb w
      clear hqq hbb hee hlt KC KN
      go_upto_region 4 with fail
      clear c0
      go_wp2_with fail
      clear hent
      refine K1.out.mono ?_
      rintro e w2 ⟨rfl, hb2⟩
      have H2 : Hid (Below w.heap.size w w2) := below_call0 HC.out.2.1 hb2
      clear hb2 K1
      by_cases c : ee = 0
      · have HZ : Hid (∀ i, i < k + 1 → es i = 0) := fun i hi => by
          by_cases d : i < k
          · exact HC.out.1 i d
          · obtain rfl : i = k := by omega
            rw [← HE.out.2]
            exact c
        have HE1 : Hid (k < n) := HE.out.1
        clear HE HC
        subst c
        go_wp2_with fail
        go_roundw
        case rel => first | exact ⟨k + 1, HE1.out, by go_num, HZ.out, H2.out⟩ | ((repeat apply Exists.intro); exact ⟨⟨k + 1, HE1.out, by go_num, HZ.out, H2.out⟩, rfl⟩)
        case measure => have := HE1.out; simp [Go.RowKit.intOf]; omega
      · have hEe : E = ee := by
          rw [H0.out.2.2.2, HE.out.2]
          have hl : k < ((List.range n).map es).length := by rw [List.length_map, List.length_range]; exact HE.out.1
          have hg : ((List.range n).map es)[k]'hl = es k := by rw [List.getElem_map, List.getElem_range]
          rw [fErr_at hl (fun j hj hjk => by rw [List.getElem_map, List.getElem_range]; exact HC.out.1 j hjk) (by rw [hg, ← HE.out.2]; exact c), hg]
        have HF : Hid (E = ee) := hEe
        have e1 : (ee != 0) = true := by simpa using c
        have e2 : (ee == 0) = false := by simpa using c
        have e3 : decide (ee = 0) = false := decide_eq_false c
        clear hEe HE HC
        go_wp2_with fail
        go_ret
        exact ⟨by rw [HF.out]; rfl, H2.out⟩
    · obtain rfl : k = n := by have := HC.out.2.2; omega
      have hnl : ¬ ((k : Int) < (k : Int)) := Int.lt_irrefl _
      obtain rfl : E = 0 := by
        rw [H0.out.2.2.2]
        refine fErr_zero fun e he => ?_
        rw [List.mem_map] at he
        obtain ⟨i, hi, rfl⟩ := he
        exact HC.out.1 i (List.mem_range.1 hi)
      clear hlt KC KN
      go_wp2_with fail
      refine HKr.out _ _ ?_
      clear HKr
      go_wp2_with fail
      go_ret
      exact ⟨rfl, HC.out.2.1⟩
end Go.Proofs.YtchphekaonnfeaaDoor
