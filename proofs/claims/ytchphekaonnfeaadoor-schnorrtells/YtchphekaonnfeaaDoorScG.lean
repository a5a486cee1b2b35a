/- Package schnorr: Verify, by what the equation's question tells. -/
import Derived.Test.YtchphekaonnfeaaDoorMgO
namespace Go.Proofs.YtchphekaonnfeaaDoor
open Go Go.RowKit Go.Lib
theorem Bl.loadAt {w : World} {b : Nat} {vs : List Value} {t ty : TypeId} {d : TypeDesc} (h : Bl w b vs t) (k : Nat) (us : List Value) (hs : us.all (fun _ => true) = true ∧ (vs.drop k).take us.length = us) (hu : Tryd.prog.underlying ty = some d) (hd : d.isRow = true) (hi : (Tryd.prog.info? ty).map (·.size) = some us.length) : (loadVar ty ⟨b, k, none⟩).run Tryd.prog w = .ok (.agg us.toArray) w :=
  run_loadVar_mid w b k ty us d (fun j v hv => by
    have h' : w.heap[b]? = some (.cells vs.toArray t) := h
    have hj : j < us.length := (List.getElem?_eq_some_iff.1 hv).1
    have e : vs[k + j]? = some v := by
      rw [← hs.2, List.getElem?_take] at hv
      rw [if_pos hj, List.getElem?_drop] at hv
      exact hv
    simpa [World.cell?, h'] using e) hu hd hi
set_option maxRecDepth 100000 in
set_option maxHeartbeats 4000000 in
theorem verify_any (xy yy xr yr z : Nat) (iy ir : Bool) (m : ByteArray) (ek E : Int) (hxy : xy < R256) (hyy : yy < R256) (hxr : xr < R256) (hyr : yr < R256) (hz : z < R256) (hE : E = fErr [fiE xy yy iy, fiE xr yr ir, shE m, scE z, ek])
    (hK : fiE xy yy iy = 0 → fiE xr yr ir = 0 → shE m = 0 → scE z = 0 → ∀ w, GS w → Calls Tryd.prog 25 #[.agg #[.int .u64 (limb xy 0 : Nat), .int .u64 (limb xy 1 : Nat), .int .u64 (limb xy 2 : Nat), .int .u64 (limb xy 3 : Nat), .int .u64 (limb yy 0 : Nat), .int .u64 (limb yy 1 : Nat), .int .u64 (limb yy 2 : Nat), .int .u64 (limb yy 3 : Nat), .bool iy, .string m, .int .u64 (limb xr 0 : Nat), .int .u64 (limb xr 1 : Nat), .int .u64 (limb xr 2 : Nat), .int .u64 (limb xr 3 : Nat), .int .u64 (limb yr 0 : Nat), .int .u64 (limb yr 1 : Nat), .int .u64 (limb yr 2 : Nat), .int .u64 (limb yr 3 : Nat), .bool ir, .int .u64 (limb z 0 : Nat), .int .u64 (limb z 1 : Nat), .int .u64 (limb z 2 : Nat), .int .u64 (limb z 3 : Nat)]] w fun e w' => e = .returned (.int .i64 ek) ∧ Below w.heap.size w w') (w : World) (hG : GS w) :
    Calls Tryd.prog 8 #[.agg #[.int .u64 (limb xy 0 : Nat), .int .u64 (limb xy 1 : Nat), .int .u64 (limb xy 2 : Nat), .int .u64 (limb xy 3 : Nat), .int .u64 (limb yy 0 : Nat), .int .u64 (limb yy 1 : Nat), .int .u64 (limb yy 2 : Nat), .int .u64 (limb yy 3 : Nat), .bool iy], .string m, .agg #[.int .u64 (limb xr 0 : Nat), .int .u64 (limb xr 1 : Nat), .int .u64 (limb xr 2 : Nat), .int .u64 (limb xr 3 : Nat), .int .u64 (limb yr 0 : Nat), .int .u64 (limb yr 1 : Nat), .int .u64 (limb yr 2 : Nat), .int .u64 (limb yr 3 : Nat), .bool ir, .int .u64 (limb z 0 : Nat), .int .u64 (limb z 1 : Nat), .int .u64 (limb z 2 : Nat), .int .u64 (limb z 3 : Nat)]] w fun e w' => e = .returned (.int .i64 E) ∧ Below w.heap.size w w' := by
  have KF : Hid (∀ (b : Nat) (w : World), GS w → b < w.heap.size → w.cell? ⟨b, 0, none⟩ = some (.func (.func 24) #[.agg #[.int .u64 (limb xy 0 : Nat), .int .u64 (limb xy 1 : Nat), .int .u64 (limb xy 2 : Nat), .int .u64 (limb xy 3 : Nat), .int .u64 (limb yy 0 : Nat), .int .u64 (limb yy 1 : Nat), .int .u64 (limb yy 2 : Nat), .int .u64 (limb yy 3 : Nat), .bool iy]] #[]) → w.cell? ⟨b, 1, none⟩ = some (.func (.func 24) #[.agg #[.int .u64 (limb xr 0 : Nat), .int .u64 (limb xr 1 : Nat), .int .u64 (limb xr 2 : Nat), .int .u64 (limb xr 3 : Nat), .int .u64 (limb yr 0 : Nat), .int .u64 (limb yr 1 : Nat), .int .u64 (limb yr 2 : Nat), .int .u64 (limb yr 3 : Nat), .bool ir]] #[]) → w.cell? ⟨b, 2, none⟩ = some (.func (.func 19) #[.string m] #[]) → w.cell? ⟨b, 3, none⟩ = some (.func (.func 17) #[.agg #[.int .u64 (limb z 0 : Nat), .int .u64 (limb z 1 : Nat), .int .u64 (limb z 2 : Nat), .int .u64 (limb z 3 : Nat)]] #[]) → w.cell? ⟨b, 4, none⟩ = some (.func (.func 25) #[.agg #[.int .u64 (limb xy 0 : Nat), .int .u64 (limb xy 1 : Nat), .int .u64 (limb xy 2 : Nat), .int .u64 (limb xy 3 : Nat), .int .u64 (limb yy 0 : Nat), .int .u64 (limb yy 1 : Nat), .int .u64 (limb yy 2 : Nat), .int .u64 (limb yy 3 : Nat), .bool iy, .string m, .int .u64 (limb xr 0 : Nat), .int .u64 (limb xr 1 : Nat), .int .u64 (limb xr 2 : Nat), .int .u64 (limb xr 3 : Nat), .int .u64 (limb yr 0 : Nat), .int .u64 (limb yr 1 : Nat), .int .u64 (limb yr 2 : Nat), .int .u64 (limb yr 3 : Nat), .bool ir, .int .u64 (limb z 0 : Nat), .int .u64 (limb z 1 : Nat), .int .u64 (limb z 2 : Nat), .int .u64 (limb z 3 : Nat)]] #[]) →
      Calls Tryd.prog 16 #[.slice (some ⟨b, 0, none⟩) 5 5] w fun e w' => e = .returned (.int .i64 E) ∧ Below w.heap.size w w') := fun b w hG hb c0 c1 c2 c3 c4 => by
    refine first_any 5 b (fun j => if j < 2 then 24 else if j = 2 then 19 else if j = 3 then 17 else 25) (fun j => if j = 0 then #[.agg #[.int .u64 (limb xy 0 : Nat), .int .u64 (limb xy 1 : Nat), .int .u64 (limb xy 2 : Nat), .int .u64 (limb xy 3 : Nat), .int .u64 (limb yy 0 : Nat), .int .u64 (limb yy 1 : Nat), .int .u64 (limb yy 2 : Nat), .int .u64 (limb yy 3 : Nat), .bool iy]] else if j = 1 then #[.agg #[.int .u64 (limb xr 0 : Nat), .int .u64 (limb xr 1 : Nat), .int .u64 (limb xr 2 : Nat), .int .u64 (limb xr 3 : Nat), .int .u64 (limb yr 0 : Nat), .int .u64 (limb yr 1 : Nat), .int .u64 (limb yr 2 : Nat), .int .u64 (limb yr 3 : Nat), .bool ir]] else if j = 2 then #[.string m] else if j = 3 then #[.agg #[.int .u64 (limb z 0 : Nat), .int .u64 (limb z 1 : Nat), .int .u64 (limb z 2 : Nat), .int .u64 (limb z 3 : Nat)]] else #[.agg #[.int .u64 (limb xy 0 : Nat), .int .u64 (limb xy 1 : Nat), .int .u64 (limb xy 2 : Nat), .int .u64 (limb xy 3 : Nat), .int .u64 (limb yy 0 : Nat), .int .u64 (limb yy 1 : Nat), .int .u64 (limb yy 2 : Nat), .int .u64 (limb yy 3 : Nat), .bool iy, .string m, .int .u64 (limb xr 0 : Nat), .int .u64 (limb xr 1 : Nat), .int .u64 (limb xr 2 : Nat), .int .u64 (limb xr 3 : Nat), .int .u64 (limb yr 0 : Nat), .int .u64 (limb yr 1 : Nat), .int .u64 (limb yr 2 : Nat), .int .u64 (limb yr 3 : Nat), .bool ir, .int .u64 (limb z 0 : Nat), .int .u64 (limb z 1 : Nat), .int .u64 (limb z 2 : Nat), .int .u64 (limb z 3 : Nat)]]) (fun j => if j = 0 then fiE xy yy iy else if j = 1 then fiE xr yr ir else if j = 2 then shE m else if j = 3 then scE z else ek) E GS (fun w w' h hb => h.call hb) (fun j hj hp w hG => ?_) (fun j hj => ?_) (by decide) hE w hG ⟨hb, fun j hj => ?_⟩
    · match j, hj with
      | 0, _ => exact q_finite xy yy iy _ hxy hyy rfl w hG.1.1
      | 1, _ => exact q_finite xr yr ir _ hxr hyr rfl w hG.1.1
      | 2, _ =>
        refine (q_short m _ rfl w).mono ?_
        rintro e w' ⟨he, rfl⟩
        exact ⟨he, Below.refl _ _⟩
      | 3, _ => exact q_scalar z _ hz rfl w hG.1.2.1
      | 4, _ => exact hK (hp 0 (by decide)) (hp 1 (by decide)) (hp 2 (by decide)) (hp 3 (by decide)) w hG
    · match j, hj with
      | 0, _ => exact enters_of Tryd.func24 (by kernel_rfl) rfl
      | 1, _ => exact enters_of Tryd.func24 (by kernel_rfl) rfl
      | 2, _ => exact enters_of Tryd.func19 (by kernel_rfl) rfl
      | 3, _ => exact enters_of Tryd.func17 (by kernel_rfl) rfl
      | 4, _ => exact enters_of Tryd.func25 (by kernel_rfl) rfl
    · match j, hj with
      | 0, _ => exact c0
      | 1, _ => exact c1
      | 2, _ => exact c2
      | 3, _ => exact c3
      | 4, _ => exact c4
  obtain ⟨N, hN⟩ : ∃ N, N = w.heap.size := ⟨_, rfl⟩
  obtain ⟨W1, hW1⟩ : ∃ W1, W1 = (w.alloc (.cells #[.int .u64 (limb xy 0 : Nat), .int .u64 (limb xy 1 : Nat), .int .u64 (limb xy 2 : Nat), .int .u64 (limb xy 3 : Nat), .int .u64 (limb yy 0 : Nat), .int .u64 (limb yy 1 : Nat), .int .u64 (limb yy 2 : Nat), .int .u64 (limb yy 3 : Nat), .bool iy] 28)).alloc (.cells #[.int .u64 (limb xr 0 : Nat), .int .u64 (limb xr 1 : Nat), .int .u64 (limb xr 2 : Nat), .int .u64 (limb xr 3 : Nat), .int .u64 (limb yr 0 : Nat), .int .u64 (limb yr 1 : Nat), .int .u64 (limb yr 2 : Nat), .int .u64 (limb yr 3 : Nat), .bool ir, .int .u64 (limb z 0 : Nat), .int .u64 (limb z 1 : Nat), .int .u64 (limb z 2 : Nat), .int .u64 (limb z 3 : Nat)] 30) := ⟨_, rfl⟩
  have H1 : Hid (Below w.heap.size w W1 ∧ Bl W1 N [.int .u64 (limb xy 0 : Nat), .int .u64 (limb xy 1 : Nat), .int .u64 (limb xy 2 : Nat), .int .u64 (limb xy 3 : Nat), .int .u64 (limb yy 0 : Nat), .int .u64 (limb yy 1 : Nat), .int .u64 (limb yy 2 : Nat), .int .u64 (limb yy 3 : Nat), .bool iy] 28 ∧ Bl W1 (N + 1) [.int .u64 (limb xr 0 : Nat), .int .u64 (limb xr 1 : Nat), .int .u64 (limb xr 2 : Nat), .int .u64 (limb xr 3 : Nat), .int .u64 (limb yr 0 : Nat), .int .u64 (limb yr 1 : Nat), .int .u64 (limb yr 2 : Nat), .int .u64 (limb yr 3 : Nat), .bool ir, .int .u64 (limb z 0 : Nat), .int .u64 (limb z 1 : Nat), .int .u64 (limb z 2 : Nat), .int .u64 (limb z 3 : Nat)] 30 ∧ GS W1 ∧ N = w.heap.size) := by
    have e1 := Bl.new w [.int .u64 (limb xy 0 : Nat), .int .u64 (limb xy 1 : Nat), .int .u64 (limb xy 2 : Nat), .int .u64 (limb xy 3 : Nat), .int .u64 (limb yy 0 : Nat), .int .u64 (limb yy 1 : Nat), .int .u64 (limb yy 2 : Nat), .int .u64 (limb yy 3 : Nat), .bool iy] 28
    have e2 := Bl.new (w.alloc (.cells [.int .u64 (limb xy 0 : Nat), .int .u64 (limb xy 1 : Nat), .int .u64 (limb xy 2 : Nat), .int .u64 (limb xy 3 : Nat), .int .u64 (limb yy 0 : Nat), .int .u64 (limb yy 1 : Nat), .int .u64 (limb yy 2 : Nat), .int .u64 (limb yy 3 : Nat), .bool iy].toArray 28)) [.int .u64 (limb xr 0 : Nat), .int .u64 (limb xr 1 : Nat), .int .u64 (limb xr 2 : Nat), .int .u64 (limb xr 3 : Nat), .int .u64 (limb yr 0 : Nat), .int .u64 (limb yr 1 : Nat), .int .u64 (limb yr 2 : Nat), .int .u64 (limb yr 3 : Nat), .bool ir, .int .u64 (limb z 0 : Nat), .int .u64 (limb z 1 : Nat), .int .u64 (limb z 2 : Nat), .int .u64 (limb z 3 : Nat)] 30
    have a2 : Below (w.alloc (.cells [.int .u64 (limb xy 0 : Nat), .int .u64 (limb xy 1 : Nat), .int .u64 (limb xy 2 : Nat), .int .u64 (limb xy 3 : Nat), .int .u64 (limb yy 0 : Nat), .int .u64 (limb yy 1 : Nat), .int .u64 (limb yy 2 : Nat), .int .u64 (limb yy 3 : Nat), .bool iy].toArray 28)).heap.size (w.alloc (.cells [.int .u64 (limb xy 0 : Nat), .int .u64 (limb xy 1 : Nat), .int .u64 (limb xy 2 : Nat), .int .u64 (limb xy 3 : Nat), .int .u64 (limb yy 0 : Nat), .int .u64 (limb yy 1 : Nat), .int .u64 (limb yy 2 : Nat), .int .u64 (limb yy 3 : Nat), .bool iy].toArray 28)) ((w.alloc (.cells [.int .u64 (limb xy 0 : Nat), .int .u64 (limb xy 1 : Nat), .int .u64 (limb xy 2 : Nat), .int .u64 (limb xy 3 : Nat), .int .u64 (limb yy 0 : Nat), .int .u64 (limb yy 1 : Nat), .int .u64 (limb yy 2 : Nat), .int .u64 (limb yy 3 : Nat), .bool iy].toArray 28)).alloc (.cells [.int .u64 (limb xr 0 : Nat), .int .u64 (limb xr 1 : Nat), .int .u64 (limb xr 2 : Nat), .int .u64 (limb xr 3 : Nat), .int .u64 (limb yr 0 : Nat), .int .u64 (limb yr 1 : Nat), .int .u64 (limb yr 2 : Nat), .int .u64 (limb yr 3 : Nat), .bool ir, .int .u64 (limb z 0 : Nat), .int .u64 (limb z 1 : Nat), .int .u64 (limb z 2 : Nat), .int .u64 (limb z 3 : Nat)].toArray 30)) := below_alloc0 (Below.refl _ _) _
    have hb : Below w.heap.size w W1 := by
      rw [hW1]
      exact below_alloc0 (below_alloc0 (Below.refl _ _) _) _
    rw [World.size_alloc] at e2
    refine ⟨hb, ?_, ?_, hG.call hb, hN⟩
    · rw [hW1, hN]
      exact e1.call a2
    · rw [hW1, hN]
      exact e2
  have HW : Hid (W1 = (w.alloc (.cells #[.int .u64 (limb xy 0 : Nat), .int .u64 (limb xy 1 : Nat), .int .u64 (limb xy 2 : Nat), .int .u64 (limb xy 3 : Nat), .int .u64 (limb yy 0 : Nat), .int .u64 (limb yy 1 : Nat), .int .u64 (limb yy 2 : Nat), .int .u64 (limb yy 3 : Nat), .bool iy] 28)).alloc (.cells #[.int .u64 (limb xr 0 : Nat), .int .u64 (limb xr 1 : Nat), .int .u64 (limb xr 2 : Nat), .int .u64 (limb xr 3 : Nat), .int .u64 (limb yr 0 : Nat), .int .u64 (limb yr 1 : Nat), .int .u64 (limb yr 2 : Nat), .int .u64 (limb yr 3 : Nat), .bool ir, .int .u64 (limb z 0 : Nat), .int .u64 (limb z 1 : Nat), .int .u64 (limb z 2 : Nat), .int .u64 (limb z 3 : Nat)] 30) ∧ N = w.heap.size) := ⟨hW1, hN⟩
  clear hW1 hG hxy hyy hxr hyr hz hE hK hN
  have hmf : ∀ (fn : Fn) (first cap : Array Value) (w : World), (Instr.makeFunc fn first cap).run Tryd.prog w = .ok (.func fn first cap) w := fun _ _ _ _ => rfl
  go_enter Tryd.func8, Tryd.ntmps8
  go_upto_region 1 with fail
  rw [← HW.out.1, ← HW.out.2]
  clear HW
  have L1 : Hid ((loadVar 28 ⟨N, 0, none⟩).run Tryd.prog W1 = .ok (.agg #[.int .u64 (limb xy 0 : Nat), .int .u64 (limb xy 1 : Nat), .int .u64 (limb xy 2 : Nat), .int .u64 (limb xy 3 : Nat), .int .u64 (limb yy 0 : Nat), .int .u64 (limb yy 1 : Nat), .int .u64 (limb yy 2 : Nat), .int .u64 (limb yy 3 : Nat), .bool iy]) W1) := H1.out.2.1.load Tryd.underlying28 rfl (by kernel_rfl)
  have L2 : Hid ((loadVar 28 ⟨N + 1, 0, none⟩).run Tryd.prog W1 = .ok (.agg #[.int .u64 (limb xr 0 : Nat), .int .u64 (limb xr 1 : Nat), .int .u64 (limb xr 2 : Nat), .int .u64 (limb xr 3 : Nat), .int .u64 (limb yr 0 : Nat), .int .u64 (limb yr 1 : Nat), .int .u64 (limb yr 2 : Nat), .int .u64 (limb yr 3 : Nat), .bool ir]) W1) := H1.out.2.2.1.loadAt 0 [.int .u64 (limb xr 0 : Nat), .int .u64 (limb xr 1 : Nat), .int .u64 (limb xr 2 : Nat), .int .u64 (limb xr 3 : Nat), .int .u64 (limb yr 0 : Nat), .int .u64 (limb yr 1 : Nat), .int .u64 (limb yr 2 : Nat), .int .u64 (limb yr 3 : Nat), .bool ir] ⟨rfl, rfl⟩ Tryd.underlying28 rfl (by kernel_rfl)
  have L3 : Hid ((loadVar 24 ⟨N + 1, 9, none⟩).run Tryd.prog W1 = .ok (.agg #[.int .u64 (limb z 0 : Nat), .int .u64 (limb z 1 : Nat), .int .u64 (limb z 2 : Nat), .int .u64 (limb z 3 : Nat)]) W1) := H1.out.2.2.1.loadAt 9 [.int .u64 (limb z 0 : Nat), .int .u64 (limb z 1 : Nat), .int .u64 (limb z 2 : Nat), .int .u64 (limb z 3 : Nat)] ⟨rfl, rfl⟩ Tryd.underlying24 rfl (by kernel_rfl)
  have L4 : Hid ((loadVar 30 ⟨N + 1, 0, none⟩).run Tryd.prog W1 = .ok (.agg #[.int .u64 (limb xr 0 : Nat), .int .u64 (limb xr 1 : Nat), .int .u64 (limb xr 2 : Nat), .int .u64 (limb xr 3 : Nat), .int .u64 (limb yr 0 : Nat), .int .u64 (limb yr 1 : Nat), .int .u64 (limb yr 2 : Nat), .int .u64 (limb yr 3 : Nat), .bool ir, .int .u64 (limb z 0 : Nat), .int .u64 (limb z 1 : Nat), .int .u64 (limb z 2 : Nat), .int .u64 (limb z 3 : Nat)]) W1) := H1.out.2.2.1.load Tryd.underlying30 rfl (by kernel_rfl)
  go_wp2_with (first | ((with_reducible refine load_to (b := N) (k := 0) (x := 3) ?_ ?_ ?_ L1.out ?_); rfl; rfl; rfl) | ((with_reducible refine load_to (b := N + 1) (k := 0) (x := 9) ?_ ?_ ?_ L2.out ?_); rfl; rfl; rfl) | ((with_reducible refine load_to (b := N + 1) (k := 9) (x := 14) ?_ ?_ ?_ L3.out ?_); rfl; rfl; rfl) | ((with_reducible refine load_to (b := N + 1) (k := 0) (x := 5) ?_ ?_ ?_ L4.out ?_); rfl; rfl; rfl))
  clear L1 L2 L3 L4
  have HA : Hid (∀ b, Below W1.heap.size W1 (W1.alloc b)) := fun b => below_alloc0 (Below.refl _ _) b
  refine (KF.out _ _ (H1.out.2.2.2.1.call (HA.out _)) (by simp) (by simp [go_sem]) (by simp [go_sem]) (by simp [go_sem]) (by simp [go_sem]) (by simp [go_sem])).mono ?_
  rintro e w2 ⟨rfl, hb2⟩
  have H2 : Hid (Below w.heap.size w w2) := below_call0 H1.out.1 (below_call0 (HA.out _) hb2)
  clear hb2 H1 HA KF hmf
  go_wp2_with fail
  go_ret
  exact ⟨rfl, H2.out⟩
end Go.Proofs.YtchphekaonnfeaaDoor
