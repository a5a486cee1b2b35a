/- Several texts laid together. -/
import Derived.Test.YtfkpbcionlidaaaDoorLbA
import Derived.Laws.CopyOwn
import Derived.Deep.RegionLaw
import Derived.Deep.Cut
import Derived.Deep.MidRow
import Derived.Test.YtfkpbcionlidaaaDoorFtX
import Derived.RangeFuncNested
import Derived.RangeFuncBound
import Derived.RangeFuncCalls
import Derived.RangeFuncLeaves
import Derived.OwnWalkIn
import Derived.Shelf.Abstract
import Derived.Shelf.RegionOpen
import Derived.WalkKit
import Derived.TacticsInMore
import Derived.LoopNIn
import Derived.LoopIn
import Derived.Sort.CutIn
import Derived.Sort.QuietIn
import Derived.OwnWalk
import Derived.RangeFuncBox
namespace Go.Proofs.YtfkpbcionlidaaaDoor
open Go Go.RowKit Go.Lib
theorem run_copy_k {P : Program} (w : World) (dT sT ty elem : TypeId) (g o dLen dCap : Nat) (a : Addr) (sLen sCap k : Nat) (cur : Array Value) (t : TypeId) (cs : List Value)
  (hu : P.underlying dT = some (.slice elem)) (hs : (P.info? elem).map (·.size) = some k)
  (hg : w.heap[g]? = some (.cells cur t (0, 0))) (hn : cs.length = Nat.min sLen dLen * k)
  (hsrc : ∀ j v, cs[j]? = some v → w.cell? (a.add j) = some v) (hfit : o + cs.length ≤ cur.size) (h1 : ∀ v ∈ cs, v.oneCell' = true) :
  (Builtin.copy_ #[dT, sT] ty #[.slice (some ⟨g, o, none⟩) dLen dCap, .slice (some a) sLen sCap]).run P w =
   .ok (goInt (Nat.min sLen dLen)) (w.setRow g (cur.toList.take o ++ cs ++ cur.toList.drop (o + cs.length)).toArray) := by
 have hl := run_loadCells_list (P := P) w a cs hsrc
 have hst := run_storeCells_at P g o t cs 0 cur w hg (by simpa using hfit) h1
 cases hq : P.info? elem with
 | none => simp [hq] at hs
 | some i =>
  have hi : i.size = k := by simpa [hq] using hs
  simp [Builtin.copy_, run_underlying hu, Builtin.lenOf, Builtin.firstCells, sizeOf, typeInfo, hq, hi, ← hn, hl, hst]
theorem wpList_copy_k {P : Program} {w : World} {ops : Array Oper} {rest : List Oper} {o : Oper} {a : Act} {Q : Exit → Act → World → Prop} (hgd : o.guard = none) (d s : Operand) (dT sT : TypeId)
  (ho : o.op = .call { callee := .builtin .copy, args := #[d, s], argTypes := #[dT, sT] }) (elem : TypeId) (hu : P.underlying dT = some (.slice elem)) (k : Nat) (hsz : (P.info? elem).map (·.size) = some k)
  (g off dLen dCap : Nat) (ad : Addr) (sLen sCap : Nat) (hd : a.eval d = .slice (some ⟨g, off, none⟩) dLen dCap) (hs : a.eval s = .slice (some ad) sLen sCap)
  (cur : List Value) (t : TypeId) (hg : w.heap[g]? = some (.cells cur.toArray t (0, 0))) (cs cur' : List Value) (m : Nat) (hm : m = Nat.min sLen dLen) (hn : cs.length = m * k)
  (hsrc : ∀ j v, cs[j]? = some v → w.cell? (ad.add j) = some v) (hfit : off + cs.length ≤ cur.length) (h1 : ∀ v ∈ cs, v.oneCell' = true) (e : cur.take off ++ cs ++ cur.drop (off + cs.length) = cur') (B : Nat) (w0 : World) (hb : Below B w0 w) (hBg : B ≤ g)
  (h : ∀ w', Hid (w'.heap[g]? = some (.cells cur'.toArray t (0, 0)) ∧ Below B w0 w') → wpList P ops Q rest (a.put o.dst (goInt m)) w') : wpList P ops Q (o :: rest) a w := by
 subst hm
 refine wpList_plain hgd fun K hK => ?_
 have hrun := run_copy_k (P := P) w dT sT o.type elem g off dLen dCap ad sLen sCap k cur.toArray t cs hu hsz hg hn hsrc (by simpa using hfit) h1
 rw [show cur.toArray.toList = cur from rfl, e] at hrun
 unfold Oper.wp
 simp [execOp, ho, resolve, invoke, builtin, hd, hs, hrun, Result.andThen]
 exact hK _ _ (h _ ⟨setRow_heap w g _ _ t _ hg, Go.below_setRow hb hBg _⟩)
theorem step_copy_k {P : Program} {ops : Array Oper} {o : Oper} {a : Act} {w : World} {K : Act → World → Prop} {Q : Exit → Act → World → Prop} {E : Prop} (hgd : o.guard = none) (d s : Operand) (dT sT : TypeId)
  (ho : o.op = .call { callee := .builtin .copy, args := #[d, s], argTypes := #[dT, sT] }) (elem : TypeId) (hu : P.underlying dT = some (.slice elem)) (k : Nat) (hsz : (P.info? elem).map (·.size) = some k)
  (g off dLen dCap : Nat) (ad : Addr) (sLen sCap : Nat) (hd : a.eval d = .slice (some ⟨g, off, none⟩) dLen dCap) (hs : a.eval s = .slice (some ad) sLen sCap)
  (cur : List Value) (t : TypeId) (hg : w.heap[g]? = some (.cells cur.toArray t (0, 0))) (cs cur' : List Value) (m : Nat) (hm : m = Nat.min sLen dLen) (hn : cs.length = m * k)
  (hsrc : ∀ j v, cs[j]? = some v → w.cell? (ad.add j) = some v) (hfit : off + cs.length ≤ cur.length) (h1 : ∀ v ∈ cs, v.oneCell' = true) (e : cur.take off ++ cs ++ cur.drop (off + cs.length) = cur') (B : Nat) (w0 : World) (hb : Below B w0 w) (hBg : B ≤ g)
  (h : ∀ w', Hid (w'.heap[g]? = some (.cells cur'.toArray t (0, 0)) ∧ Below B w0 w') → K (a.put o.dst (goInt m)) w') :
  if Region.wanted o (yielded ops a.tmps) = true then Oper.wp P o a w K Q else E := by
 subst hm
 have hw : Region.wanted o (yielded ops a.tmps) = true := by simp [Region.wanted, hgd]
 rw [if_pos hw]
 have hrun := run_copy_k (P := P) w dT sT o.type elem g off dLen dCap ad sLen sCap k cur.toArray t cs hu hsz hg hn hsrc (by simpa using hfit) h1
 rw [show cur.toArray.toList = cur from rfl, e] at hrun
 unfold Oper.wp
 simp [execOp, ho, resolve, invoke, builtin, hd, hs, hrun, Result.andThen]
 exact h _ ⟨setRow_heap w g _ _ t _ hg, Go.below_setRow hb hBg _⟩
theorem below_drNS {B : Nat} {a w : World} (h : Below B a w) (n : Nat) : Below B a (w.drewN n) := ⟨h.os, h.tape, h.output, h.size, h.block⟩
def isPow (m : Nat) : Prop := m = 64 ∨ (m = 1 ∨ m = 2 ∨ m = 4 ∨ m = 8 ∨ m = 16 ∨ m = 32)
/-- Sixty-four numbers, of which the first m are one. -/
def onesR (m : Nat) : List Value := (List.replicate m [.int .u64 1, .int .u64 0, .int .u64 0, .int .u64 0]).flatten ++ (List.replicate (64 - m) [.int .u64 0, .int .u64 0, .int .u64 0, .int .u64 0]).flatten
theorem bits_one (w : World) : Calls Tryd.prog 53 #[.int .u64 1, .int .u64 64] w fun e w' => e = .returned (.tuple #[.int .u64 0, .int .u64 64]) ∧ w' = w := by
 have KM : Hid (∀ w, Calls Tryd.prog 72 #[.int .u64 1, .int .u64 64] w fun e w' => e = .returned (.tuple #[.int .u64 0, .int .u64 64]) ∧ w' = w) := fun w => mul64' 1 64 (by decide) (by decide) w
 go_enter Tryd.func53, Tryd.ntmps53
 go_wp2_with fail
 refine (KM.out _).mono ?_
 rintro e w1 ⟨rfl, rfl⟩
 go_wp2_with fail
 refine bodyPost_ret (v := .tuple #[.int .u64 0, .int .u64 64]) (by simp [results, Tryd.results53]) rfl ⟨rfl, rfl⟩
set_option maxRecDepth 100000 in
set_option maxHeartbeats 4000000 in
theorem onesR_step {m : Nat} (h : m = 1 ∨ m = 2 ∨ m = 4 ∨ m = 8 ∨ m = 16 ∨ m = 32) : (onesR m).take (4 * m) ++ ((onesR m).take (4 * m)) ++ (onesR m).drop (4 * m + 4 * m) = onesR (m + m) := by
 rcases h with rfl | rfl | rfl | rfl | rfl | rfl <;> kernel_rfl
theorem infoNumS : ∃ i, Tryd.prog.info? 41 = some i ∧ i.zero = some (.agg #[.int .u64 0, .int .u64 0, .int .u64 0, .int .u64 0]) ∧ i.size = 4 ∧ i.bytes = 32 := by
 have h : (Tryd.prog.info? 41).map (fun i => (i.zero, i.size, i.bytes)) = some (some (.agg #[.int .u64 0, .int .u64 0, .int .u64 0, .int .u64 0]), 4, 32) := by kernel_rfl
 cases e : Tryd.prog.info? 41 with
 | none => rw [e] at h; cases h
 | some i =>
  rw [e] at h
  simp only [Option.map_some, Option.some.injEq, Prod.mk.injEq] at h
  exact ⟨i, rfl, h.1, h.2.1, h.2.2⟩
theorem make64 (w : World) : (Instr.makeSlice 32 (.int .i64 64) (.int .i64 64)).run Tryd.prog w = .ok (.slice (some ⟨w.heap.size, 0, none⟩) 64 64) (w.alloc (.cells (onesR 0).toArray 41)) := by
 obtain ⟨i, hi, hz, hsize, hby⟩ := infoNumS
 have h := run_make (P := Tryd.prog) w 32 41 i _ Tryd.underlying32 hi hz .i64 .i64 64 64 (by omega) (Int.le_refl _) (by rw [hby]; decide) (by omega)
 rw [hsize, show madeCells (.agg #[.int .u64 0, .int .u64 0, .int .u64 0, .int .u64 0] : Value).cells (Int.toNat 64 * 4) = (onesR 0).toArray from by kernel_rfl] at h
 exact h
set_option maxRecDepth 100000 in
set_option maxHeartbeats 4000000 in
theorem repeat_ones (b : Nat) (w : World) (hb : w.heap[b]? = some (.cells #[.int .u64 1, .int .u64 0, .int .u64 0, .int .u64 0] 41)) :
  Calls Tryd.prog 35 #[.slice (some ⟨b, 0, none⟩) 1 1, .int .i64 64] w fun e w' => ∃ g, e = .returned (.slice (some ⟨g, 0, none⟩) 64 64) ∧ w'.heap[g]? = some (.cells (onesR 64).toArray 41) ∧ w.heap.size ≤ g ∧ Below w.heap.size w w' := by
 have KB : Hid _ := bits_one
 have hm : ∀ w, (Instr.makeSlice 32 (.int .i64 64) (.int .i64 64)).run Tryd.prog w = .ok (.slice (some ⟨w.heap.size, 0, none⟩) 64 64) (w.alloc (.cells (onesR 0).toArray 41)) := make64
 have H0 : Hid (w.heap[b]? = some (.cells #[.int .u64 1, .int .u64 0, .int .u64 0, .int .u64 0] 41)) := hb
 clear hb
 go_enter Tryd.func35, Tryd.ntmps35
 go_wp2_with fail
 refine (KB.out _).mono ?_
 rintro e w1 ⟨rfl, h1⟩
 obtain rfl : w = w1 := h1.symm
 clear KB
 go_upto_region 7 with fail
 obtain ⟨g, hg⟩ : ∃ g, g = w.heap.size := ⟨_, rfl⟩
 obtain ⟨W2, hW2⟩ : ∃ W2, W2 = w.alloc (.cells (onesR 0).toArray 41) := ⟨_, rfl⟩
 have H2 : Hid (W2.heap[g]? = some (.cells (onesR 0).toArray 41) ∧ Below w.heap.size w W2 ∧ W2.heap[b]? = some (.cells #[.int .u64 1, .int .u64 0, .int .u64 0, .int .u64 0] 41) ∧ w.heap.size ≤ g) := by
  have hb : Below w.heap.size w W2 := by
   rw [hW2]
   exact below_alloc0 (Below.refl _ _) _
  refine ⟨?_, hb, (hb.block b (Array.getElem?_eq_some_iff.1 H0.out).1).trans H0.out, by omega⟩
  rw [hW2, hg]
  show (w.heap.push _)[w.heap.size]? = _
  exact Array.getElem?_push_size
 rw [← hW2, ← hg]
 have HG : Hid (w.heap.size ≤ g) := H2.out.2.2.2
 clear hW2 hg hm
 have hl0 : 0 + ([.int .u64 1, .int .u64 0, .int .u64 0, .int .u64 0] : List Value).length ≤ (onesR 0).length := of_decide_eq_true (by kernel_rfl)
 have HL : Hid _ := hl0
 have hc0 : (onesR 0).take 0 ++ ([.int .u64 1, .int .u64 0, .int .u64 0, .int .u64 0] : List Value) ++ (onesR 0).drop (0 + ([.int .u64 1, .int .u64 0, .int .u64 0, .int .u64 0] : List Value).length) = onesR 1 := by kernel_rfl
 have HC : Hid _ := hc0
 have HO : Hid (∀ v ∈ ([.int .u64 1, .int .u64 0, .int .u64 0, .int .u64 0] : List Value), v.oneCell' = true) := fun v hv => by
  have : ([.int .u64 1, .int .u64 0, .int .u64 0, .int .u64 0] : List Value).all (fun u => u.oneCell') = true := rfl
  exact List.all_eq_true.1 this v hv
 have HR : Hid (∀ j v, ([.int .u64 1, .int .u64 0, .int .u64 0, .int .u64 0] : List Value)[j]? = some v → W2.cell? ((⟨b, 0, none⟩ : Addr).add j) = some v) := fun j v hv => by
  have h := H2.out.2.2.1
  rw [Addr.add_mid, Nat.zero_add]
  simpa [World.cell?, h] using hv
 have hz0 : (Tryd.prog.info? 41).map (·.size) = some 4 := by kernel_rfl
 have HZ : Hid _ := hz0
 clear hl0 hc0 hz0
 go_wp2_with (refine wpList_copy_k rfl (.tmp 31) (.tmp 32) 32 32 rfl 41 Tryd.underlying32 4 HZ.out g 0 64 64 ⟨b, 0, none⟩ 1 1 rfl rfl (onesR 0) 41 H2.out.1 [.int .u64 1, .int .u64 0, .int .u64 0, .int .u64 0] (onesR 1) 1 rfl rfl HR.out HL.out HO.out HC.out w.heap.size w H2.out.2.1 H2.out.2.2.2 ?_; intro w3 H3; clear H2 HL HC HO HR)
 rename_i Kr hKr
 have HKr : Hid _ := hKr
 clear hKr
 go_loopw [8] (fun nv wr => ∃ m : Nat, isPow m ∧ nv = .int .i64 (m : Nat) ∧ wr.heap[g]? = some (.cells (onesR m).toArray 41) ∧ Below w.heap.size w wr) (fun nv _ => 64 - (Go.RowKit.intOf nv).toNat)
 case atStart => exact ⟨1, .inr (.inl rfl), rfl, H3.out.1, H3.out.2⟩
 case round =>
  obtain ⟨m, hm, rfl, hg, hB⟩ := hrel
  rename World => wr
  rcases hm with rfl | hm
  ·have HB : Hid (wr.heap[g]? = some (.cells (onesR 64).toArray 41) ∧ Below w.heap.size w wr) := ⟨hg, hB⟩
   clear hg hB H3
   go_wp2_with fail
   refine HKr.out _ _ ?_
   clear HKr
   go_wp2_with fail
   go_ret
   exact ⟨g, rfl, HB.out.1, HG.out, HB.out.2⟩
  ·have HB : Hid (wr.heap[g]? = some (.cells (onesR m).toArray 41) ∧ Below w.heap.size w wr) := ⟨hg, hB⟩
   clear hg hB H3 HKr
   have hst := onesR_step hm
   have hlen : (onesR m).length = 256 ∧ ((onesR m).take (4 * m)).length = m * 4 ∧ m + m ≤ 64 := by
    rcases hm with rfl | rfl | rfl | rfl | rfl | rfl <;> exact ⟨by kernel_rfl, by kernel_rfl, by decide⟩
   have HO : Hid (∀ v ∈ (onesR m).take (4 * m), v.oneCell' = true) := fun v hv => by
    have h : (onesR m).all (fun u => u.oneCell') = true := by
     rcases hm with rfl | rfl | rfl | rfl | rfl | rfl <;> kernel_rfl
    exact List.all_eq_true.1 h v (List.mem_of_mem_take hv)
   have HR : Hid (∀ W : World, W.heap[g]? = some (.cells (onesR m).toArray 41) → ∀ j v, ((onesR m).take (4 * m))[j]? = some v → W.cell? ((⟨g, 0, none⟩ : Addr).add j) = some v) := fun W h j v hv => by
    rw [Addr.add_mid, Nat.zero_add]
    have : (onesR m)[j]? = some v := by
     rw [List.getElem?_take] at hv
     split at hv
     ·exact hv
     ·cases hv
    simpa [World.cell?, h] using this
   have HM : Hid ((onesR m).take (4 * m) ++ ((onesR m).take (4 * m)) ++ (onesR m).drop (4 * m + ((onesR m).take (4 * m)).length) = onesR (m + m) ∧ (onesR m).length = 256 ∧ ((onesR m).take (4 * m)).length = m * 4 ∧ m + m ≤ 64) := by
    refine ⟨?_, hlen⟩
    rw [hlen.2.1, show m * 4 = 4 * m by omega]
    exact hst
   have HK : Hid (m = 1 ∨ m = 2 ∨ m = 4 ∨ m = 8 ∨ m = 16 ∨ m = 32) := hm
   clear hst hlen
   rcases hm with rfl | rfl | rfl | rfl | rfl | rfl
   ·go_upto_region 9 with fail
    go_region_law (refine step_copy_k rfl (.tmp 41) (.tmp 44) 32 32 rfl 41 Tryd.underlying32 4 HZ.out g 4 63 63 ⟨g, 0, none⟩ 1 64 (by simp [Act.eval, Act.put]) (by simp [Act.eval, Act.put]) (onesR 1) 41 HB.out.1 ((onesR 1).take 4) (onesR 2) 1 (by decide) HM.out.2.2.1 (HR.out _ HB.out.1) (by rw [HM.out.2.2.1, HM.out.2.1]; decide) HO.out HM.out.1 w.heap.size w (below_drNS HB.out.2 _) HG.out ?_; intro w4 H4)
    go_wp2_with fail
    go_roundw
    case rel => first | exact ⟨2, (by unfold isPow; decide), by go_num, H4.out.1, H4.out.2⟩ | ((repeat apply Exists.intro); exact ⟨⟨2, (by unfold isPow; decide), by go_num, H4.out.1, H4.out.2⟩, rfl⟩)
    case measure => first | decide | (simp [Go.RowKit.intOf]; decide)
   ·go_upto_region 9 with fail
    go_region_law (refine step_copy_k rfl (.tmp 41) (.tmp 44) 32 32 rfl 41 Tryd.underlying32 4 HZ.out g 8 62 62 ⟨g, 0, none⟩ 2 64 (by simp [Act.eval, Act.put]) (by simp [Act.eval, Act.put]) (onesR 2) 41 HB.out.1 ((onesR 2).take 8) (onesR 4) 2 (by decide) HM.out.2.2.1 (HR.out _ HB.out.1) (by rw [HM.out.2.2.1, HM.out.2.1]; decide) HO.out HM.out.1 w.heap.size w (below_drNS HB.out.2 _) HG.out ?_; intro w4 H4)
    go_wp2_with fail
    go_roundw
    case rel => first | exact ⟨4, (by unfold isPow; decide), by go_num, H4.out.1, H4.out.2⟩ | ((repeat apply Exists.intro); exact ⟨⟨4, (by unfold isPow; decide), by go_num, H4.out.1, H4.out.2⟩, rfl⟩)
    case measure => first | decide | (simp [Go.RowKit.intOf]; decide)
   ·go_upto_region 9 with fail
    go_region_law (refine step_copy_k rfl (.tmp 41) (.tmp 44) 32 32 rfl 41 Tryd.underlying32 4 HZ.out g 16 60 60 ⟨g, 0, none⟩ 4 64 (by simp [Act.eval, Act.put]) (by simp [Act.eval, Act.put]) (onesR 4) 41 HB.out.1 ((onesR 4).take 16) (onesR 8) 4 (by decide) HM.out.2.2.1 (HR.out _ HB.out.1) (by rw [HM.out.2.2.1, HM.out.2.1]; decide) HO.out HM.out.1 w.heap.size w (below_drNS HB.out.2 _) HG.out ?_; intro w4 H4)
    go_wp2_with fail
    go_roundw
    case rel => first | exact ⟨8, (by unfold isPow; decide), by go_num, H4.out.1, H4.out.2⟩ | ((repeat apply Exists.intro); exact ⟨⟨8, (by unfold isPow; decide), by go_num, H4.out.1, H4.out.2⟩, rfl⟩)
    case measure => first | decide | (simp [Go.RowKit.intOf]; decide)
   ·go_upto_region 9 with fail
    go_region_law (refine step_copy_k rfl (.tmp 41) (.tmp 44) 32 32 rfl 41 Tryd.underlying32 4 HZ.out g 32 56 56 ⟨g, 0, none⟩ 8 64 (by simp [Act.eval, Act.put]) (by simp [Act.eval, Act.put]) (onesR 8) 41 HB.out.1 ((onesR 8).take 32) (onesR 16) 8 (by decide) HM.out.2.2.1 (HR.out _ HB.out.1) (by rw [HM.out.2.2.1, HM.out.2.1]; decide) HO.out HM.out.1 w.heap.size w (below_drNS HB.out.2 _) HG.out ?_; intro w4 H4)
    go_wp2_with fail
    go_roundw
    case rel => first | exact ⟨16, (by unfold isPow; decide), by go_num, H4.out.1, H4.out.2⟩ | ((repeat apply Exists.intro); exact ⟨⟨16, (by unfold isPow; decide), by go_num, H4.out.1, H4.out.2⟩, rfl⟩)
    case measure => first | decide | (simp [Go.RowKit.intOf]; decide)
   ·go_upto_region 9 with fail
    go_region_law (refine step_copy_k rfl (.tmp 41) (.tmp 44) 32 32 rfl 41 Tryd.underlying32 4 HZ.out g 64 48 48 ⟨g, 0, none⟩ 16 64 (by simp [Act.eval, Act.put]) (by simp [Act.eval, Act.put]) (onesR 16) 41 HB.out.1 ((onesR 16).take 64) (onesR 32) 16 (by decide) HM.out.2.2.1 (HR.out _ HB.out.1) (by rw [HM.out.2.2.1, HM.out.2.1]; decide) HO.out HM.out.1 w.heap.size w (below_drNS HB.out.2 _) HG.out ?_; intro w4 H4)
    go_wp2_with fail
    go_roundw
    case rel => first | exact ⟨32, (by unfold isPow; decide), by go_num, H4.out.1, H4.out.2⟩ | ((repeat apply Exists.intro); exact ⟨⟨32, (by unfold isPow; decide), by go_num, H4.out.1, H4.out.2⟩, rfl⟩)
    case measure => first | decide | (simp [Go.RowKit.intOf]; decide)
   ·go_upto_region 9 with fail
    go_region_law (refine step_copy_k rfl (.tmp 41) (.tmp 44) 32 32 rfl 41 Tryd.underlying32 4 HZ.out g 128 32 32 ⟨g, 0, none⟩ 32 64 (by simp [Act.eval, Act.put]) (by simp [Act.eval, Act.put]) (onesR 32) 41 HB.out.1 ((onesR 32).take 128) (onesR 64) 32 (by decide) HM.out.2.2.1 (HR.out _ HB.out.1) (by rw [HM.out.2.2.1, HM.out.2.1]; decide) HO.out HM.out.1 w.heap.size w (below_drNS HB.out.2 _) HG.out ?_; intro w4 H4)
    go_wp2_with fail
    go_roundw
    case rel => first | exact ⟨64, (by unfold isPow; decide), by go_num, H4.out.1, H4.out.2⟩ | ((repeat apply Exists.intro); exact ⟨⟨64, (by unfold isPow; decide), by go_num, H4.out.1, H4.out.2⟩, rfl⟩)
    case measure => first | decide | (simp [Go.RowKit.intOf]; decide)
end Go.Proofs.YtfkpbcionlidaaaDoor

namespace Go.Proofs.YtfkpbcionlidaaaDoor
open Go Go.RowKit Go.Lib Go.Shelf
attribute [local go_sem] Oper.semAt_some
set_option maxRecDepth 100000 in
set_option maxHeartbeats 4000000 in
theorem chunk_any (a : Option Addr) (n c : Nat) (w : World) : Calls Tryd.prog 36 #[.slice a n c, .int .i64 63] w fun e w' => e = .returned (.func (.func 54) #[] #[.pointer (some ⟨w.heap.size, 0, none⟩), .pointer (some ⟨w.heap.size + 1, 0, none⟩)]) ∧ w' = (w.alloc (.cells #[.slice a n c] 22)).alloc (.cells #[.int .i64 63] 3) := by
 go_enter Tryd.func36, Tryd.ntmps36
 go_wp2_with fail
 go_ret
 exact ⟨by simp, rfl⟩
/-- The two boxes lie as they lay. -/
def KpD (c d : Nat) (A B : World) : Prop := ∀ (k : Nat) (o : Obj), (k = c ∨ k = d) → A.heap[k]? = some o → o.isCells = true → B.heap[k]? = some o
theorem KpD.trans {c d : Nat} {A B C : World} (h : KpD c d A B) (k : KpD c d B C) : KpD c d A C := fun i o hi ho hc => k i o hi (h i o hi ho hc) hc
theorem KpD.put {c d : Nat} {w : World} (W : World) (l : Nat) (o o' : Obj) (_ : w.heap.size ≤ l) (h : W.heap[l]? = some o) (hc : o.isCells = false) (_ : o.isWalk = false) : KpD c d W (W.putObj l o') := fun i u _ hi hu => by
 rw [World.putObj_heap_other (k := i) (by rintro rfl; rw [h] at hi; cases hi; rw [hc] at hu; cases hu)]
 exact hi
theorem KpD.celle {c d : Nat} {A B : World} (h : KpD c d A B) {p : Addr} {v : Value} (hp : p.block = c ∨ p.block = d) (hc : A.cell? p = some v) : B.cell? p = some v := by
 obtain ⟨o, ho, hcells⟩ := cells_of_cell hc
 have h2 := h _ _ hp ho hcells
 rw [← hc]
 simp only [World.cell?, ho, h2]
set_option maxRecDepth 100000 in
set_option maxHeartbeats 4000000 in
theorem chunk1_stops (n : Nat) (hn : 1 ≤ n) (c d : Nat) (a : Addr) (m k : Nat) (hm : 1 ≤ m) (hm2 : m ≤ 63) (hk : m ≤ k) (w : World) (hlc : c < w.heap.size) (hld : d < w.heap.size)
  (hc : w.cell? ⟨c, 0, none⟩ = some (.slice (some a) m k)) (hd : w.cell? ⟨d, 0, none⟩ = some (.int .i64 63)) :
  SeqStopsK Fence.wide n Tryd.prog 54 #[.pointer (some ⟨c, 0, none⟩), .pointer (some ⟨d, 0, none⟩)] (fun _ : Unit => #[Value.slice (some a) m m]) (KpD c d) (fun ys => ys = [()]) (fun pre => pre <+: [()]) 1 w := by
 intro l J Jx W hW hJ hJx hY h0
 have HJ : Hid (AbidesFrom W.heap.size J) := hJ
 have HY : Hid _ := hY
 have HH : Hid (J [] W) := h0
 have c0 : W.cell? ⟨c, 0, none⟩ = some (.slice (some a) m k) := (hW.cell (p := ⟨c, 0, none⟩) hlc).trans hc
 have c1 : W.cell? ⟨d, 0, none⟩ = some (.int .i64 63) := (hW.cell (p := ⟨d, 0, none⟩) hld).trans hd
 clear hJ hJx hY hc hd h0
 refine callsIn_of_wp Tryd.func54 rfl trivial ?_ rfl
 simp only [Tryd.ntmps54, List.size_toArray, List.length_cons, List.length_nil, Nat.reduceAdd, Nat.reduceSub, Array.replicate_succ, Array.replicate_zero, List.push_toArray, List.append_toArray, List.nil_append, List.cons_append]
 have m0 : (0 : Int) < (m : Nat) := by omega
 have mk : (m : Int) ≤ 63 := by omega
 have mk2 : (m : Int) ≤ (k : Nat) := by omega
 gi_wp2
 gi_loopw [4] (fun p wr => (p = .int .i64 0 ∧ wr = W) ∨ (p = .int .i64 63 ∧ J [()] wr ∧ KpD c d W wr)) (fun p _ => 64 - (Go.RowKit.intOf p).toNat)
 case atStart => exact .inl ⟨rfl, rfl⟩
 case round =>
  rcases hrel with ⟨rfl, rfl⟩ | ⟨rfl, hJ1, hk1⟩
  ·gi_upto_region 3 with fail
   gi_quiet (fail)
   gi_upto_region 4 with fail
   have hmin : (if (m : Int) < 63 then (m : Int) else 63) = (m : Int) := by split <;> omega
   rw [hmin]
   clear hmin
   have hJ0 : J [] (wr.drewN nq) := HJ.out [] _ _ none HH.out ⟨rfl, rfl, rfl, Nat.le_refl _, fun _ _ _ => rfl⟩ (by intro r h; cases h)
   obtain ⟨fn, tmps, assign, body, hy, hR⟩ := HY.out [] () (wr.drewN nq) hJ0 (by decide)
   gi_wp2
   refine hR.mono ?_
   clear hR hy
   rintro e W4 (⟨rfl, hJ4, hk4⟩ | ⟨rfl, hJx⟩)
   ·have hk4r : KpD c d wr W4 := hk4
    have c2 : W4.cell? ⟨d, 0, none⟩ = some (.int .i64 63) := hk4.celle (.inr rfl) c1
    gi_wp2
    go_roundw
    case rel => exact .inr ⟨by first | rfl | go_num, hJ4, hk4r⟩
    case measure => simp [Go.RowKit.intOf]
   ·gi_wp2
    refine bodyPost_ret (results_none rfl _ _ _) rfl ?_
    exact ⟨⟨_, rfl⟩, .inr ⟨[()], List.prefix_refl _, hJx⟩⟩
  ·have c2 : wr.cell? ⟨c, 0, none⟩ = some (.slice (some a) m k) := hk1.celle (.inl rfl) c0
   have m63 : decide ((63 : Int) < (m : Nat)) = false := decide_eq_false (by omega)
   gi_wp2
   go_end0
   exact ⟨⟨_, rfl⟩, .inl ⟨_, rfl, hJ1⟩⟩
end Go.Proofs.YtfkpbcionlidaaaDoor

namespace Go.Proofs.YtfkpbcionlidaaaDoor
open Go Go.RowKit Go.Lib Go.Shelf
attribute [local go_sem] Oper.semAt_some
theorem store_in {F : Fence} {n : Nat} {ops : Array Oper} {rest : List Oper} {o : Oper} {a : Act} {w w' : World} {Q : Exit → Act → World → Prop} {b x y : Nat} {ty : TypeId} {vs : Array Value} (hgd : o.guard = none) (ho : o.op = .store ty (.tmp x) (.tmp y))
  (hx : a.eval (.tmp x) = .pointer (some ⟨b, 0, none⟩)) (hy : a.eval (.tmp y) = .agg vs) (hs : (storeVar ty ⟨b, 0, none⟩ (.agg vs)).run Tryd.prog w = .ok () w')
  (h : wpListIn F n Tryd.prog ops Q rest (a.put o.dst undef) w') : wpListIn F n Tryd.prog ops Q (o :: rest) a w :=
 wpListIn_plain hgd fun _ hK => by
  unfold Oper.wpIn
  refine ⟨?_, ?_⟩
  ·simp [Oper.about, ho]
  ·rw [Oper.semAt_plain F _ _ (by rw [ho]; intro c hc'; cases hc')]
   unfold execOp
   simp only [ho, hx, hy, Instr.storeAt, Instr.sureAddr, Sem.run_bind, Sem.run_pure, Result.andThen_ok, hs]
   exact hK _ _ h
theorem load_in {F : Fence} {n : Nat} {ops : Array Oper} {rest : List Oper} {o : Oper} {a : Act} {w : World} {Q : Exit → Act → World → Prop} {b x : Nat} {ty : TypeId} {vs : Array Value} (hw : Region.wanted o (yielded ops a.tmps) = true) (ho : o.op = .load ty (.tmp x))
  (hx : a.eval (.tmp x) = .pointer (some ⟨b, 0, none⟩)) (hs : (loadVar ty ⟨b, 0, none⟩).run Tryd.prog w = .ok (.agg vs) w)
  (h : wpListIn F n Tryd.prog ops Q rest (a.put o.dst (.agg vs)) w) : wpListIn F n Tryd.prog ops Q (o :: rest) a w :=
 BigFrame.wpListIn_want hw fun _ hK => by
  unfold Oper.wpIn
  refine ⟨?_, ?_⟩
  ·simp [Oper.about, ho]
  ·rw [Oper.semAt_plain F _ _ (by rw [ho]; intro c hc'; cases hc')]
   unfold execOp
   simp only [ho, hx, Instr.loadAt, Instr.sureAddr, Sem.run_bind, Sem.run_pure, Result.andThen_ok, hs]
   exact hK _ _ h
abbrev T3 := Nat × Nat × Bool
def tV (p : T3) : List Value := ptL p.1 p.2.1 p.2.2
theorem infPtT : ∃ i z, Tryd.prog.info? 45 = some i ∧ i.zero = some z ∧ i.size = 9 ∧ i.bytes = 72 ∧ z.cells.size = 9 := by
 have h : (Tryd.prog.info? 45).map (fun i => (i.zero, i.size, i.bytes)) = some (some (.agg #[.int .u64 0, .int .u64 0, .int .u64 0, .int .u64 0, .int .u64 0, .int .u64 0, .int .u64 0, .int .u64 0, .bool false]), 9, 72) := by kernel_rfl
 cases e : Tryd.prog.info? 45 with
 | none => rw [e] at h; cases h
 | some i =>
  rw [e] at h
  simp only [Option.map_some, Option.some.injEq, Prod.mk.injEq] at h
  exact ⟨i, _, rfl, h.1, h.2.1, h.2.2, rfl⟩
def cellsT : List T3 → List Value
 | [] => []
 | p :: r => tV p ++ cellsT r
theorem cellsT_append : ∀ (l m : List T3), cellsT (l ++ m) = cellsT l ++ cellsT m
 | [], _ => rfl
 | p :: r, m => by
  show tV p ++ cellsT (r ++ m) = (tV p ++ cellsT r) ++ cellsT m
  rw [cellsT_append r m, List.append_assoc]
theorem cellsT_get : ∀ (l : List T3) (j : Nat) (q : T3) (i : Nat) (v : Value), l[j]? = some q → (tV q)[i]? = some v → (cellsT l)[j * 9 + i]? = some v
 | [], j, q, i, v, h, _ => by simp at h
 | x :: l, 0, q, i, v, h, hi => by
  simp at h
  subst h
  have h9 : i < (tV x).length := (List.getElem?_eq_some_iff.1 hi).1
  show (tV x ++ cellsT l)[0 * 9 + i]? = _
  rw [Nat.zero_mul, Nat.zero_add, List.getElem?_append_left h9]
  exact hi
 | x :: l, j + 1, q, i, v, h, hi => by
  show (tV x ++ cellsT l)[(j + 1) * 9 + i]? = _
  rw [List.getElem?_append_right (by show 9 ≤ _; omega)]
  have e2 : (j + 1) * 9 + i - (tV x).length = j * 9 + i := by show _ - 9 = _; omega
  rw [e2]
  exact cellsT_get l j q i v (by simpa using h) hi
/-- A list of points, whatever they are, that is one's own. -/
def RowT (w : World) (base : Nat) (a : Option Addr) (l : List T3) (cap : Nat) : Prop := w.ownsRow base 45 9 (.slice a l.length cap) l.length (cellsT l)
theorem RowT.nil (w : World) (base : Nat) : RowT w base none [] 0 := World.ownsRow_nil w base _ 9
theorem RowT.call {w w' : World} {base cap : Nat} {a : Option Addr} {l : List T3} (h : RowT w base a l cap) (hb : Below w.heap.size w w') : RowT w' base a l cap :=
 World.ownsRow.kept h (row := none) ⟨hb.os, hb.tape, hb.output, hb.size, fun k hk _ => hb.block k hk⟩ (by
  cases e : (Value.slice a l.length cap).ownBlock with
  | none => exact .inl rfl
  | some k => exact .inr (by simp))
theorem RowT.pnts {w : World} {base cap : Nat} {a : Option Addr} {l : List T3} (h : RowT w base a l cap) : PntsAt w a l := by
 intro j q hq
 rcases h.2 with ⟨h1, h2⟩ | ⟨g, cap', cur, h1, h2, h3, h4, h5, h6, h7⟩
 ·have : l = [] := List.eq_nil_of_length_eq_zero h2
  subst this
  simp at hq
 ·injection h1 with h1 _ h1c
  subst h1
  have K : ∀ i v, (tV q)[i]? = some v → w.cell? ⟨g, 0 + j * 9 + i, none⟩ = some v := fun i v hv => by
   have := World.ownsRow.cells h (g := g) (by simp [Value.ownBlock]) (j * 9 + i) _ (cellsT_get l j q i v hq hv)
   rw [Addr.add_mid] at this
   rw [← this]
   congr 2
   omega
  exact ⟨g, 0, rfl, (Array.getElem?_eq_some_iff.1 h3).1, K 0 _ rfl, K 1 _ rfl, K 2 _ rfl, K 3 _ rfl, K 4 _ rfl, K 5 _ rfl, K 6 _ rfl, K 7 _ rfl, K 8 _ rfl⟩
theorem RowT.one (w : World) (p : T3) : RowT (w.alloc (.cells (tV p).toArray 45)) w.heap.size (some ⟨w.heap.size, 0, none⟩) [p] 1 :=
 ⟨rfl, .inr ⟨w.heap.size, 1, (tV p).toArray, rfl, Nat.le_refl _, heap_alloc_last w _, Nat.le_refl _, by unfold maxLen; omega, rfl, rfl⟩⟩
theorem wpListIn_append_RowT {F : Fence} {nn : Nat} (w : World) {ops : Array Oper} {rest : List Oper} {o : Oper} {a : Act} {Q : Exit → Act → World → Prop} (hgd : o.guard = none)
  (sl x : Operand) (hop : o.op = Op.call { callee := Callee.builtin Builtin.append, args := #[sl, x], argTypes := #[24, 24] })
  (base : Nat) (aa : Option Addr) (n cap : Nat) (l : List T3) (s : T3) (hs : a.eval sl = .slice aa n cap) (hnn : n = l.length) (h : RowT w base aa l cap) (hB : base ≤ w.heap.size) (hl : l.length ≤ 1000000)
  (b c : Nat) (hx : a.eval x = .slice (some ⟨b, 0, none⟩) 1 c) (hc : Bl w b (tV s) 45)
  (hK : ∀ a' m' cap' w', m' = n + 1 → RowT w' base a' (l ++ [s]) cap' → Below base w w' → wpListIn F nn Tryd.prog ops Q rest (a.put o.dst (.slice a' m' cap')) w') : wpListIn F nn Tryd.prog ops Q (o :: rest) a w := by
 obtain ⟨i, z, hi, hz, hsize, hby, hzs⟩ := infPtT
 subst hnn
 refine wpListIn_append_own w hgd sl x 24 hop base 45 i z 9 72 Tryd.underlying24 hi hz hsize hby hzs (by decide) (.slice aa l.length cap) l.length (cellsT l) hs h ⟨b, 0, none⟩ 1 c (tV s) hx rfl (fun j u hj => ?_) (fun u hu => ?_) (by unfold maxLen; omega) (by omega) hB (fun v' w' ho hg _ => ?_)
 ·have h' : w.heap[b]? = some (.cells (tV s).toArray 45) := hc
  rw [Addr.add_mid, Nat.zero_add]
  simpa [World.cell?, h'] using hj
 ·have : ((tV s).all fun u => u.oneCell') = true := rfl
  exact List.all_eq_true.1 this u hu
 ·have ho' : w'.ownsRow base 45 9 v' (l ++ [s]).length (cellsT (l ++ [s])) := by
   rw [List.length_append, cellsT_append]
   have e : cellsT [s] = tV s := List.append_nil _
   rw [e]; exact ho
  have hv : ∃ a' cap', v' = .slice a' (l ++ [s]).length cap' := by
   rcases ho'.2 with ⟨rfl, h2⟩ | ⟨g, cap', cur, rfl, _⟩
   ·exact ⟨none, 0, by rw [h2]⟩
   ·exact ⟨_, cap', rfl⟩
  obtain ⟨a', cap', rfl⟩ := hv
  have hb : Below base w w' := (Below.refl base w).grown hg hB (fun k hk => (World.ownsRow.lt h k hk).1)
  have := hK a' (l.length + 1) cap' w' rfl ho' hb
  simpa using this
theorem flat_get (v : List Value) (hv : v.length = 4) : ∀ (n j c : Nat), j < n → c < 4 → (List.replicate n v).flatten[j * 4 + c]? = v[c]?
 | 0, _, _, h, _ => absurd h (Nat.not_lt_zero _)
 | n + 1, 0, c, _, hc => by
  rw [List.replicate_succ, List.flatten_cons, List.getElem?_append_left (by omega), Nat.zero_mul, Nat.zero_add]
 | n + 1, j + 1, c, hj, hc => by
  rw [List.replicate_succ, List.flatten_cons, List.getElem?_append_right (by omega), hv, show (j + 1) * 4 + c - 4 = j * 4 + c by omega]
  exact flat_get v hv n j c (by omega) hc
theorem ones_at {w : World} {g m : Nat} (h : w.heap[g]? = some (.cells (onesR 64).toArray 41)) (hm : m ≤ 64) : NumsAt w (some ⟨g, 0, none⟩) (List.replicate m 1) := fun j n hj => by
 rw [List.getElem?_replicate] at hj
 split at hj
 ·next hjm =>
  cases hj
  have K : ∀ c v, ([.int .u64 1, .int .u64 0, .int .u64 0, .int .u64 0] : List Value)[c]? = some v → w.cell? ⟨g, 0 + j * 4 + c, none⟩ = some v := fun c v hv => by
   have hc : c < 4 := (List.getElem?_eq_some_iff.1 hv).1
   have e : (onesR 64)[j * 4 + c]? = some v := by
    have hl : (List.replicate 64 ([.int .u64 1, .int .u64 0, .int .u64 0, .int .u64 0] : List Value)).flatten.length = 256 := by kernel_rfl
    unfold onesR
    rw [List.getElem?_append_left (by rw [hl]; omega), flat_get [.int .u64 1, .int .u64 0, .int .u64 0, .int .u64 0] rfl 64 j c (by omega) hc]
    exact hv
   rw [Nat.zero_add]
   simpa [World.cell?, h] using e
  exact ⟨g, 0, rfl, (Array.getElem?_eq_some_iff.1 h).1, K 0 _ rfl, K 1 _ rfl, K 2 _ rfl, K 3 _ rfl⟩
 ·cases hj
theorem chg {W w6 : World} (b : Nat) (us : Array Value) (hb : Below W.heap.size W w6) {k : Nat} {o : Obj} (hk : k ≠ b) (h : W.heap[k]? = some o) : (w6.setRow b us).heap[k]? = some o := by
 rw [setRow_other w6 b k us hk]
 exact (hb.block k (Array.getElem?_eq_some_iff.1 h).1).trans h
theorem load_ink {F : Fence} {n : Nat} {ops : Array Oper} {rest : List Oper} {o : Oper} {a : Act} {w : World} {Q : Exit → Act → World → Prop} {b k x : Nat} {ty : TypeId} {vs : Array Value} (hw : Region.wanted o (yielded ops a.tmps) = true) (ho : o.op = .load ty (.tmp x))
  (hx : a.eval (.tmp x) = .pointer (some ⟨b, k, none⟩)) (hs : (loadVar ty ⟨b, k, none⟩).run Tryd.prog w = .ok (.agg vs) w)
  (h : wpListIn F n Tryd.prog ops Q rest (a.put o.dst (.agg vs)) w) : wpListIn F n Tryd.prog ops Q (o :: rest) a w :=
 BigFrame.wpListIn_want hw fun _ hK => by
  unfold Oper.wpIn
  refine ⟨?_, ?_⟩
  ·simp [Oper.about, ho]
  ·rw [Oper.semAt_plain F _ _ (by rw [ho]; intro c hc'; cases hc')]
   unfold execOp
   simp only [ho, hx, Instr.loadAt, Instr.sureAddr, Sem.run_bind, Sem.run_pure, Result.andThen_ok, hs]
   exact hK _ _ h
theorem cells_ownFrom {β : Type} (B k : Nat) (f : β → Array Value) (t : TypeId) : OwnFrom B (fun (s : β) (W : World) => W.heap[k]? = some (.cells (f s) t)) := fun s W W' row hs hg hr => by
 refine (hg.block k (Array.getElem?_eq_some_iff.1 hs).1 (fun e => ?_)).trans hs
 obtain ⟨_, o, ho, hc⟩ := hr k e.symm
 rw [hs] at ho
 cases ho
 cases hc
theorem PointB.loadT {w : World} {b o : Nat} {P : T3} (h : PointB w b o P.1 P.2.1 P.2.2) : (loadVar 45 ⟨b, o, none⟩).run Tryd.prog w = .ok (.agg #[.int .u64 (limb P.1 0 : Nat), .int .u64 (limb P.1 1 : Nat), .int .u64 (limb P.1 2 : Nat), .int .u64 (limb P.1 3 : Nat), .int .u64 (limb P.2.1 0 : Nat), .int .u64 (limb P.2.1 1 : Nat), .int .u64 (limb P.2.1 2 : Nat), .int .u64 (limb P.2.1 3 : Nat), .bool P.2.2]) w :=
 run_loadVar_mid w b o 45 (tV P) _ (fun j v hv => by
  match j, hv with
  | 0, hv => cases hv; exact h.x0
  | 1, hv => cases hv; exact h.x1
  | 2, hv => cases hv; exact h.x2
  | 3, hv => cases hv; exact h.x3
  | 4, hv => cases hv; exact h.y0
  | 5, hv => cases hv; exact h.y1
  | 6, hv => cases hv; exact h.y2
  | 7, hv => cases hv; exact h.y3
  | 8, hv => cases hv; exact h.i8
  | j + 9, hv => simp [tV, ptL] at hv) Tryd.underlying45 rfl (by kernel_rfl)
def RowsT (w : World) (a : Option Addr) (L : List (List T3)) : Prop := ∀ (j : Nat) (s : List T3), L[j]? = some s → ∃ p o ra rc, a = some ⟨p, o, none⟩ ∧ w.cell? ⟨p, o + j, none⟩ = some (.slice ra s.length rc) ∧ PntsAt w ra s ∧ p < w.heap.size
theorem RowsT.call {w w' : World} {a : Option Addr} {L : List (List T3)} (h : RowsT w a L) (hb : Below w.heap.size w w') : RowsT w' a L := fun j s hj => by
 obtain ⟨p, o, ra, rc, h1, h2, h3, h4⟩ := h j s hj
 exact ⟨p, o, ra, rc, h1, (hb.cell (p := ⟨p, o + j, none⟩) h4).trans h2, h3.call hb, Nat.lt_of_lt_of_le h4 hb.size⟩
def zT : T3 := (0, 0, true)
/-- The points at a place. -/
def colT (L : List (List T3)) (i : Nat) : List T3 := L.map fun s => s.getD i zT
end Go.Proofs.YtfkpbcionlidaaaDoor

namespace Go.Proofs.YtfkpbcionlidaaaDoor
open Go Go.RowKit Go.Lib Go.Shelf
attribute [local go_sem] Oper.semAt_some
set_option maxRecDepth 100000 in
set_option maxHeartbeats 4000000 in
theorem sumAtT_ok (Ls : List (List T3)) (m : Nat) (a : Option Addr) (c i : Nat) (X Y : Nat) (I : Bool) (hm : m = Ls.length) (h1 : 1 ≤ m) (h2 : m ≤ 63) (hc : m ≤ c) (hi : ∀ s ∈ Ls, i < s.length) (hS : ∀ (g d : Nat) (b : Option Addr) (w : World), GA w → NumsAt w (some ⟨g, 0, none⟩) (List.replicate (m + 1) 1) → PntsAt w b (zT :: colT Ls i) → Calls Tryd.prog 37 #[.slice (some ⟨g, 0, none⟩) (m + 1) 64, .slice b (m + 1) d] w fun e w' => e = .returned (.tuple #[.agg #[.int .u64 (limb X 0 : Nat), .int .u64 (limb X 1 : Nat), .int .u64 (limb X 2 : Nat), .int .u64 (limb X 3 : Nat), .int .u64 (limb Y 0 : Nat), .int .u64 (limb Y 1 : Nat), .int .u64 (limb Y 2 : Nat), .int .u64 (limb Y 3 : Nat), .bool I], .int .i64 0]) ∧ Below w.heap.size w w') (w : World) (hG : GA w) (hP : RowsT w a Ls) :
  Calls Tryd.prog 17 #[.slice a m c, .int .i64 (i : Nat)] w fun e w' => e = .returned (.tuple #[.agg #[.int .u64 (limb X 0 : Nat), .int .u64 (limb X 1 : Nat), .int .u64 (limb X 2 : Nat), .int .u64 (limb X 3 : Nat), .int .u64 (limb Y 0 : Nat), .int .u64 (limb Y 1 : Nat), .int .u64 (limb Y 2 : Nat), .int .u64 (limb Y 3 : Nat), .bool I], .int .i64 0]) ∧ Below w.heap.size w w' := by
 obtain ⟨p, o, ra0, rc0, rfl, -, -, -⟩ := hP 0 _ (List.getElem?_eq_getElem (by omega))
 have KR : Hid _ := repeat_ones
 have KC : Hid _ := fun a n c w => chunk_any a n c w
 have H0 : Hid (GA w ∧ RowsT w (some ⟨p, o, none⟩) Ls ∧ m = Ls.length ∧ 1 ≤ m ∧ m ≤ 63 ∧ m ≤ c ∧ (∀ s ∈ Ls, i < s.length)) := ⟨hG, hP, hm, h1, h2, hc, hi⟩
 have KSS : Hid _ := hS
 clear hm h1 h2 hc hi hS hG hP
 refine (callsIn_wide (n := 3)).1 ?_
 refine callsIn_of_wp_marks Tryd.func17 rfl trivial ?_
 simp only [Tryd.ntmps17, List.size_toArray, List.length_cons, List.length_nil, Nat.reduceAdd, Nat.reduceSub, Array.replicate_succ, Array.replicate_zero, List.push_toArray, List.append_toArray, List.nil_append, List.cons_append]
 gi_upto_region 1 with fail
 obtain ⟨N, hN⟩ : ∃ N, N = w.heap.size := ⟨_, rfl⟩
 obtain ⟨W1, hW1⟩ : ∃ W1, W1 = ((w.alloc (.cells #[.int .i64 (i : Nat)] 3)).alloc (.cells #[.int .u64 0, .int .u64 0, .int .u64 0, .int .u64 0, .int .u64 0, .int .u64 0, .int .u64 0, .int .u64 0, .bool false] 45)).alloc (.cells #[.int .i64 0] 25) := ⟨_, rfl⟩
 have H1 : Hid (Below w.heap.size w W1 ∧ W1.heap[N]? = some (.cells #[.int .i64 (i : Nat)] 3) ∧ W1.heap[N + 1]? = some (.cells #[.int .u64 0, .int .u64 0, .int .u64 0, .int .u64 0, .int .u64 0, .int .u64 0, .int .u64 0, .int .u64 0, .bool false] 45) ∧ W1.heap[N + 1 + 1]? = some (.cells #[.int .i64 0] 25) ∧ W1.heap.size = N + 3 ∧ N = w.heap.size) := by
  have e1 : (w.alloc (.cells #[.int .i64 (i : Nat)] 3)).heap[N]? = some (.cells #[.int .i64 (i : Nat)] 3) := by rw [hN]; exact World.alloc_heap_new w _
  have e2 : ((w.alloc (.cells #[.int .i64 (i : Nat)] 3)).alloc (.cells #[.int .u64 0, .int .u64 0, .int .u64 0, .int .u64 0, .int .u64 0, .int .u64 0, .int .u64 0, .int .u64 0, .bool false] 45)).heap[N + 1]? = some (.cells #[.int .u64 0, .int .u64 0, .int .u64 0, .int .u64 0, .int .u64 0, .int .u64 0, .int .u64 0, .int .u64 0, .bool false] 45) := by rw [hN, ← World.size_alloc w (.cells #[.int .i64 (i : Nat)] 3)]; exact World.alloc_heap_new _ _
  rw [hW1]
  refine ⟨below_alloc0 (below_alloc0 (below_alloc0 (Below.refl _ _) _) _) _, ?_, ?_, ?_, by rw [World.size_alloc, World.size_alloc, World.size_alloc, hN], hN⟩
  ·rw [Below.heap_alloc _ _ _ (by rw [World.size_alloc, World.size_alloc, hN]; omega), Below.heap_alloc _ _ _ (by rw [World.size_alloc, hN]; omega)]
   exact e1
  ·rw [Below.heap_alloc _ _ _ (by rw [World.size_alloc, World.size_alloc, hN]; omega)]
   exact e2
  ·have e3 : N + 1 + 1 = ((w.alloc (.cells #[.int .i64 (i : Nat)] 3)).alloc (.cells #[.int .u64 0, .int .u64 0, .int .u64 0, .int .u64 0, .int .u64 0, .int .u64 0, .int .u64 0, .int .u64 0, .bool false] 45)).heap.size := by rw [World.size_alloc, World.size_alloc, hN]
   rw [e3]
   exact World.alloc_heap_new _ _
 rw [← hW1, ← hN]
 clear hW1 hN
 have HB : Hid ((W1.alloc (.cells #[.int .u64 1, .int .u64 0, .int .u64 0, .int .u64 0] 41)).heap[W1.heap.size]? = some (.cells #[.int .u64 1, .int .u64 0, .int .u64 0, .int .u64 0] 41)) := World.alloc_heap_new W1 _
 gi_upto_region 2 with (refine ⟨trivial, ?_⟩; gi_at_call 35; refine (callsIn_wide.2 (KR.out _ _ HB.out)).mono ?_; rintro e w2 ⟨g, rfl, hg2, hle2, hb2⟩; have H2 : Hid (w2.heap[g]? = some (.cells (onesR 64).toArray 41) ∧ N + 3 ≤ g ∧ Below W1.heap.size W1 w2) := ⟨hg2, by rw [World.size_alloc] at hle2; have := H1.out.2.2.2.2.1; omega, below_call0 (below_alloc0 (Below.refl _ _) _) hb2⟩; clear hg2 hle2 hb2)
 obtain ⟨b6, hb6⟩ : ∃ b, b = w2.heap.size := ⟨_, rfl⟩
 obtain ⟨W6, hW6⟩ : ∃ W6, W6 = w2.alloc (.cells #[.slice (some ⟨g, 0, none⟩) 64 64] 32) := ⟨_, rfl⟩
 have H6 : Hid (Below w.heap.size w W6 ∧ W6.heap[N]? = some (.cells #[.int .i64 (i : Nat)] 3) ∧ W6.heap[N + 1]? = some (.cells #[.int .u64 0, .int .u64 0, .int .u64 0, .int .u64 0, .int .u64 0, .int .u64 0, .int .u64 0, .int .u64 0, .bool false] 45) ∧ W6.heap[N + 1 + 1]? = some (.cells #[.int .i64 0] 25) ∧ W6.heap[b6]? = some (.cells #[.slice (some ⟨g, 0, none⟩) 64 64] 32) ∧ W6.heap[g]? = some (.cells (onesR 64).toArray 41) ∧ N = w.heap.size ∧ N + 3 ≤ g ∧ g < b6 ∧ b6 < W6.heap.size) := by
  have hs : W1.heap.size = N + 3 := H1.out.2.2.2.2.1
  have hgl : g < w2.heap.size := (Array.getElem?_eq_some_iff.1 H2.out.1).1
  have hb : Below W1.heap.size W1 W6 := by
   rw [hW6]
   exact below_alloc0 H2.out.2.2 _
  refine ⟨below_call0 H1.out.1 hb, (hb.block N (by omega)).trans H1.out.2.1, (hb.block (N + 1) (by omega)).trans H1.out.2.2.1, (hb.block (N + 1 + 1) (by omega)).trans H1.out.2.2.2.1, ?_, ?_, H1.out.2.2.2.2.2, H2.out.2.1, by omega, ?_⟩
  ·rw [hW6, hb6]
   exact World.alloc_heap_new w2 _
  ·rw [hW6, Below.heap_alloc _ _ _ hgl]
   exact H2.out.1
  ·rw [hW6, World.size_alloc]
   omega
 rw [← hW6, ← hb6]
 clear hW6 hb6 HB H1 H2 KR
 gi_upto_region 3 with fail
 obtain ⟨b7, hb7⟩ : ∃ b, b = W6.heap.size := ⟨_, rfl⟩
 obtain ⟨W7, hW7⟩ : ∃ W7, W7 = W6.alloc (.cells #[.int .u64 0, .int .u64 0, .int .u64 0, .int .u64 0, .int .u64 0, .int .u64 0, .int .u64 0, .int .u64 0, .bool true] 45) := ⟨_, rfl⟩
 have H7 : Hid (Below w.heap.size w W7 ∧ W7.heap[N]? = some (.cells #[.int .i64 (i : Nat)] 3) ∧ W7.heap[N + 1]? = some (.cells #[.int .u64 0, .int .u64 0, .int .u64 0, .int .u64 0, .int .u64 0, .int .u64 0, .int .u64 0, .int .u64 0, .bool false] 45) ∧ W7.heap[N + 1 + 1]? = some (.cells #[.int .i64 0] 25) ∧ W7.heap[b6]? = some (.cells #[.slice (some ⟨g, 0, none⟩) 64 64] 32) ∧ W7.heap[g]? = some (.cells (onesR 64).toArray 41) ∧ W7.heap[b7]? = some (.cells #[.int .u64 0, .int .u64 0, .int .u64 0, .int .u64 0, .int .u64 0, .int .u64 0, .int .u64 0, .int .u64 0, .bool true] 45) ∧ N = w.heap.size ∧ N + 3 ≤ g ∧ g < b6 ∧ b6 < b7 ∧ b7 < W7.heap.size) := by
  have hb : Below W6.heap.size W6 W7 := by
   rw [hW7]
   exact below_alloc0 (Below.refl _ _) _
  have h6 := H6.out.2.2.2.2.2.2
  refine ⟨below_call0 H6.out.1 hb, (hb.block N (by omega)).trans H6.out.2.1, (hb.block (N + 1) (by omega)).trans H6.out.2.2.1, (hb.block (N + 1 + 1) (by omega)).trans H6.out.2.2.2.1, (hb.block b6 (by omega)).trans H6.out.2.2.2.2.1, (hb.block g (by omega)).trans H6.out.2.2.2.2.2.1, ?_, h6.1, h6.2.1, h6.2.2.1, by omega, ?_⟩
  ·rw [hW7, hb7]
   exact World.alloc_heap_new W6 _
  ·rw [hW7, World.size_alloc]
   omega
 rw [← hW7, ← hb7]
 clear hW7 hb7 H6
 gi_wp2_with (refine ⟨trivial, ?_⟩; gi_at_call 36; refine (callsIn_wide.2 (KC.out _ _ _ _)).mono ?_; rintro e w8 ⟨rfl, hw8⟩; have HW8 : Hid _ := hw8; clear hw8)
 obtain ⟨C, hC⟩ : ∃ C, C = W7.heap.size := ⟨_, rfl⟩
 obtain ⟨M, hM⟩ : ∃ M, M = W1.heap.size := ⟨_, rfl⟩
 rw [← hC, ← hM]
 have H9 : Hid (Below w.heap.size w w8 ∧ w8.heap[N]? = some (.cells #[.int .i64 (i : Nat)] 3) ∧ w8.heap[N + 1]? = some (.cells #[.int .u64 0, .int .u64 0, .int .u64 0, .int .u64 0, .int .u64 0, .int .u64 0, .int .u64 0, .int .u64 0, .bool false] 45) ∧ w8.heap[N + 1 + 1]? = some (.cells #[.int .i64 0] 25) ∧ w8.heap[b6]? = some (.cells #[.slice (some ⟨g, 0, none⟩) 64 64] 32) ∧ w8.heap[g]? = some (.cells (onesR 64).toArray 41) ∧ w8.heap[b7]? = some (.cells #[.int .u64 0, .int .u64 0, .int .u64 0, .int .u64 0, .int .u64 0, .int .u64 0, .int .u64 0, .int .u64 0, .bool true] 45) ∧ (N = w.heap.size ∧ N + 3 ≤ g ∧ g < b6 ∧ b6 < b7 ∧ b7 < C) ∧ w8.heap[C]? = some (.cells #[.slice (some ⟨p, o, none⟩) m c] 22) ∧ w8.heap[C + 1]? = some (.cells #[.int .i64 63] 3) ∧ C + 1 < w8.heap.size) := by
  have hb : Below W7.heap.size W7 w8 := by
   rw [show w8 = _ from HW8.out]
   exact below_alloc0 (below_alloc0 (Below.refl _ _) _) _
  have h7 := H7.out.2.2.2.2.2.2.2
  refine ⟨below_call0 H7.out.1 hb, (hb.block N (by omega)).trans H7.out.2.1, (hb.block (N + 1) (by omega)).trans H7.out.2.2.1, (hb.block (N + 1 + 1) (by omega)).trans H7.out.2.2.2.1, (hb.block b6 (by omega)).trans H7.out.2.2.2.2.1, (hb.block g (by omega)).trans H7.out.2.2.2.2.2.1, (hb.block b7 (by omega)).trans H7.out.2.2.2.2.2.2.1, ⟨h7.1, h7.2.1, h7.2.2.1, h7.2.2.2.1, by omega⟩, ?_, ?_, ?_⟩
  ·rw [show w8 = _ from HW8.out, Below.heap_alloc _ _ _ (by rw [World.size_alloc]; omega), hC]
   exact World.alloc_heap_new _ _
  ·rw [show w8 = _ from HW8.out, hC, ← World.size_alloc W7 (.cells #[.slice (some ⟨p, o, none⟩) m c] 22)]
   exact World.alloc_heap_new _ _
  ·rw [show w8 = _ from HW8.out, World.size_alloc, World.size_alloc]
   omega
 clear hC hM HW8 H7 KC
 have c1 : w8.cell? ⟨C, 0, none⟩ = some (.slice (some ⟨p, o, none⟩) m c) := by
  have h := H9.out.2.2.2.2.2.2.2.2.1
  simp [World.cell?, h]
 have c2 : w8.cell? ⟨C + 1, 0, none⟩ = some (.int .i64 63) := by
  have h := H9.out.2.2.2.2.2.2.2.2.2.1
  simp [World.cell?, h]
 refine wpIn_rangeFunc_ownH rfl (by decide) (gf := 54) (lb := #[.pointer (some ⟨C, 0, none⟩), .pointer (some ⟨C + 1, 0, none⟩)]) rfl trivial (enters_of Tryd.func54 (by kernel_rfl) rfl)
  (chunk1_stops 2 (by decide) C (C + 1) ⟨p, o, none⟩ m c H0.out.2.2.2.1 H0.out.2.2.2.2.1 H0.out.2.2.2.2.2.1 w8 (by have := H9.out.2.2.2.2.2.2.2.2.2.2; omega) H9.out.2.2.2.2.2.2.2.2.2.2 c1 c2) (fun h k => KpD.trans h k) (KpD.put (w := w8)) (Below.refl _ _) (fun _ => rfl)
  (fun pre W => W.heap[N]? = some (.cells #[.int .i64 (i : Nat)] 3) ∧ W.heap[N + 1]? = some (.cells #[.int .u64 0, .int .u64 0, .int .u64 0, .int .u64 0, .int .u64 0, .int .u64 0, .int .u64 0, .int .u64 0, .bool false] 45) ∧ W.heap[N + 1 + 1]? = some (.cells #[.int .i64 0] 25) ∧ W.heap[b6]? = some (.cells #[.slice (some ⟨g, 0, none⟩) 64 64] 32) ∧ W.heap[g]? = some (.cells (onesR 64).toArray 41) ∧ W.heap[b7]? = some (.cells (if pre.length = 0 then #[.int .u64 0, .int .u64 0, .int .u64 0, .int .u64 0, .int .u64 0, .int .u64 0, .int .u64 0, .int .u64 0, .bool true] else #[.int .u64 (limb X 0 : Nat), .int .u64 (limb X 1 : Nat), .int .u64 (limb X 2 : Nat), .int .u64 (limb X 3 : Nat), .int .u64 (limb Y 0 : Nat), .int .u64 (limb Y 1 : Nat), .int .u64 (limb Y 2 : Nat), .int .u64 (limb Y 3 : Nat), .bool I]) 45) ∧ Below w.heap.size w W)
  (fun _ _ _ => False)
  ((cells_ownFrom _ _ (fun _ => #[.int .i64 (i : Nat)]) _).and ((cells_ownFrom _ _ (fun _ => #[.int .u64 0, .int .u64 0, .int .u64 0, .int .u64 0, .int .u64 0, .int .u64 0, .int .u64 0, .int .u64 0, .bool false]) _).and ((cells_ownFrom _ _ (fun _ => #[.int .i64 0]) _).and ((cells_ownFrom _ _ (fun _ => #[.slice (some ⟨g, 0, none⟩) 64 64]) _).and ((cells_ownFrom _ _ (fun _ => (onesR 64).toArray) _).and ((cells_ownFrom _ _ (fun pre : List Unit => if pre.length = 0 then #[.int .u64 0, .int .u64 0, .int .u64 0, .int .u64 0, .int .u64 0, .int .u64 0, .int .u64 0, .int .u64 0, .bool true] else #[.int .u64 (limb X 0 : Nat), .int .u64 (limb X 1 : Nat), .int .u64 (limb X 2 : Nat), .int .u64 (limb X 3 : Nat), .int .u64 (limb Y 0 : Nat), .int .u64 (limb Y 1 : Nat), .int .u64 (limb Y 2 : Nat), .int .u64 (limb Y 3 : Nat), .bool I]) _).and (ownFrom_below (Nat.le_refl _) H9.out.1.size)))))))
  (fun _ _ _ _ _ hs _ _ => hs)
  ⟨H9.out.2.1, H9.out.2.2.1, H9.out.2.2.2.1, H9.out.2.2.2.2.1, H9.out.2.2.2.2.2.1, H9.out.2.2.2.2.2.2.1, H9.out.1⟩
  (fun _ a' _ => a' = { tmps := #[.slice (some ⟨p, o, none⟩) m c, .int .i64 (i : Nat), undef, .pointer (some ⟨N, 0, none⟩), .pointer (some ⟨N + 1, 0, none⟩), .pointer (some ⟨N + 1 + 1, 0, none⟩), .pointer (some ⟨b6, 0, none⟩), .pointer (some ⟨b7, 0, none⟩), .slice (some ⟨p, o, none⟩) m m, undef, undef, undef, undef, .agg #[.int .u64 1, .int .u64 0, .int .u64 0, .int .u64 0], .slice (some ⟨M, 0, none⟩) 1 1, .slice (some ⟨g, 0, none⟩) 64 64, .agg #[.int .u64 0, .int .u64 0, .int .u64 0, .int .u64 0, .int .u64 0, .int .u64 0, .int .u64 0, .int .u64 0, .bool true], .slice (some ⟨p, o, none⟩) m c, .func (.func 54) #[] #[.pointer (some ⟨C, 0, none⟩), .pointer (some ⟨C + 1, 0, none⟩)], .slice (some ⟨p, o, none⟩) m m, undef, undef, undef, undef, undef, undef, undef, undef, undef, undef, undef, undef, undef, undef, undef, undef, undef, undef, undef, undef, undef, undef, undef, undef, undef, undef, undef, undef, undef, undef], defers := [] })
  (fun x a' _ X Y row hs hg hr => hs)
  ?assign ?body ?done ?stop
 case assign =>
  rintro l pre x W K hI hK
  gi_wp2
  exact hK _ _ (KeepsFrom.refl _ _) (fun _ _ _ h _ => h) hI rfl
 case body =>
  rintro l pre x a' W hl ⟨r, hr⟩ hI rfl hlt
  obtain rfl : pre = [] := List.eq_nil_of_length_eq_zero (by omega)
  have b7h : W.heap[b7]? = some (.cells #[.int .u64 0, .int .u64 0, .int .u64 0, .int .u64 0, .int .u64 0, .int .u64 0, .int .u64 0, .int .u64 0, .bool true] 45) := by simpa using hI.2.2.2.2.2.1
  have HI : Hid (W.heap[N]? = some (.cells #[.int .i64 (i : Nat)] 3) ∧ W.heap[N + 1]? = some (.cells #[.int .u64 0, .int .u64 0, .int .u64 0, .int .u64 0, .int .u64 0, .int .u64 0, .int .u64 0, .int .u64 0, .bool false] 45) ∧ W.heap[N + 1 + 1]? = some (.cells #[.int .i64 0] 25) ∧ W.heap[b6]? = some (.cells #[.slice (some ⟨g, 0, none⟩) 64 64] 32) ∧ W.heap[g]? = some (.cells (onesR 64).toArray 41) ∧ W.heap[b7]? = some (.cells #[.int .u64 0, .int .u64 0, .int .u64 0, .int .u64 0, .int .u64 0, .int .u64 0, .int .u64 0, .int .u64 0, .bool true] 45) ∧ Below w.heap.size w W) := ⟨hI.1, hI.2.1, hI.2.2.1, hI.2.2.2.1, hI.2.2.2.2.1, b7h, hI.2.2.2.2.2.2⟩
  have L7 : Hid ((loadVar 45 ⟨b7, 0, none⟩).run Tryd.prog W = .ok (.agg #[.int .u64 0, .int .u64 0, .int .u64 0, .int .u64 0, .int .u64 0, .int .u64 0, .int .u64 0, .int .u64 0, .bool true]) W) := run_loadVar_row (P := Tryd.prog) _ _ _ _ _ _ _ b7h Tryd.underlying45 rfl (by kernel_rfl)
  have m64 : (m : Int) ≤ 63 := by have := H0.out.2.2.2.2.1; omega
  clear hI hr hlt b7h
  gi_upto_region 6 with ((with_reducible refine load_in (b := b7) (x := 7) ?_ ?_ ?_ L7.out ?_); rfl; rfl; rfl)
  obtain ⟨q, hq⟩ : ∃ q, q = W.heap.size := ⟨_, rfl⟩
  obtain ⟨W5, hW5⟩ : ∃ W5, W5 = W.alloc (.cells #[.int .u64 0, .int .u64 0, .int .u64 0, .int .u64 0, .int .u64 0, .int .u64 0, .int .u64 0, .int .u64 0, .bool true] 45) := ⟨_, rfl⟩
  have H5 : Hid (RowT W5 q (some ⟨q, 0, none⟩) [zT] 1 ∧ Below W.heap.size W W5 ∧ q = W.heap.size) := by
   rw [hW5, hq]
   exact ⟨RowT.one W zT, below_alloc0 (Below.refl _ _) _, rfl⟩
  rw [← hW5, ← hq]
  clear hW5 hq L7
  gi_wp2_with fail
  rename_i Kr hKr
  have HKr : Hid _ := hKr
  clear hKr
  gi_loopw [9, 24] (fun sv iv wr => ∃ (k mm : Nat) (b : Option Addr) (d : Nat), k ≤ m ∧ mm = k + 1 ∧ iv = .int .i64 (k : Nat) ∧ sv = .slice b mm d ∧ RowT wr q b (zT :: (Ls.take k).map fun s => s.getD i zT) d ∧ Below W.heap.size W wr) (fun _ iv _ => m - (Go.RowKit.intOf iv).toNat)
  case atStart => exact ⟨0, 1, _, 1, Nat.zero_le _, rfl, rfl, rfl, H5.out.1, H5.out.2.1⟩
  case round =>
   obtain ⟨k, mm, b, d, hk, hmm, rfl, rfl, hO, hB⟩ := hrel
   rename World => wr
   have HC : Hid (RowT wr q b (zT :: (Ls.take k).map fun s => s.getD i zT) d ∧ Below W.heap.size W wr ∧ mm = k + 1 ∧ k ≤ m) := ⟨hO, hB, hmm, hk⟩
   clear hO hB hmm hk
   have hBw : Below w.heap.size w wr := below_call0 HI.out.2.2.2.2.2.2 HC.out.2.1
   by_cases hlt : k < m
   ·clear HKr
    have hlt' : (k : Int) < (m : Int) := Int.ofNat_lt.2 hlt
    have hkl : k < Ls.length := by rw [← H0.out.2.2.1]; exact hlt
    obtain ⟨s, hs⟩ : ∃ s, s = Ls[k]'hkl := ⟨_, rfl⟩
    obtain ⟨p', o', ra, rc, he, hcell, hpts, hpl⟩ := (H0.out.2.1.call hBw) k s (by rw [hs]; exact List.getElem?_eq_getElem hkl)
    injection he with he
    injection he with he1 he2
    subst he1 he2
    have his : i < s.length := by rw [hs]; exact H0.out.2.2.2.2.2.2 _ (List.getElem_mem hkl)
    obtain ⟨pb, po, rfl, hPB⟩ := hpts.get his
    obtain ⟨P, hP⟩ : ∃ P, P = s[i]'his := ⟨_, rfl⟩
    rw [← hP] at hPB
    have his' : (i : Int) < (s.length : Int) := Int.ofNat_lt.2 his
    obtain ⟨sl, hsl⟩ : ∃ n, n = s.length := ⟨_, rfl⟩
    rw [← hsl] at hcell his'
    have LN : Hid ((loadVar 45 ⟨pb, po + i * 9, none⟩).run Tryd.prog wr = .ok (.agg #[.int .u64 (limb P.1 0 : Nat), .int .u64 (limb P.1 1 : Nat), .int .u64 (limb P.1 2 : Nat), .int .u64 (limb P.1 3 : Nat), .int .u64 (limb P.2.1 0 : Nat), .int .u64 (limb P.2.1 1 : Nat), .int .u64 (limb P.2.1 2 : Nat), .int .u64 (limb P.2.1 3 : Nat), .bool P.2.2]) wr) := hPB.loadT
    have HE : Hid (k < m ∧ (zT :: (Ls.take k).map fun s => s.getD i zT) ++ [P] = zT :: (Ls.take (k + 1)).map fun s => s.getD i zT) := by
     refine ⟨hlt, ?_⟩
     rw [List.take_succ_eq_append_getElem hkl, List.map_append, List.cons_append, ← hs, hP]
     simp [his]
    have cN : wr.cell? ⟨N, 0, none⟩ = some (.int .i64 (i : Nat)) := by
     have h := (HC.out.2.1.block N (Array.getElem?_eq_some_iff.1 HI.out.1).1).trans HI.out.1
     simp [World.cell?, h]
    obtain ⟨L, hL⟩ : ∃ L, L = zT :: (Ls.take k).map fun s => s.getD i zT := ⟨_, rfl⟩
    have hLl : L.length = k + 1 := by rw [hL, List.length_cons, List.length_map, List.length_take]; omega
    rw [← hL] at HE HC
    have H6 : Hid (RowT (wr.alloc (.cells #[.int .u64 (limb P.1 0 : Nat), .int .u64 (limb P.1 1 : Nat), .int .u64 (limb P.1 2 : Nat), .int .u64 (limb P.1 3 : Nat), .int .u64 (limb P.2.1 0 : Nat), .int .u64 (limb P.2.1 1 : Nat), .int .u64 (limb P.2.1 2 : Nat), .int .u64 (limb P.2.1 3 : Nat), .bool P.2.2] 45)) q b L d ∧ Below W.heap.size W (wr.alloc (.cells #[.int .u64 (limb P.1 0 : Nat), .int .u64 (limb P.1 1 : Nat), .int .u64 (limb P.1 2 : Nat), .int .u64 (limb P.1 3 : Nat), .int .u64 (limb P.2.1 0 : Nat), .int .u64 (limb P.2.1 1 : Nat), .int .u64 (limb P.2.1 2 : Nat), .int .u64 (limb P.2.1 3 : Nat), .bool P.2.2] 45)) ∧ Bl (wr.alloc (.cells #[.int .u64 (limb P.1 0 : Nat), .int .u64 (limb P.1 1 : Nat), .int .u64 (limb P.1 2 : Nat), .int .u64 (limb P.1 3 : Nat), .int .u64 (limb P.2.1 0 : Nat), .int .u64 (limb P.2.1 1 : Nat), .int .u64 (limb P.2.1 2 : Nat), .int .u64 (limb P.2.1 3 : Nat), .bool P.2.2] 45)) wr.heap.size (tV P) 45 ∧ mm = L.length ∧ L.length ≤ 1000000 ∧ q ≤ (wr.alloc (.cells #[.int .u64 (limb P.1 0 : Nat), .int .u64 (limb P.1 1 : Nat), .int .u64 (limb P.1 2 : Nat), .int .u64 (limb P.1 3 : Nat), .int .u64 (limb P.2.1 0 : Nat), .int .u64 (limb P.2.1 1 : Nat), .int .u64 (limb P.2.1 2 : Nat), .int .u64 (limb P.2.1 3 : Nat), .bool P.2.2] 45)).heap.size) :=
     ⟨HC.out.1.call (below_alloc0 (Below.refl _ _) _), below_alloc0 HC.out.2.1 _, Bl.new wr (tV P) _, by rw [hLl]; exact HC.out.2.2.1, by rw [hLl]; have := H0.out.2.2.2.2.1; omega, by have h1 := HC.out.2.1.size; have h2 := H5.out.2.2; rw [World.size_alloc]; omega⟩
    clear hL hLl hPB hP hpts hs hkl his hsl hlt hpl hBw
    gi_wp2_with (first | ((with_reducible refine load_ink (b := pb) (k := po + i * 9) (x := 31) ?_ ?_ ?_ LN.out ?_); rfl; rfl; rfl) | (gi_at_builtin; refine wpListIn_append_RowT _ rfl (.tmp 28) (.tmp 33) rfl q b mm d L P rfl H6.out.2.2.2.1 H6.out.1 H6.out.2.2.2.2.2 H6.out.2.2.2.2.1 wr.heap.size 1 rfl H6.out.2.2.1 ?_; intro b7' m7 d7 w7 hm7 hR7 hb7; have H7 : Hid (m7 = mm + 1 ∧ RowT w7 q b7' (L ++ [P]) d7 ∧ Below W.heap.size W w7) := ⟨hm7, hR7, H6.out.2.1.trans (hb7.mono (Nat.le_of_eq H5.out.2.2.symm))⟩; clear hm7 hR7 hb7 H6))
    go_roundw
    case rel => first | exact ⟨k + 1, m7, b7', d7, HE.out.1, by have := H7.out.1; have := HC.out.2.2.1; omega, by go_num, rfl, by rw [← HE.out.2]; exact H7.out.2.1, H7.out.2.2⟩ | ((repeat apply Exists.intro); exact ⟨⟨k + 1, m7, b7', d7, HE.out.1, by have := H7.out.1; have := HC.out.2.2.1; omega, by go_num, rfl, by rw [← HE.out.2]; exact H7.out.2.1, H7.out.2.2⟩, rfl⟩)
    case measure => have := HE.out.1; simp [Go.RowKit.intOf]; omega
   ·obtain rfl : k = m := by have := HC.out.2.2.2; omega
    have hnl : ¬ ((k : Int) < (k : Int)) := Int.lt_irrefl _
    clear hlt
    gi_wp2_with fail
    refine HKr.out _ _ ?_
    clear HKr
    have hmm := HC.out.2.2.1
    subst hmm
    have hbk := H9.out.2.2.2.2.2.2.2.1
    have L6 : wr.cell? ⟨b6, 0, none⟩ = some (.slice (some ⟨g, 0, none⟩) 64 64) := by
     have h := (HC.out.2.1.block b6 (Array.getElem?_eq_some_iff.1 HI.out.2.2.2.1).1).trans HI.out.2.2.2.1
     simp [World.cell?, h]
    have LG : wr.heap[g]? = some (.cells (onesR 64).toArray 41) := (HC.out.2.1.block g (Array.getElem?_eq_some_iff.1 HI.out.2.2.2.2.1).1).trans HI.out.2.2.2.2.1
    have KS : Hid (Calls Tryd.prog 37 #[.slice (some ⟨g, 0, none⟩) (k + 1) 64, .slice b (k + 1) d] wr fun e w' => e = .returned (.tuple #[.agg #[.int .u64 (limb X 0 : Nat), .int .u64 (limb X 1 : Nat), .int .u64 (limb X 2 : Nat), .int .u64 (limb X 3 : Nat), .int .u64 (limb Y 0 : Nat), .int .u64 (limb Y 1 : Nat), .int .u64 (limb Y 2 : Nat), .int .u64 (limb Y 3 : Nat), .bool I], .int .i64 0]) ∧ Below wr.heap.size wr w') := by
     have hGw : GA wr := H0.out.1.call hBw
     have hO := HC.out.1.pnts
     rw [List.take_of_length_le (by rw [← H0.out.2.2.1]; exact Nat.le_refl _)] at hO
     exact KSS.out g d b wr hGw (ones_at LG (by have := H0.out.2.2.2.2.1; omega)) hO
    clear LG hBw
    gi_wp2_with (first | (refine ⟨trivial, ?_⟩; gi_at_call 37; refine (CallsIn.inRound l (callsIn_wide.2 KS.out)).mono ?_; rintro e w6 ⟨rfl, hb6⟩; have H8 : Hid (Below W.heap.size W w6 ∧ w6.heap[b7]? = some (.cells #[.int .u64 0, .int .u64 0, .int .u64 0, .int .u64 0, .int .u64 0, .int .u64 0, .int .u64 0, .int .u64 0, .bool true] 45)) := ⟨below_call0 HC.out.2.1 hb6, ((below_call0 HC.out.2.1 hb6).block b7 (Array.getElem?_eq_some_iff.1 HI.out.2.2.2.2.2.1).1).trans HI.out.2.2.2.2.2.1⟩; have HS : Hid ((storeVar 45 ⟨b7, 0, none⟩ (.agg #[.int .u64 (limb X 0 : Nat), .int .u64 (limb X 1 : Nat), .int .u64 (limb X 2 : Nat), .int .u64 (limb X 3 : Nat), .int .u64 (limb Y 0 : Nat), .int .u64 (limb Y 1 : Nat), .int .u64 (limb Y 2 : Nat), .int .u64 (limb Y 3 : Nat), .bool I])).run Tryd.prog w6 = .ok () (w6.setRow b7 #[.int .u64 (limb X 0 : Nat), .int .u64 (limb X 1 : Nat), .int .u64 (limb X 2 : Nat), .int .u64 (limb X 3 : Nat), .int .u64 (limb Y 0 : Nat), .int .u64 (limb Y 1 : Nat), .int .u64 (limb Y 2 : Nat), .int .u64 (limb Y 3 : Nat), .bool I])) := Bl.store (vs := [.int .u64 0, .int .u64 0, .int .u64 0, .int .u64 0, .int .u64 0, .int .u64 0, .int .u64 0, .int .u64 0, .bool true]) (us := [.int .u64 (limb X 0 : Nat), .int .u64 (limb X 1 : Nat), .int .u64 (limb X 2 : Nat), .int .u64 (limb X 3 : Nat), .int .u64 (limb Y 0 : Nat), .int .u64 (limb Y 1 : Nat), .int .u64 (limb Y 2 : Nat), .int .u64 (limb Y 3 : Nat), .bool I]) H8.out.2 (by kernel_rfl) rfl (by kernel_rfl); clear hb6) | ((with_reducible refine store_in (b := b7) (x := 7) (y := 43) ?_ ?_ ?_ ?_ HS.out ?_); rfl; rfl; rfl; rfl))
    have h8 := H8.out
    exact ⟨⟨by rw [setRow_size]; exact h8.1.size, fun k' o' _ hk' hc' => chg b7 _ h8.1 (by rintro rfl; rw [HI.out.2.2.2.2.2.1] at hk'; cases hk'; cases hc') hk'⟩, fun k' o' hkk ho' _ => chg b7 _ h8.1 (by omega) ho', chg b7 _ h8.1 (by omega) HI.out.1, chg b7 _ h8.1 (by omega) HI.out.2.1, chg b7 _ h8.1 (by omega) HI.out.2.2.1, chg b7 _ h8.1 (by omega) HI.out.2.2.2.1, chg b7 _ h8.1 (by omega) HI.out.2.2.2.2.1, by simpa using setRow_heap w6 b7 _ _ _ _ h8.2, below_setRow (by omega) _ (below_call0 HI.out.2.2.2.2.2.2 h8.1)⟩
 case done =>
  rintro D zs W hD rfl hI hK
  have hbk := H9.out.2.2.2.2.2.2.2.1
  have h7 : W.heap[b7]? = some (.cells #[.int .u64 (limb X 0 : Nat), .int .u64 (limb X 1 : Nat), .int .u64 (limb X 2 : Nat), .int .u64 (limb X 3 : Nat), .int .u64 (limb Y 0 : Nat), .int .u64 (limb Y 1 : Nat), .int .u64 (limb Y 2 : Nat), .int .u64 (limb Y 3 : Nat), .bool I] 45) := by simpa using hI.2.2.2.2.2.1
  have L7 : Hid ((loadVar 45 ⟨b7, 0, none⟩).run Tryd.prog W = .ok (.agg #[.int .u64 (limb X 0 : Nat), .int .u64 (limb X 1 : Nat), .int .u64 (limb X 2 : Nat), .int .u64 (limb X 3 : Nat), .int .u64 (limb Y 0 : Nat), .int .u64 (limb Y 1 : Nat), .int .u64 (limb Y 2 : Nat), .int .u64 (limb Y 3 : Nat), .bool I]) W) := run_loadVar_row (P := Tryd.prog) _ _ _ _ _ _ _ h7 Tryd.underlying45 rfl (by kernel_rfl)
  have HS : Hid ((storeVar 45 ⟨N + 1, 0, none⟩ (.agg #[.int .u64 (limb X 0 : Nat), .int .u64 (limb X 1 : Nat), .int .u64 (limb X 2 : Nat), .int .u64 (limb X 3 : Nat), .int .u64 (limb Y 0 : Nat), .int .u64 (limb Y 1 : Nat), .int .u64 (limb Y 2 : Nat), .int .u64 (limb Y 3 : Nat), .bool I])).run Tryd.prog W = .ok () (W.setRow (N + 1) #[.int .u64 (limb X 0 : Nat), .int .u64 (limb X 1 : Nat), .int .u64 (limb X 2 : Nat), .int .u64 (limb X 3 : Nat), .int .u64 (limb Y 0 : Nat), .int .u64 (limb Y 1 : Nat), .int .u64 (limb Y 2 : Nat), .int .u64 (limb Y 3 : Nat), .bool I])) := Bl.store (vs := [.int .u64 0, .int .u64 0, .int .u64 0, .int .u64 0, .int .u64 0, .int .u64 0, .int .u64 0, .int .u64 0, .bool false]) (us := [.int .u64 (limb X 0 : Nat), .int .u64 (limb X 1 : Nat), .int .u64 (limb X 2 : Nat), .int .u64 (limb X 3 : Nat), .int .u64 (limb Y 0 : Nat), .int .u64 (limb Y 1 : Nat), .int .u64 (limb Y 2 : Nat), .int .u64 (limb Y 3 : Nat), .bool I]) hI.2.1 (by kernel_rfl) rfl (by kernel_rfl)
  have hE : (W.setRow (N + 1) #[.int .u64 (limb X 0 : Nat), .int .u64 (limb X 1 : Nat), .int .u64 (limb X 2 : Nat), .int .u64 (limb X 3 : Nat), .int .u64 (limb Y 0 : Nat), .int .u64 (limb Y 1 : Nat), .int .u64 (limb Y 2 : Nat), .int .u64 (limb Y 3 : Nat), .bool I]).heap[N + 1 + 1]? = some (.cells #[.int .i64 0] 25) := by
   rw [setRow_other W (N + 1) (N + 1 + 1) _ (by omega)]
   exact hI.2.2.1
  have cE : (W.setRow (N + 1) #[.int .u64 (limb X 0 : Nat), .int .u64 (limb X 1 : Nat), .int .u64 (limb X 2 : Nat), .int .u64 (limb X 3 : Nat), .int .u64 (limb Y 0 : Nat), .int .u64 (limb Y 1 : Nat), .int .u64 (limb Y 2 : Nat), .int .u64 (limb Y 3 : Nat), .bool I]).cell? ⟨N + 1 + 1, 0, none⟩ = some (.int .i64 0) := by simp [World.cell?, hE]
  have zE : (W.setRow (N + 1) #[.int .u64 (limb X 0 : Nat), .int .u64 (limb X 1 : Nat), .int .u64 (limb X 2 : Nat), .int .u64 (limb X 3 : Nat), .int .u64 (limb Y 0 : Nat), .int .u64 (limb Y 1 : Nat), .int .u64 (limb Y 2 : Nat), .int .u64 (limb Y 3 : Nat), .bool I]).frozen? ⟨N + 1 + 1, 0, none⟩ = false := by simp [World.frozen?, hE]
  have hO : (W.setRow (N + 1) #[.int .u64 (limb X 0 : Nat), .int .u64 (limb X 1 : Nat), .int .u64 (limb X 2 : Nat), .int .u64 (limb X 3 : Nat), .int .u64 (limb Y 0 : Nat), .int .u64 (limb Y 1 : Nat), .int .u64 (limb Y 2 : Nat), .int .u64 (limb Y 3 : Nat), .bool I]).heap[N + 1]? = some (.cells #[.int .u64 (limb X 0 : Nat), .int .u64 (limb X 1 : Nat), .int .u64 (limb X 2 : Nat), .int .u64 (limb X 3 : Nat), .int .u64 (limb Y 0 : Nat), .int .u64 (limb Y 1 : Nat), .int .u64 (limb Y 2 : Nat), .int .u64 (limb Y 3 : Nat), .bool I] 45) := setRow_heap W (N + 1) _ _ _ _ hI.2.1
  have hDD : (W.setRow (N + 1) #[.int .u64 (limb X 0 : Nat), .int .u64 (limb X 1 : Nat), .int .u64 (limb X 2 : Nat), .int .u64 (limb X 3 : Nat), .int .u64 (limb Y 0 : Nat), .int .u64 (limb Y 1 : Nat), .int .u64 (limb Y 2 : Nat), .int .u64 (limb Y 3 : Nat), .bool I]).heap[D]? = some (.deferred (some [])) := by
   rw [setRow_other W (N + 1) D _ (by have := H9.out.2.2.2.2.2.2.2.2.2.2; omega)]
   exact hK
  have HZ : Hid (Below w.heap.size w W ∧ (W.setRow (N + 1) #[.int .u64 (limb X 0 : Nat), .int .u64 (limb X 1 : Nat), .int .u64 (limb X 2 : Nat), .int .u64 (limb X 3 : Nat), .int .u64 (limb Y 0 : Nat), .int .u64 (limb Y 1 : Nat), .int .u64 (limb Y 2 : Nat), .int .u64 (limb Y 3 : Nat), .bool I]).heap[N + 1]? = some (.cells #[.int .u64 (limb X 0 : Nat), .int .u64 (limb X 1 : Nat), .int .u64 (limb X 2 : Nat), .int .u64 (limb X 3 : Nat), .int .u64 (limb Y 0 : Nat), .int .u64 (limb Y 1 : Nat), .int .u64 (limb Y 2 : Nat), .int .u64 (limb Y 3 : Nat), .bool I] 45) ∧ (W.setRow (N + 1) #[.int .u64 (limb X 0 : Nat), .int .u64 (limb X 1 : Nat), .int .u64 (limb X 2 : Nat), .int .u64 (limb X 3 : Nat), .int .u64 (limb Y 0 : Nat), .int .u64 (limb Y 1 : Nat), .int .u64 (limb Y 2 : Nat), .int .u64 (limb Y 3 : Nat), .bool I]).heap[D]? = some (.deferred (some [])) ∧ C + 1 < D ∧ N = w.heap.size ∧ N + 1 + 1 < C ∧ (W.setRow (N + 1) #[.int .u64 (limb X 0 : Nat), .int .u64 (limb X 1 : Nat), .int .u64 (limb X 2 : Nat), .int .u64 (limb X 3 : Nat), .int .u64 (limb Y 0 : Nat), .int .u64 (limb Y 1 : Nat), .int .u64 (limb Y 2 : Nat), .int .u64 (limb Y 3 : Nat), .bool I]).heap[N + 1 + 1]? = some (.cells #[.int .i64 0] 25)) := ⟨hI.2.2.2.2.2.2, hO, hDD, by have := H9.out.2.2.2.2.2.2.2.2.2.2; omega, hbk.1, by omega, hE⟩
  obtain ⟨W2, hW2⟩ : ∃ W2, W2 = W.setRow (N + 1) #[.int .u64 (limb X 0 : Nat), .int .u64 (limb X 1 : Nat), .int .u64 (limb X 2 : Nat), .int .u64 (limb X 3 : Nat), .int .u64 (limb Y 0 : Nat), .int .u64 (limb Y 1 : Nat), .int .u64 (limb Y 2 : Nat), .int .u64 (limb Y 3 : Nat), .bool I] := ⟨_, rfl⟩
  rw [← hW2] at HS cE zE HZ
  have HW2 : Hid (Below w.heap.size w W2) := by
   rw [hW2]
   exact below_setRow (by omega) _ hI.2.2.2.2.2.2
  clear hI hK hE hO hDD h7 hW2 hD hbk
  gi_wp2_with (first | ((with_reducible refine load_in (b := b7) (x := 7) ?_ ?_ ?_ L7.out ?_); rfl; rfl; rfl) | ((with_reducible refine store_in (b := N + 1) (x := 4) (y := 49) ?_ ?_ ?_ ?_ HS.out ?_); rfl; rfl; rfl; rfl))
  have hz := HZ.out
  have hK2 : (W2.setCell ⟨N + 1 + 1, 0, none⟩ (.int .i64 0)).heap[D]? = some (.deferred (some [])) := (KeepsOthers.setCell _ _ _).same D _ hz.2.2.1 rfl
  have bX : Boxed W2 (N + 1 + 1) 25 (.int .i64 0) := hz.2.2.2.2.2.2
  have bY := bX.set (.int .i64 0)
  have hO2 : (W2.setCell ⟨N + 1 + 1, 0, none⟩ (.int .i64 0)).heap[N + 1]? = some (.cells #[.int .u64 (limb X 0 : Nat), .int .u64 (limb X 1 : Nat), .int .u64 (limb X 2 : Nat), .int .u64 (limb X 3 : Nat), .int .u64 (limb Y 0 : Nat), .int .u64 (limb Y 1 : Nat), .int .u64 (limb Y 2 : Nat), .int .u64 (limb Y 3 : Nat), .bool I] 45) := ((grownBy_setCell' W2 (N + 1 + 1) (.int .i64 0)).block (N + 1) (Array.getElem?_eq_some_iff.1 hz.2.1).1 (by intro e; injection e with e; omega)).trans hz.2.1
  refine ⟨by simp, .inl ⟨_, _, rfl, run_takeDeferred hK2, ?_⟩⟩
  have hc5 := cell_kept bY.cell (grownBy_putObj' _ D (.deferred none)) (fun r e => by cases e; exact ⟨_, hK2, rfl⟩)
  have hO3 : ((W2.setCell ⟨N + 1 + 1, 0, none⟩ (.int .i64 0)).putObj D (.deferred none)).heap[N + 1]? = some (.cells #[.int .u64 (limb X 0 : Nat), .int .u64 (limb X 1 : Nat), .int .u64 (limb X 2 : Nat), .int .u64 (limb X 3 : Nat), .int .u64 (limb Y 0 : Nat), .int .u64 (limb Y 1 : Nat), .int .u64 (limb Y 2 : Nat), .int .u64 (limb Y 3 : Nat), .bool I] 45) := by
   rw [World.putObj_heap_other (k := N + 1) (by omega)]
   exact hO2
  obtain ⟨W3, hW3⟩ : ∃ W3, W3 = (W2.setCell ⟨N + 1 + 1, 0, none⟩ (.int .i64 0)).putObj D (.deferred none) := ⟨_, rfl⟩
  have hBB : Below w.heap.size w W3 := by
   rw [hW3]
   exact (HW2.out.setCell (p := ⟨N + 1 + 1, 0, none⟩) (by show w.heap.size ≤ N + 1 + 1; omega) _).trans (belowK_b (w := w) (Nat.le_refl _) _ D _ _ (by omega) hK2 rfl rfl)
  rw [← hW3] at hc5 hO3 ⊢
  have K : ∀ j v, (ptL X Y I)[j]? = some v → W3.cell? ⟨N + 1, j, none⟩ = some v := fun j v hv => by simpa [World.cell?, hO3, ptL] using hv
  have q0 := K 0 _ rfl
  have q1 := K 1 _ rfl
  have q2 := K 2 _ rfl
  have q3 := K 3 _ rfl
  have q4 := K 4 _ rfl
  have q5 := K 5 _ rfl
  have q6 := K 6 _ rfl
  have q7 := K 7 _ rfl
  have q8 := K 8 _ rfl
  clear K hO3 hW3
  refine ⟨.tuple #[.agg #[.int .u64 (limb X 0 : Nat), .int .u64 (limb X 1 : Nat), .int .u64 (limb X 2 : Nat), .int .u64 (limb X 3 : Nat), .int .u64 (limb Y 0 : Nat), .int .u64 (limb Y 1 : Nat), .int .u64 (limb Y 2 : Nat), .int .u64 (limb Y 3 : Nat), .bool I], .int .i64 0], ?_, rfl, hBB⟩
  simp [results, Tryd.results17, asAddr, go_sem, hc5, q0, q1, q2, q3, q4, q5, q6, q7, q8]
 case stop =>
  rintro D c pre W _ _ h _
  exact h.elim
end Go.Proofs.YtfkpbcionlidaaaDoor

namespace Go.Proofs.YtfkpbcionlidaaaDoor
open Go Go.RowKit Go.Lib Go.Shelf
attribute [local go_sem] Oper.semAt_some
set_option maxRecDepth 100000 in
set_option maxHeartbeats 4000000 in
theorem sumAtT_err (Ls : List (List T3)) (m : Nat) (a : Option Addr) (c i : Nat) (hm : m = Ls.length) (h1 : 1 ≤ m) (h2 : m ≤ 63) (hc : m ≤ c) (hi : ∀ s ∈ Ls, i < s.length) (hS : ∀ (g d : Nat) (b : Option Addr) (w : World), GA w → NumsAt w (some ⟨g, 0, none⟩) (List.replicate (m + 1) 1) → PntsAt w b (zT :: colT Ls i) → Calls Tryd.prog 37 #[.slice (some ⟨g, 0, none⟩) (m + 1) 64, .slice b (m + 1) d] w fun e w' => e = .returned (.tuple #[.agg #[.int .u64 0, .int .u64 0, .int .u64 0, .int .u64 0, .int .u64 0, .int .u64 0, .int .u64 0, .int .u64 0, .bool false], .int .i64 30]) ∧ Below w.heap.size w w') (w : World) (hG : GA w) (hP : RowsT w a Ls) :
  Calls Tryd.prog 17 #[.slice a m c, .int .i64 (i : Nat)] w fun e w' => e = .returned (.tuple #[.agg #[.int .u64 0, .int .u64 0, .int .u64 0, .int .u64 0, .int .u64 0, .int .u64 0, .int .u64 0, .int .u64 0, .bool false], .int .i64 30]) ∧ Below w.heap.size w w' := by
 obtain ⟨p, o, ra0, rc0, rfl, -, -, -⟩ := hP 0 _ (List.getElem?_eq_getElem (by omega))
 have KR : Hid _ := repeat_ones
 have KC : Hid _ := fun a n c w => chunk_any a n c w
 have H0 : Hid (GA w ∧ RowsT w (some ⟨p, o, none⟩) Ls ∧ m = Ls.length ∧ 1 ≤ m ∧ m ≤ 63 ∧ m ≤ c ∧ (∀ s ∈ Ls, i < s.length)) := ⟨hG, hP, hm, h1, h2, hc, hi⟩
 have KSS : Hid _ := hS
 clear hm h1 h2 hc hi hS hG hP
 refine (callsIn_wide (n := 3)).1 ?_
 refine callsIn_of_wp_marks Tryd.func17 rfl trivial ?_
 simp only [Tryd.ntmps17, List.size_toArray, List.length_cons, List.length_nil, Nat.reduceAdd, Nat.reduceSub, Array.replicate_succ, Array.replicate_zero, List.push_toArray, List.append_toArray, List.nil_append, List.cons_append]
 gi_upto_region 1 with fail
 obtain ⟨N, hN⟩ : ∃ N, N = w.heap.size := ⟨_, rfl⟩
 obtain ⟨W1, hW1⟩ : ∃ W1, W1 = ((w.alloc (.cells #[.int .i64 (i : Nat)] 3)).alloc (.cells #[.int .u64 0, .int .u64 0, .int .u64 0, .int .u64 0, .int .u64 0, .int .u64 0, .int .u64 0, .int .u64 0, .bool false] 45)).alloc (.cells #[.int .i64 0] 25) := ⟨_, rfl⟩
 have H1 : Hid (Below w.heap.size w W1 ∧ W1.heap[N]? = some (.cells #[.int .i64 (i : Nat)] 3) ∧ W1.heap[N + 1]? = some (.cells #[.int .u64 0, .int .u64 0, .int .u64 0, .int .u64 0, .int .u64 0, .int .u64 0, .int .u64 0, .int .u64 0, .bool false] 45) ∧ W1.heap[N + 1 + 1]? = some (.cells #[.int .i64 0] 25) ∧ W1.heap.size = N + 3 ∧ N = w.heap.size) := by
  have e1 : (w.alloc (.cells #[.int .i64 (i : Nat)] 3)).heap[N]? = some (.cells #[.int .i64 (i : Nat)] 3) := by rw [hN]; exact World.alloc_heap_new w _
  have e2 : ((w.alloc (.cells #[.int .i64 (i : Nat)] 3)).alloc (.cells #[.int .u64 0, .int .u64 0, .int .u64 0, .int .u64 0, .int .u64 0, .int .u64 0, .int .u64 0, .int .u64 0, .bool false] 45)).heap[N + 1]? = some (.cells #[.int .u64 0, .int .u64 0, .int .u64 0, .int .u64 0, .int .u64 0, .int .u64 0, .int .u64 0, .int .u64 0, .bool false] 45) := by rw [hN, ← World.size_alloc w (.cells #[.int .i64 (i : Nat)] 3)]; exact World.alloc_heap_new _ _
  rw [hW1]
  refine ⟨below_alloc0 (below_alloc0 (below_alloc0 (Below.refl _ _) _) _) _, ?_, ?_, ?_, by rw [World.size_alloc, World.size_alloc, World.size_alloc, hN], hN⟩
  ·rw [Below.heap_alloc _ _ _ (by rw [World.size_alloc, World.size_alloc, hN]; omega), Below.heap_alloc _ _ _ (by rw [World.size_alloc, hN]; omega)]
   exact e1
  ·rw [Below.heap_alloc _ _ _ (by rw [World.size_alloc, World.size_alloc, hN]; omega)]
   exact e2
  ·have e3 : N + 1 + 1 = ((w.alloc (.cells #[.int .i64 (i : Nat)] 3)).alloc (.cells #[.int .u64 0, .int .u64 0, .int .u64 0, .int .u64 0, .int .u64 0, .int .u64 0, .int .u64 0, .int .u64 0, .bool false] 45)).heap.size := by rw [World.size_alloc, World.size_alloc, hN]
   rw [e3]
   exact World.alloc_heap_new _ _
 rw [← hW1, ← hN]
 clear hW1 hN
 have HB : Hid ((W1.alloc (.cells #[.int .u64 1, .int .u64 0, .int .u64 0, .int .u64 0] 41)).heap[W1.heap.size]? = some (.cells #[.int .u64 1, .int .u64 0, .int .u64 0, .int .u64 0] 41)) := World.alloc_heap_new W1 _
 gi_upto_region 2 with (refine ⟨trivial, ?_⟩; gi_at_call 35; refine (callsIn_wide.2 (KR.out _ _ HB.out)).mono ?_; rintro e w2 ⟨g, rfl, hg2, hle2, hb2⟩; have H2 : Hid (w2.heap[g]? = some (.cells (onesR 64).toArray 41) ∧ N + 3 ≤ g ∧ Below W1.heap.size W1 w2) := ⟨hg2, by rw [World.size_alloc] at hle2; have := H1.out.2.2.2.2.1; omega, below_call0 (below_alloc0 (Below.refl _ _) _) hb2⟩; clear hg2 hle2 hb2)
 obtain ⟨b6, hb6⟩ : ∃ b, b = w2.heap.size := ⟨_, rfl⟩
 obtain ⟨W6, hW6⟩ : ∃ W6, W6 = w2.alloc (.cells #[.slice (some ⟨g, 0, none⟩) 64 64] 32) := ⟨_, rfl⟩
 have H6 : Hid (Below w.heap.size w W6 ∧ W6.heap[N]? = some (.cells #[.int .i64 (i : Nat)] 3) ∧ W6.heap[N + 1]? = some (.cells #[.int .u64 0, .int .u64 0, .int .u64 0, .int .u64 0, .int .u64 0, .int .u64 0, .int .u64 0, .int .u64 0, .bool false] 45) ∧ W6.heap[N + 1 + 1]? = some (.cells #[.int .i64 0] 25) ∧ W6.heap[b6]? = some (.cells #[.slice (some ⟨g, 0, none⟩) 64 64] 32) ∧ W6.heap[g]? = some (.cells (onesR 64).toArray 41) ∧ N = w.heap.size ∧ N + 3 ≤ g ∧ g < b6 ∧ b6 < W6.heap.size) := by
  have hs : W1.heap.size = N + 3 := H1.out.2.2.2.2.1
  have hgl : g < w2.heap.size := (Array.getElem?_eq_some_iff.1 H2.out.1).1
  have hb : Below W1.heap.size W1 W6 := by
   rw [hW6]
   exact below_alloc0 H2.out.2.2 _
  refine ⟨below_call0 H1.out.1 hb, (hb.block N (by omega)).trans H1.out.2.1, (hb.block (N + 1) (by omega)).trans H1.out.2.2.1, (hb.block (N + 1 + 1) (by omega)).trans H1.out.2.2.2.1, ?_, ?_, H1.out.2.2.2.2.2, H2.out.2.1, by omega, ?_⟩
  ·rw [hW6, hb6]
   exact World.alloc_heap_new w2 _
  ·rw [hW6, Below.heap_alloc _ _ _ hgl]
   exact H2.out.1
  ·rw [hW6, World.size_alloc]
   omega
 rw [← hW6, ← hb6]
 clear hW6 hb6 HB H1 H2 KR
 gi_upto_region 3 with fail
 obtain ⟨b7, hb7⟩ : ∃ b, b = W6.heap.size := ⟨_, rfl⟩
 obtain ⟨W7, hW7⟩ : ∃ W7, W7 = W6.alloc (.cells #[.int .u64 0, .int .u64 0, .int .u64 0, .int .u64 0, .int .u64 0, .int .u64 0, .int .u64 0, .int .u64 0, .bool true] 45) := ⟨_, rfl⟩
 have H7 : Hid (Below w.heap.size w W7 ∧ W7.heap[N]? = some (.cells #[.int .i64 (i : Nat)] 3) ∧ W7.heap[N + 1]? = some (.cells #[.int .u64 0, .int .u64 0, .int .u64 0, .int .u64 0, .int .u64 0, .int .u64 0, .int .u64 0, .int .u64 0, .bool false] 45) ∧ W7.heap[N + 1 + 1]? = some (.cells #[.int .i64 0] 25) ∧ W7.heap[b6]? = some (.cells #[.slice (some ⟨g, 0, none⟩) 64 64] 32) ∧ W7.heap[g]? = some (.cells (onesR 64).toArray 41) ∧ W7.heap[b7]? = some (.cells #[.int .u64 0, .int .u64 0, .int .u64 0, .int .u64 0, .int .u64 0, .int .u64 0, .int .u64 0, .int .u64 0, .bool true] 45) ∧ N = w.heap.size ∧ N + 3 ≤ g ∧ g < b6 ∧ b6 < b7 ∧ b7 < W7.heap.size) := by
  have hb : Below W6.heap.size W6 W7 := by
   rw [hW7]
   exact below_alloc0 (Below.refl _ _) _
  have h6 := H6.out.2.2.2.2.2.2
  refine ⟨below_call0 H6.out.1 hb, (hb.block N (by omega)).trans H6.out.2.1, (hb.block (N + 1) (by omega)).trans H6.out.2.2.1, (hb.block (N + 1 + 1) (by omega)).trans H6.out.2.2.2.1, (hb.block b6 (by omega)).trans H6.out.2.2.2.2.1, (hb.block g (by omega)).trans H6.out.2.2.2.2.2.1, ?_, h6.1, h6.2.1, h6.2.2.1, by omega, ?_⟩
  ·rw [hW7, hb7]
   exact World.alloc_heap_new W6 _
  ·rw [hW7, World.size_alloc]
   omega
 rw [← hW7, ← hb7]
 clear hW7 hb7 H6
 gi_wp2_with (refine ⟨trivial, ?_⟩; gi_at_call 36; refine (callsIn_wide.2 (KC.out _ _ _ _)).mono ?_; rintro e w8 ⟨rfl, hw8⟩; have HW8 : Hid _ := hw8; clear hw8)
 obtain ⟨C, hC⟩ : ∃ C, C = W7.heap.size := ⟨_, rfl⟩
 obtain ⟨M, hM⟩ : ∃ M, M = W1.heap.size := ⟨_, rfl⟩
 rw [← hC, ← hM]
 have H9 : Hid (Below w.heap.size w w8 ∧ w8.heap[N]? = some (.cells #[.int .i64 (i : Nat)] 3) ∧ w8.heap[N + 1]? = some (.cells #[.int .u64 0, .int .u64 0, .int .u64 0, .int .u64 0, .int .u64 0, .int .u64 0, .int .u64 0, .int .u64 0, .bool false] 45) ∧ w8.heap[N + 1 + 1]? = some (.cells #[.int .i64 0] 25) ∧ w8.heap[b6]? = some (.cells #[.slice (some ⟨g, 0, none⟩) 64 64] 32) ∧ w8.heap[g]? = some (.cells (onesR 64).toArray 41) ∧ w8.heap[b7]? = some (.cells #[.int .u64 0, .int .u64 0, .int .u64 0, .int .u64 0, .int .u64 0, .int .u64 0, .int .u64 0, .int .u64 0, .bool true] 45) ∧ (N = w.heap.size ∧ N + 3 ≤ g ∧ g < b6 ∧ b6 < b7 ∧ b7 < C) ∧ w8.heap[C]? = some (.cells #[.slice (some ⟨p, o, none⟩) m c] 22) ∧ w8.heap[C + 1]? = some (.cells #[.int .i64 63] 3) ∧ C + 1 < w8.heap.size) := by
  have hb : Below W7.heap.size W7 w8 := by
   rw [show w8 = _ from HW8.out]
   exact below_alloc0 (below_alloc0 (Below.refl _ _) _) _
  have h7 := H7.out.2.2.2.2.2.2.2
  refine ⟨below_call0 H7.out.1 hb, (hb.block N (by omega)).trans H7.out.2.1, (hb.block (N + 1) (by omega)).trans H7.out.2.2.1, (hb.block (N + 1 + 1) (by omega)).trans H7.out.2.2.2.1, (hb.block b6 (by omega)).trans H7.out.2.2.2.2.1, (hb.block g (by omega)).trans H7.out.2.2.2.2.2.1, (hb.block b7 (by omega)).trans H7.out.2.2.2.2.2.2.1, ⟨h7.1, h7.2.1, h7.2.2.1, h7.2.2.2.1, by omega⟩, ?_, ?_, ?_⟩
  ·rw [show w8 = _ from HW8.out, Below.heap_alloc _ _ _ (by rw [World.size_alloc]; omega), hC]
   exact World.alloc_heap_new _ _
  ·rw [show w8 = _ from HW8.out, hC, ← World.size_alloc W7 (.cells #[.slice (some ⟨p, o, none⟩) m c] 22)]
   exact World.alloc_heap_new _ _
  ·rw [show w8 = _ from HW8.out, World.size_alloc, World.size_alloc]
   omega
 clear hC hM HW8 H7 KC
 have c1 : w8.cell? ⟨C, 0, none⟩ = some (.slice (some ⟨p, o, none⟩) m c) := by
  have h := H9.out.2.2.2.2.2.2.2.2.1
  simp [World.cell?, h]
 have c2 : w8.cell? ⟨C + 1, 0, none⟩ = some (.int .i64 63) := by
  have h := H9.out.2.2.2.2.2.2.2.2.2.1
  simp [World.cell?, h]
 refine wpIn_rangeFunc_ownH rfl (by decide) (gf := 54) (lb := #[.pointer (some ⟨C, 0, none⟩), .pointer (some ⟨C + 1, 0, none⟩)]) rfl trivial (enters_of Tryd.func54 (by kernel_rfl) rfl)
  (chunk1_stops 2 (by decide) C (C + 1) ⟨p, o, none⟩ m c H0.out.2.2.2.1 H0.out.2.2.2.2.1 H0.out.2.2.2.2.2.1 w8 (by have := H9.out.2.2.2.2.2.2.2.2.2.2; omega) H9.out.2.2.2.2.2.2.2.2.2.2 c1 c2) (fun h k => KpD.trans h k) (KpD.put (w := w8)) (Below.refl _ _) (fun _ => rfl)
  (fun pre W => pre = [] ∧ W.heap[N]? = some (.cells #[.int .i64 (i : Nat)] 3) ∧ W.heap[N + 1]? = some (.cells #[.int .u64 0, .int .u64 0, .int .u64 0, .int .u64 0, .int .u64 0, .int .u64 0, .int .u64 0, .int .u64 0, .bool false] 45) ∧ W.heap[N + 1 + 1]? = some (.cells #[.int .i64 0] 25) ∧ W.heap[b6]? = some (.cells #[.slice (some ⟨g, 0, none⟩) 64 64] 32) ∧ W.heap[g]? = some (.cells (onesR 64).toArray 41) ∧ W.heap[b7]? = some (.cells #[.int .u64 0, .int .u64 0, .int .u64 0, .int .u64 0, .int .u64 0, .int .u64 0, .int .u64 0, .int .u64 0, .bool true] 45) ∧ Below w.heap.size w W)
  (fun cc _ W => cc = .ret ∧ W.heap[N + 1]? = some (.cells #[.int .u64 0, .int .u64 0, .int .u64 0, .int .u64 0, .int .u64 0, .int .u64 0, .int .u64 0, .int .u64 0, .bool false] 45) ∧ W.heap[N + 1 + 1]? = some (.cells #[.int .i64 30] 25) ∧ Below w.heap.size w W)
  (OwnFrom.and (fun _ _ _ _ hs _ _ => hs) ((cells_ownFrom _ _ (fun _ => #[.int .i64 (i : Nat)]) _).and ((cells_ownFrom _ _ (fun _ => #[.int .u64 0, .int .u64 0, .int .u64 0, .int .u64 0, .int .u64 0, .int .u64 0, .int .u64 0, .int .u64 0, .bool false]) _).and ((cells_ownFrom _ _ (fun _ => #[.int .i64 0]) _).and ((cells_ownFrom _ _ (fun _ => #[.slice (some ⟨g, 0, none⟩) 64 64]) _).and ((cells_ownFrom _ _ (fun _ => (onesR 64).toArray) _).and ((cells_ownFrom _ _ (fun _ => #[.int .u64 0, .int .u64 0, .int .u64 0, .int .u64 0, .int .u64 0, .int .u64 0, .int .u64 0, .int .u64 0, .bool true]) _).and (ownFrom_below (Nat.le_refl _) H9.out.1.size))))))))
  (fun _ => OwnFrom.and (fun _ _ _ _ hs _ _ => hs) ((cells_ownFrom _ _ (fun _ => #[.int .u64 0, .int .u64 0, .int .u64 0, .int .u64 0, .int .u64 0, .int .u64 0, .int .u64 0, .int .u64 0, .bool false]) _).and ((cells_ownFrom _ _ (fun _ => #[.int .i64 30]) _).and (ownFrom_below (Nat.le_refl _) H9.out.1.size))))
  ⟨rfl, H9.out.2.1, H9.out.2.2.1, H9.out.2.2.2.1, H9.out.2.2.2.2.1, H9.out.2.2.2.2.2.1, H9.out.2.2.2.2.2.2.1, H9.out.1⟩
  (fun _ a' _ => a' = { tmps := #[.slice (some ⟨p, o, none⟩) m c, .int .i64 (i : Nat), undef, .pointer (some ⟨N, 0, none⟩), .pointer (some ⟨N + 1, 0, none⟩), .pointer (some ⟨N + 1 + 1, 0, none⟩), .pointer (some ⟨b6, 0, none⟩), .pointer (some ⟨b7, 0, none⟩), .slice (some ⟨p, o, none⟩) m m, undef, undef, undef, undef, .agg #[.int .u64 1, .int .u64 0, .int .u64 0, .int .u64 0], .slice (some ⟨M, 0, none⟩) 1 1, .slice (some ⟨g, 0, none⟩) 64 64, .agg #[.int .u64 0, .int .u64 0, .int .u64 0, .int .u64 0, .int .u64 0, .int .u64 0, .int .u64 0, .int .u64 0, .bool true], .slice (some ⟨p, o, none⟩) m c, .func (.func 54) #[] #[.pointer (some ⟨C, 0, none⟩), .pointer (some ⟨C + 1, 0, none⟩)], .slice (some ⟨p, o, none⟩) m m, undef, undef, undef, undef, undef, undef, undef, undef, undef, undef, undef, undef, undef, undef, undef, undef, undef, undef, undef, undef, undef, undef, undef, undef, undef, undef, undef, undef, undef, undef], defers := [] })
  (fun x a' _ X Y row hs hg hr => hs)
  ?assign ?body ?done ?stop
 case assign =>
  rintro l pre x W K hI hK
  gi_wp2
  exact hK _ _ (KeepsFrom.refl _ _) (fun _ _ _ h _ => h) hI rfl
 case body =>
  rintro l pre x a' W hl ⟨r, hr⟩ hI rfl hlt
  obtain rfl : pre = [] := hI.1
  have HI : Hid (W.heap[N]? = some (.cells #[.int .i64 (i : Nat)] 3) ∧ W.heap[N + 1]? = some (.cells #[.int .u64 0, .int .u64 0, .int .u64 0, .int .u64 0, .int .u64 0, .int .u64 0, .int .u64 0, .int .u64 0, .bool false] 45) ∧ W.heap[N + 1 + 1]? = some (.cells #[.int .i64 0] 25) ∧ W.heap[b6]? = some (.cells #[.slice (some ⟨g, 0, none⟩) 64 64] 32) ∧ W.heap[g]? = some (.cells (onesR 64).toArray 41) ∧ W.heap[b7]? = some (.cells #[.int .u64 0, .int .u64 0, .int .u64 0, .int .u64 0, .int .u64 0, .int .u64 0, .int .u64 0, .int .u64 0, .bool true] 45) ∧ Below w.heap.size w W) := hI.2
  have b7h := hI.2.2.2.2.2.2.1
  have L7 : Hid ((loadVar 45 ⟨b7, 0, none⟩).run Tryd.prog W = .ok (.agg #[.int .u64 0, .int .u64 0, .int .u64 0, .int .u64 0, .int .u64 0, .int .u64 0, .int .u64 0, .int .u64 0, .bool true]) W) := run_loadVar_row (P := Tryd.prog) _ _ _ _ _ _ _ b7h Tryd.underlying45 rfl (by kernel_rfl)
  have m64 : (m : Int) ≤ 63 := by have := H0.out.2.2.2.2.1; omega
  clear hI hr hlt b7h
  gi_upto_region 6 with ((with_reducible refine load_in (b := b7) (x := 7) ?_ ?_ ?_ L7.out ?_); rfl; rfl; rfl)
  obtain ⟨q, hq⟩ : ∃ q, q = W.heap.size := ⟨_, rfl⟩
  obtain ⟨W5, hW5⟩ : ∃ W5, W5 = W.alloc (.cells #[.int .u64 0, .int .u64 0, .int .u64 0, .int .u64 0, .int .u64 0, .int .u64 0, .int .u64 0, .int .u64 0, .bool true] 45) := ⟨_, rfl⟩
  have H5 : Hid (RowT W5 q (some ⟨q, 0, none⟩) [zT] 1 ∧ Below W.heap.size W W5 ∧ q = W.heap.size) := by
   rw [hW5, hq]
   exact ⟨RowT.one W zT, below_alloc0 (Below.refl _ _) _, rfl⟩
  rw [← hW5, ← hq]
  clear hW5 hq L7
  gi_wp2_with fail
  rename_i Kr hKr
  have HKr : Hid _ := hKr
  clear hKr
  gi_loopw [9, 24] (fun sv iv wr => ∃ (k mm : Nat) (b : Option Addr) (d : Nat), k ≤ m ∧ mm = k + 1 ∧ iv = .int .i64 (k : Nat) ∧ sv = .slice b mm d ∧ RowT wr q b (zT :: (Ls.take k).map fun s => s.getD i zT) d ∧ Below W.heap.size W wr) (fun _ iv _ => m - (Go.RowKit.intOf iv).toNat)
  case atStart => exact ⟨0, 1, _, 1, Nat.zero_le _, rfl, rfl, rfl, H5.out.1, H5.out.2.1⟩
  case round =>
   obtain ⟨k, mm, b, d, hk, hmm, rfl, rfl, hO, hB⟩ := hrel
   rename World => wr
   have HC : Hid (RowT wr q b (zT :: (Ls.take k).map fun s => s.getD i zT) d ∧ Below W.heap.size W wr ∧ mm = k + 1 ∧ k ≤ m) := ⟨hO, hB, hmm, hk⟩
   clear hO hB hmm hk
   have hBw : Below w.heap.size w wr := below_call0 HI.out.2.2.2.2.2.2 HC.out.2.1
   by_cases hlt : k < m
   ·clear HKr
    have hlt' : (k : Int) < (m : Int) := Int.ofNat_lt.2 hlt
    have hkl : k < Ls.length := by rw [← H0.out.2.2.1]; exact hlt
    obtain ⟨s, hs⟩ : ∃ s, s = Ls[k]'hkl := ⟨_, rfl⟩
    obtain ⟨p', o', ra, rc, he, hcell, hpts, hpl⟩ := (H0.out.2.1.call hBw) k s (by rw [hs]; exact List.getElem?_eq_getElem hkl)
    injection he with he
    injection he with he1 he2
    subst he1 he2
    have his : i < s.length := by rw [hs]; exact H0.out.2.2.2.2.2.2 _ (List.getElem_mem hkl)
    obtain ⟨pb, po, rfl, hPB⟩ := hpts.get his
    obtain ⟨P, hP⟩ : ∃ P, P = s[i]'his := ⟨_, rfl⟩
    rw [← hP] at hPB
    have his' : (i : Int) < (s.length : Int) := Int.ofNat_lt.2 his
    obtain ⟨sl, hsl⟩ : ∃ n, n = s.length := ⟨_, rfl⟩
    rw [← hsl] at hcell his'
    have LN : Hid ((loadVar 45 ⟨pb, po + i * 9, none⟩).run Tryd.prog wr = .ok (.agg #[.int .u64 (limb P.1 0 : Nat), .int .u64 (limb P.1 1 : Nat), .int .u64 (limb P.1 2 : Nat), .int .u64 (limb P.1 3 : Nat), .int .u64 (limb P.2.1 0 : Nat), .int .u64 (limb P.2.1 1 : Nat), .int .u64 (limb P.2.1 2 : Nat), .int .u64 (limb P.2.1 3 : Nat), .bool P.2.2]) wr) := hPB.loadT
    have HE : Hid (k < m ∧ (zT :: (Ls.take k).map fun s => s.getD i zT) ++ [P] = zT :: (Ls.take (k + 1)).map fun s => s.getD i zT) := by
     refine ⟨hlt, ?_⟩
     rw [List.take_succ_eq_append_getElem hkl, List.map_append, List.cons_append, ← hs, hP]
     simp [his]
    have cN : wr.cell? ⟨N, 0, none⟩ = some (.int .i64 (i : Nat)) := by
     have h := (HC.out.2.1.block N (Array.getElem?_eq_some_iff.1 HI.out.1).1).trans HI.out.1
     simp [World.cell?, h]
    obtain ⟨L, hL⟩ : ∃ L, L = zT :: (Ls.take k).map fun s => s.getD i zT := ⟨_, rfl⟩
    have hLl : L.length = k + 1 := by rw [hL, List.length_cons, List.length_map, List.length_take]; omega
    rw [← hL] at HE HC
    have H6 : Hid (RowT (wr.alloc (.cells #[.int .u64 (limb P.1 0 : Nat), .int .u64 (limb P.1 1 : Nat), .int .u64 (limb P.1 2 : Nat), .int .u64 (limb P.1 3 : Nat), .int .u64 (limb P.2.1 0 : Nat), .int .u64 (limb P.2.1 1 : Nat), .int .u64 (limb P.2.1 2 : Nat), .int .u64 (limb P.2.1 3 : Nat), .bool P.2.2] 45)) q b L d ∧ Below W.heap.size W (wr.alloc (.cells #[.int .u64 (limb P.1 0 : Nat), .int .u64 (limb P.1 1 : Nat), .int .u64 (limb P.1 2 : Nat), .int .u64 (limb P.1 3 : Nat), .int .u64 (limb P.2.1 0 : Nat), .int .u64 (limb P.2.1 1 : Nat), .int .u64 (limb P.2.1 2 : Nat), .int .u64 (limb P.2.1 3 : Nat), .bool P.2.2] 45)) ∧ Bl (wr.alloc (.cells #[.int .u64 (limb P.1 0 : Nat), .int .u64 (limb P.1 1 : Nat), .int .u64 (limb P.1 2 : Nat), .int .u64 (limb P.1 3 : Nat), .int .u64 (limb P.2.1 0 : Nat), .int .u64 (limb P.2.1 1 : Nat), .int .u64 (limb P.2.1 2 : Nat), .int .u64 (limb P.2.1 3 : Nat), .bool P.2.2] 45)) wr.heap.size (tV P) 45 ∧ mm = L.length ∧ L.length ≤ 1000000 ∧ q ≤ (wr.alloc (.cells #[.int .u64 (limb P.1 0 : Nat), .int .u64 (limb P.1 1 : Nat), .int .u64 (limb P.1 2 : Nat), .int .u64 (limb P.1 3 : Nat), .int .u64 (limb P.2.1 0 : Nat), .int .u64 (limb P.2.1 1 : Nat), .int .u64 (limb P.2.1 2 : Nat), .int .u64 (limb P.2.1 3 : Nat), .bool P.2.2] 45)).heap.size) :=
     ⟨HC.out.1.call (below_alloc0 (Below.refl _ _) _), below_alloc0 HC.out.2.1 _, Bl.new wr (tV P) _, by rw [hLl]; exact HC.out.2.2.1, by rw [hLl]; have := H0.out.2.2.2.2.1; omega, by have h1 := HC.out.2.1.size; have h2 := H5.out.2.2; rw [World.size_alloc]; omega⟩
    clear hL hLl hPB hP hpts hs hkl his hsl hlt hpl hBw
    gi_wp2_with (first | ((with_reducible refine load_ink (b := pb) (k := po + i * 9) (x := 31) ?_ ?_ ?_ LN.out ?_); rfl; rfl; rfl) | (gi_at_builtin; refine wpListIn_append_RowT _ rfl (.tmp 28) (.tmp 33) rfl q b mm d L P rfl H6.out.2.2.2.1 H6.out.1 H6.out.2.2.2.2.2 H6.out.2.2.2.2.1 wr.heap.size 1 rfl H6.out.2.2.1 ?_; intro b7' m7 d7 w7 hm7 hR7 hb7; have H7 : Hid (m7 = mm + 1 ∧ RowT w7 q b7' (L ++ [P]) d7 ∧ Below W.heap.size W w7) := ⟨hm7, hR7, H6.out.2.1.trans (hb7.mono (Nat.le_of_eq H5.out.2.2.symm))⟩; clear hm7 hR7 hb7 H6))
    go_roundw
    case rel => first | exact ⟨k + 1, m7, b7', d7, HE.out.1, by have := H7.out.1; have := HC.out.2.2.1; omega, by go_num, rfl, by rw [← HE.out.2]; exact H7.out.2.1, H7.out.2.2⟩ | ((repeat apply Exists.intro); exact ⟨⟨k + 1, m7, b7', d7, HE.out.1, by have := H7.out.1; have := HC.out.2.2.1; omega, by go_num, rfl, by rw [← HE.out.2]; exact H7.out.2.1, H7.out.2.2⟩, rfl⟩)
    case measure => have := HE.out.1; simp [Go.RowKit.intOf]; omega
   ·obtain rfl : k = m := by have := HC.out.2.2.2; omega
    have hnl : ¬ ((k : Int) < (k : Int)) := Int.lt_irrefl _
    clear hlt
    gi_wp2_with fail
    refine HKr.out _ _ ?_
    clear HKr
    have hmm := HC.out.2.2.1
    subst hmm
    have hbk := H9.out.2.2.2.2.2.2.2.1
    have L6 : wr.cell? ⟨b6, 0, none⟩ = some (.slice (some ⟨g, 0, none⟩) 64 64) := by
     have h := (HC.out.2.1.block b6 (Array.getElem?_eq_some_iff.1 HI.out.2.2.2.1).1).trans HI.out.2.2.2.1
     simp [World.cell?, h]
    have LG : wr.heap[g]? = some (.cells (onesR 64).toArray 41) := (HC.out.2.1.block g (Array.getElem?_eq_some_iff.1 HI.out.2.2.2.2.1).1).trans HI.out.2.2.2.2.1
    have KS : Hid (Calls Tryd.prog 37 #[.slice (some ⟨g, 0, none⟩) (k + 1) 64, .slice b (k + 1) d] wr fun e w' => e = .returned (.tuple #[.agg #[.int .u64 0, .int .u64 0, .int .u64 0, .int .u64 0, .int .u64 0, .int .u64 0, .int .u64 0, .int .u64 0, .bool false], .int .i64 30]) ∧ Below wr.heap.size wr w') := by
     have hGw : GA wr := H0.out.1.call hBw
     have hO := HC.out.1.pnts
     rw [List.take_of_length_le (by rw [← H0.out.2.2.1]; exact Nat.le_refl _)] at hO
     exact KSS.out g d b wr hGw (ones_at LG (by have := H0.out.2.2.2.2.1; omega)) hO
    clear LG hBw
    have HX : Hid (N = w.heap.size ∧ N + 1 + 1 < b7) := ⟨hbk.1, by omega⟩
    have HF : Hid (∀ w6 : World, Below W.heap.size W w6 → ∃ Wb, (storeVar 45 ⟨b7, 0, none⟩ (.agg #[.int .u64 0, .int .u64 0, .int .u64 0, .int .u64 0, .int .u64 0, .int .u64 0, .int .u64 0, .int .u64 0, .bool false])).run Tryd.prog w6 = .ok () (w6.setRow b7 #[.int .u64 0, .int .u64 0, .int .u64 0, .int .u64 0, .int .u64 0, .int .u64 0, .int .u64 0, .int .u64 0, .bool false]) ∧ (storeVar 45 ⟨N + 1, 0, none⟩ (.agg #[.int .u64 0, .int .u64 0, .int .u64 0, .int .u64 0, .int .u64 0, .int .u64 0, .int .u64 0, .int .u64 0, .bool false])).run Tryd.prog (w6.setRow b7 #[.int .u64 0, .int .u64 0, .int .u64 0, .int .u64 0, .int .u64 0, .int .u64 0, .int .u64 0, .int .u64 0, .bool false]) = .ok () Wb ∧ Wb.cell? ⟨N + 1 + 1, 0, none⟩ = some (.int .i64 0) ∧ Wb.frozen? ⟨N + 1 + 1, 0, none⟩ = false ∧ Wb.heap[N + 1]? = some (.cells #[.int .u64 0, .int .u64 0, .int .u64 0, .int .u64 0, .int .u64 0, .int .u64 0, .int .u64 0, .int .u64 0, .bool false] 45) ∧ Wb.heap[N + 1 + 1]? = some (.cells #[.int .i64 0] 25) ∧ Below w.heap.size w Wb ∧ KeepsFrom w8.heap.size W Wb) := fun w6 h8 => by
     have hA0 : w6.heap[b7]? = some (.cells #[.int .u64 0, .int .u64 0, .int .u64 0, .int .u64 0, .int .u64 0, .int .u64 0, .int .u64 0, .int .u64 0, .bool true] 45) := (h8.block b7 (Array.getElem?_eq_some_iff.1 HI.out.2.2.2.2.2.1).1).trans HI.out.2.2.2.2.2.1
     have hA1 : (w6.setRow b7 #[.int .u64 0, .int .u64 0, .int .u64 0, .int .u64 0, .int .u64 0, .int .u64 0, .int .u64 0, .int .u64 0, .bool false]).heap[N + 1]? = some (.cells #[.int .u64 0, .int .u64 0, .int .u64 0, .int .u64 0, .int .u64 0, .int .u64 0, .int .u64 0, .int .u64 0, .bool false] 45) := chg b7 _ h8 (by have := HX.out.2; omega) HI.out.2.1
     have hA2 : ((w6.setRow b7 #[.int .u64 0, .int .u64 0, .int .u64 0, .int .u64 0, .int .u64 0, .int .u64 0, .int .u64 0, .int .u64 0, .bool false]).setRow (N + 1) #[.int .u64 0, .int .u64 0, .int .u64 0, .int .u64 0, .int .u64 0, .int .u64 0, .int .u64 0, .int .u64 0, .bool false]).heap[N + 1 + 1]? = some (.cells #[.int .i64 0] 25) := (setRow_other _ (N + 1) (N + 1 + 1) _ (by omega)).trans (chg b7 _ h8 (by have := HX.out.2; omega) HI.out.2.2.1)
     refine ⟨(w6.setRow b7 #[.int .u64 0, .int .u64 0, .int .u64 0, .int .u64 0, .int .u64 0, .int .u64 0, .int .u64 0, .int .u64 0, .bool false]).setRow (N + 1) #[.int .u64 0, .int .u64 0, .int .u64 0, .int .u64 0, .int .u64 0, .int .u64 0, .int .u64 0, .int .u64 0, .bool false], ?_, ?_, ?_, ?_, ?_, hA2, ?_, ?_⟩
     ·exact Bl.store (vs := [.int .u64 0, .int .u64 0, .int .u64 0, .int .u64 0, .int .u64 0, .int .u64 0, .int .u64 0, .int .u64 0, .bool true]) (us := [.int .u64 0, .int .u64 0, .int .u64 0, .int .u64 0, .int .u64 0, .int .u64 0, .int .u64 0, .int .u64 0, .bool false]) hA0 (by kernel_rfl) rfl (by kernel_rfl)
     ·exact Bl.store (vs := [.int .u64 0, .int .u64 0, .int .u64 0, .int .u64 0, .int .u64 0, .int .u64 0, .int .u64 0, .int .u64 0, .bool false]) (us := [.int .u64 0, .int .u64 0, .int .u64 0, .int .u64 0, .int .u64 0, .int .u64 0, .int .u64 0, .int .u64 0, .bool false]) hA1 (by kernel_rfl) rfl (by kernel_rfl)
     ·simp [World.cell?, hA2]
     ·simp [World.frozen?, hA2]
     ·exact setRow_heap _ (N + 1) _ _ _ _ hA1
     ·exact below_setRow (by have := HX.out; omega) _ (below_setRow (by have := HX.out; omega) _ (below_call0 HI.out.2.2.2.2.2.2 h8))
     ·exact ⟨by rw [setRow_size, setRow_size]; exact h8.size, fun k' o' _ hk' hc' => (setRow_other _ (N + 1) k' _ (by rintro rfl; rw [HI.out.2.1] at hk'; cases hk'; cases hc')).trans (chg b7 _ h8 (by rintro rfl; rw [HI.out.2.2.2.2.2.1] at hk'; cases hk'; cases hc') hk')⟩
    clear hbk
    gi_wp2_with (first | (refine ⟨trivial, ?_⟩; gi_at_call 37; refine (CallsIn.inRound l (callsIn_wide.2 KS.out)).mono ?_; rintro e w6 ⟨rfl, hb6⟩; obtain ⟨Wb, hS1, hS2, cE, zE, hyy⟩ := HF.out w6 (below_call0 HC.out.2.1 hb6); have HS : Hid _ := hS1; have HS2 : Hid _ := hS2; have HY : Hid _ := hyy; clear hS1 hS2 hyy hb6) | ((with_reducible refine store_in (b := b7) (x := 7) (y := 43) ?_ ?_ ?_ ?_ HS.out ?_); rfl; rfl; rfl; rfl) | ((with_reducible refine store_in (b := N + 1) (x := 4) (y := 47) ?_ ?_ ?_ ?_ HS2.out ?_); rfl; rfl; rfl; rfl))
    have hy := HY.out
    have bX : Boxed Wb (N + 1 + 1) 25 (.int .i64 0) := hy.2.1
    have hO2 : (Wb.setCell ⟨N + 1 + 1, 0, none⟩ (.int .i64 30)).heap[N + 1]? = some (.cells #[.int .u64 0, .int .u64 0, .int .u64 0, .int .u64 0, .int .u64 0, .int .u64 0, .int .u64 0, .int .u64 0, .bool false] 45) := ((grownBy_setCell' Wb (N + 1 + 1) (.int .i64 30)).block (N + 1) (Array.getElem?_eq_some_iff.1 hy.1).1 (by intro e; injection e with e; omega)).trans hy.1
    exact ⟨hy.2.2.2.trans ((KeepsOthers.setCell _ _ _).from _), rfl, hO2, bX.set (.int .i64 30), hy.2.2.1.setCell (p := ⟨N + 1 + 1, 0, none⟩) (by show w.heap.size ≤ N + 1 + 1; have := HX.out.1; omega) _⟩
 case done =>
  rintro D zs W hD rfl ⟨hI, _⟩
  cases hI
 case stop =>
  rintro D cc pre W hD _ ⟨rfl, h1, h2, h3⟩ hK
  gi_wp2
  have hbk := H9.out.2.2.2.2.2.2.2.1
  have hsz := H9.out.2.2.2.2.2.2.2.2.2.2
  refine ⟨by simp, .inl ⟨_, _, rfl, run_takeDeferred hK, ?_⟩⟩
  have bX : Boxed W (N + 1 + 1) 25 (.int .i64 30) := h2
  have hc5 := cell_kept bX.cell (grownBy_putObj' _ D (.deferred none)) (fun r e => by cases e; exact ⟨_, hK, rfl⟩)
  have hO3 : (W.putObj D (.deferred none)).heap[N + 1]? = some (.cells #[.int .u64 0, .int .u64 0, .int .u64 0, .int .u64 0, .int .u64 0, .int .u64 0, .int .u64 0, .int .u64 0, .bool false] 45) := by
   rw [World.putObj_heap_other (k := N + 1) (by omega)]
   exact h1
  have hBB : Below w.heap.size w (W.putObj D (.deferred none)) := h3.trans (belowK_b (w := w) (Nat.le_refl _) _ D _ _ (by omega) hK rfl rfl)
  obtain ⟨W3, hW3⟩ : ∃ W3, W3 = W.putObj D (.deferred none) := ⟨_, rfl⟩
  rw [← hW3] at hc5 hO3 hBB ⊢
  have K : ∀ j v, ([.int .u64 0, .int .u64 0, .int .u64 0, .int .u64 0, .int .u64 0, .int .u64 0, .int .u64 0, .int .u64 0, .bool false] : List Value)[j]? = some v → W3.cell? ⟨N + 1, j, none⟩ = some v := fun j v hv => by simpa [World.cell?, hO3] using hv
  have q0 := K 0 _ rfl
  have q1 := K 1 _ rfl
  have q2 := K 2 _ rfl
  have q3 := K 3 _ rfl
  have q4 := K 4 _ rfl
  have q5 := K 5 _ rfl
  have q6 := K 6 _ rfl
  have q7 := K 7 _ rfl
  have q8 := K 8 _ rfl
  clear K hO3 hW3
  refine ⟨.tuple #[.agg #[.int .u64 0, .int .u64 0, .int .u64 0, .int .u64 0, .int .u64 0, .int .u64 0, .int .u64 0, .int .u64 0, .bool false], .int .i64 30], ?_, rfl, hBB⟩
  simp [results, Tryd.results17, asAddr, go_sem, hc5, q0, q1, q2, q3, q4, q5, q6, q7, q8]
end Go.Proofs.YtfkpbcionlidaaaDoor

namespace Go.Proofs.YtfkpbcionlidaaaDoor
open Go Go.RowKit Go.Lib
theorem isCount_no (n : Nat) (h : ¬ (1 ≤ n ∧ n ≤ 10)) (w : World) : Calls Tryd.prog 34 #[.int .i64 (n : Nat)] w fun e w' => e = .returned (.bool false) ∧ w' = w := by
 by_cases h0 : 1 ≤ n
 ·have h1 : (1 : Int) ≤ (n : Int) := by omega
  have h2 : ¬ ((n : Int) ≤ 10) := by omega
  clear h h0
  go_enter Tryd.func34, Tryd.ntmps34
  go_wp2_with fail
  go_ret
  exact ⟨rfl, rfl⟩
 ·have h1 : ¬ ((1 : Int) ≤ (n : Int)) := by omega
  clear h h0
  go_enter Tryd.func34, Tryd.ntmps34
  go_wp2_with fail
  go_ret
  exact ⟨rfl, rfl⟩
/-- Are all of them points? -/
def allP (zs : List (Nat × Nat × Bool)) : Bool := zs.all fun z => ptOk z.1 z.2.1 z.2.2
theorem allP_ok : ∀ {zs : List (Nat × Nat × Bool)}, allP zs = true → ∃ cs : List Pts, zs = cs.map ptT
 | [], _ => ⟨[], rfl⟩
 | z :: r, h => by
  unfold allP at h
  rw [List.all_cons, Bool.and_eq_true] at h
  obtain ⟨cs, hc⟩ := allP_ok (zs := r) h.2
  have h0 : smF [(0, z)] = 0 := by
   unfold smF
   rw [if_pos (of_decide_eq_true (by kernel_rfl)), if_pos h.1]
   rfl
  obtain ⟨m, hm, -⟩ := smF_ok h0
  match m, hm with
  | [], hm => simp at hm
  | y :: m', hm =>
   rw [List.map_cons, List.cons.injEq, Prod.mk.injEq] at hm
   exact ⟨y.2 :: cs, by rw [List.map_cons, ← hm.1.2, ← hc]⟩
theorem smF_30 : ∀ (ks : List Nat) (zs : List (Nat × Nat × Bool)), (∀ k ∈ ks, k < QQ) → ks.length = zs.length → allP zs = false → smF (List.zip ks zs) = 30
 | [], [], _, _, h => by cases h
 | [], _ :: _, _, h, _ => by simp at h
 | _ :: _, [], _, h, _ => by simp at h
 | k :: ks, z :: zs, hk, hl, h => by
  rw [List.zip_cons_cons]
  unfold smF
  rw [if_pos (hk k List.mem_cons_self)]
  by_cases c : ptOk z.1 z.2.1 z.2.2 = true
  ·rw [if_pos c]
   refine smF_30 ks zs (fun j hj => hk j (List.mem_cons_of_mem k hj)) (by simpa using hl) ?_
   unfold allP at h
   rw [List.all_cons, c, Bool.true_and] at h
   exact h
  ·rw [if_neg c]
end Go.Proofs.YtfkpbcionlidaaaDoor

namespace Go.Proofs.YtfkpbcionlidaaaDoor
open Go Go.RowKit Go.Lib
/-- Places, so far. -/
def PlT (w : World) (p n k : Nat) : Prop := p < w.heap.size ∧ (∀ o, w.frozen? ⟨p, o, none⟩ = false) ∧ ∀ j, j < n → w.cell? ⟨p, j, none⟩ = some (.int .i64 ((if j < k then j else 0 : Nat) : Int))
theorem PlT.put {w : World} {p n k : Nat} (h : PlT w p n k) (hk : k < n) : PlT (w.setCell ⟨p, k, none⟩ (.int .i64 (k : Nat))) p n (k + 1) := by
 refine ⟨by rw [World.size_setCell]; exact h.1, fun o => by rw [World.frozen?_setCell]; exact h.2.1 o, fun j hj => ?_⟩
 by_cases e : j = k
 ·subst e
  rw [World.cell?_setCell_same _ _ _ (h.2.2 j hj), if_pos (by omega)]
 ·rw [World.cell?_setCell_other _ _ _ _ (by intro c; injection c with _ c2 _; exact e c2.symm), h.2.2 j hj]
  by_cases c : j < k
  ·rw [if_pos c, if_pos (by omega)]
  ·rw [if_neg c, if_neg (by omega)]
theorem infoIntS : ∃ i, Tryd.prog.info? 3 = some i ∧ i.zero = some (.int .i64 0) ∧ i.size = 1 ∧ i.bytes = 8 := by
 have h : (Tryd.prog.info? 3).map (fun i => (i.zero, i.size, i.bytes)) = some (some (.int .i64 0), 1, 8) := by kernel_rfl
 cases e : Tryd.prog.info? 3 with
 | none => rw [e] at h; cases h
 | some i =>
  rw [e] at h
  simp only [Option.map_some, Option.some.injEq, Prod.mk.injEq] at h
  exact ⟨i, rfl, h.1, h.2.1, h.2.2⟩
theorem make_ints (n : Nat) (hn : n ≤ 1000000) (w : World) : (Instr.makeSlice 46 (.int .i64 (n : Int)) (.int .i64 (n : Int))).run Tryd.prog w = .ok (.slice (some ⟨w.heap.size, 0, none⟩) n n) (w.alloc (.cells (madeCells #[.int .i64 0] n) 3)) := by
 obtain ⟨i, hi, hz, hsize, hby⟩ := infoIntS
 have h := run_make (P := Tryd.prog) w 46 3 i _ Tryd.underlying46 hi hz .i64 .i64 (n : Int) (n : Int) (by omega) (Int.le_refl _) (by rw [hby]; omega) (by omega)
 rw [hsize, Nat.mul_one] at h
 simp only [Int.toNat_natCast] at h
 exact h
theorem PlT.made (w : World) (n : Nat) : PlT (w.alloc (.cells (madeCells #[.int .i64 0] n) 3)) w.heap.size n 0 := by
 have h := TabL.made w [.int .i64 0] n 1 3 rfl (by decide)
 rw [Nat.mul_one n] at h
 refine ⟨h.1, h.2.1, fun j hj => ?_⟩
 have k := h.row hj (c := 0) (v := .int .i64 0) rfl
 rw [Nat.add_zero, Nat.mul_one j] at k
 rw [if_neg (by omega)]
 exact k
set_option maxRecDepth 100000 in
set_option maxHeartbeats 4000000 in
theorem places_ok (n : Nat) (h : n ≤ 10) (w : World) : Calls Tryd.prog 15 #[.int .i64 (n : Nat)] w fun e w' => ∃ b, e = .returned (.slice (some ⟨b, 0, none⟩) n n) ∧ (b < w'.heap.size ∧ ∀ j, j < n → w'.cell? ⟨b, j, none⟩ = some (.int .i64 (j : Nat))) ∧ Below w.heap.size w w' := by
 have hm : ∀ w, (Instr.makeSlice 46 (.int .i64 (n : Int)) (.int .i64 (n : Int))).run Tryd.prog w = .ok (.slice (some ⟨w.heap.size, 0, none⟩) n n) (w.alloc (.cells (madeCells #[.int .i64 0] n) 3)) := fun w => make_ints n (by omega) w
 have HS : Hid (PlT (w.alloc (.cells (madeCells #[.int .i64 0] n) 3)) w.heap.size n 0 ∧ Below w.heap.size w (w.alloc (.cells (madeCells #[.int .i64 0] n) 3))) := ⟨PlT.made w n, below_alloc0 (Below.refl _ _) _⟩
 have n64 : (n : Int) ≤ 64 := by omega
 clear h
 go_enter Tryd.func15, Tryd.ntmps15
 go_wp2_with fail
 clear hm
 rename_i Kr hKr
 have HKr : Hid _ := hKr
 clear hKr
 go_loopw [9] (fun iv wr => ∃ k : Nat, k ≤ n ∧ iv = .int .i64 (k : Nat) ∧ PlT wr w.heap.size n k ∧ Below w.heap.size w wr) (fun iv _ => n - (Go.RowKit.intOf iv).toNat)
 case atStart => exact ⟨0, Nat.zero_le _, rfl, HS.out⟩
 case round =>
  clear HS
  obtain ⟨k, hk, rfl, hT, hB⟩ := hrel
  rename World => wr
  have HC : Hid (PlT wr w.heap.size n k ∧ Below w.heap.size w wr ∧ k ≤ n) := ⟨hT, hB, hk⟩
  clear hT hB hk
  by_cases hlt : k < n
  ·clear HKr
   have hlt' : (k : Int) < (n : Int) := Int.ofNat_lt.2 hlt
   have c0 := HC.out.1.2.2 k hlt
   have z0 := HC.out.1.2.1 k
   have HN : Hid (PlT (wr.setCell ⟨w.heap.size, k, none⟩ (.int .i64 (k : Nat))) w.heap.size n (k + 1) ∧ Below w.heap.size w (wr.setCell ⟨w.heap.size, k, none⟩ (.int .i64 (k : Nat))) ∧ k < n) := ⟨HC.out.1.put hlt, HC.out.2.1.setCell (p := ⟨w.heap.size, k, none⟩) (Nat.le_refl _) _, hlt⟩
   clear HC hlt
   go_wp2_with fail
   go_roundw
   case rel => first | exact ⟨k + 1, HN.out.2.2, by go_num, HN.out.1, HN.out.2.1⟩ | ((repeat apply Exists.intro); exact ⟨⟨k + 1, HN.out.2.2, by go_num, HN.out.1, HN.out.2.1⟩, rfl⟩)
   case measure => have := HN.out.2.2; simp [Go.RowKit.intOf]; omega
  ·obtain rfl : k = n := by have := HC.out.2.2; omega
   have hnl : ¬ ((k : Int) < (k : Int)) := Int.lt_irrefl _
   clear hlt
   go_wp2_with fail
   refine HKr.out _ _ ?_
   clear HKr
   go_wp2_with fail
   go_ret
   refine ⟨w.heap.size, rfl, ⟨HC.out.1.1, fun j hj => ?_⟩, HC.out.2.1⟩
   have c := HC.out.1.2.2 j hj
   rw [if_pos hj] at c
   exact c
set_option maxRecDepth 100000 in
set_option maxHeartbeats 4000000 in
theorem sum1T (Ls : List (List T3)) (m : Nat) (a : Option Addr) (c i cb : Nat) (X Y : Nat) (I : Bool) (E : Int) (hS : ∀ w, GA w → RowsT w a Ls → Calls Tryd.prog 17 #[.slice a m c, .int .i64 (i : Nat)] w fun e w' => e = .returned (.tuple #[.agg #[.int .u64 (limb X 0 : Nat), .int .u64 (limb X 1 : Nat), .int .u64 (limb X 2 : Nat), .int .u64 (limb X 3 : Nat), .int .u64 (limb Y 0 : Nat), .int .u64 (limb Y 1 : Nat), .int .u64 (limb Y 2 : Nat), .int .u64 (limb Y 3 : Nat), .bool I], .int .i64 E]) ∧ Below w.heap.size w w') (w : World) (hG : GA w) (hP : RowsT w a Ls) (hb : cb < w.heap.size ∧ w.cell? ⟨cb, 0, none⟩ = some (.slice a m c)) :
  Calls Tryd.prog 16 #[.int .i64 (i : Nat), .pointer (some ⟨cb, 0, none⟩)] w fun e w' => e = .returned (.tuple #[.agg #[.int .u64 (limb X 0 : Nat), .int .u64 (limb X 1 : Nat), .int .u64 (limb X 2 : Nat), .int .u64 (limb X 3 : Nat), .int .u64 (limb Y 0 : Nat), .int .u64 (limb Y 1 : Nat), .int .u64 (limb Y 2 : Nat), .int .u64 (limb Y 3 : Nat), .bool I], .int .i64 E]) ∧ Below w.heap.size w w' := by
 have KS : Hid _ := hS
 obtain ⟨W2, hW2⟩ : ∃ W2, W2 = w.alloc (.cells #[.int .u64 0, .int .u64 0, .int .u64 0, .int .u64 0, .int .u64 0, .int .u64 0, .int .u64 0, .int .u64 0, .bool false] 45) := ⟨_, rfl⟩
 have H2 : Hid (Below w.heap.size w W2 ∧ Bl W2 w.heap.size [.int .u64 0, .int .u64 0, .int .u64 0, .int .u64 0, .int .u64 0, .int .u64 0, .int .u64 0, .int .u64 0, .bool false] 45 ∧ GA W2 ∧ RowsT W2 a Ls) := by
  have hb : Below w.heap.size w W2 := by
   rw [hW2]
   exact below_alloc0 (Below.refl _ _) _
  refine ⟨hb, ?_, hG.call hb, hP.call hb⟩
  rw [hW2]
  exact Bl.new w [.int .u64 0, .int .u64 0, .int .u64 0, .int .u64 0, .int .u64 0, .int .u64 0, .int .u64 0, .int .u64 0, .bool false] _
 have c0 : W2.cell? ⟨cb, 0, none⟩ = some (.slice a m c) := (H2.out.1.cell (p := ⟨cb, 0, none⟩) hb.1).trans hb.2
 have HW : Hid (W2 = w.alloc (.cells #[.int .u64 0, .int .u64 0, .int .u64 0, .int .u64 0, .int .u64 0, .int .u64 0, .int .u64 0, .int .u64 0, .bool false] 45)) := hW2
 clear hS hG hP hW2 hb
 go_enter Tryd.func16, Tryd.ntmps16
 go_upto_region 1 with fail
 rw [← HW.out]
 clear HW
 go_wp2_with fail
 refine (KS.out _ H2.out.2.2.1 H2.out.2.2.2).mono ?_
 rintro e w4 ⟨rfl, hb4⟩
 have H4 : Hid (Below w.heap.size w w4 ∧ Bl w4 w.heap.size [.int .u64 0, .int .u64 0, .int .u64 0, .int .u64 0, .int .u64 0, .int .u64 0, .int .u64 0, .int .u64 0, .bool false] 45) := ⟨below_call0 H2.out.1 hb4, H2.out.2.1.call hb4⟩
 clear hb4 H2 KS c0
 have HS : Hid ((storeVar 45 ⟨w.heap.size, 0, none⟩ (.agg #[.int .u64 (limb X 0 : Nat), .int .u64 (limb X 1 : Nat), .int .u64 (limb X 2 : Nat), .int .u64 (limb X 3 : Nat), .int .u64 (limb Y 0 : Nat), .int .u64 (limb Y 1 : Nat), .int .u64 (limb Y 2 : Nat), .int .u64 (limb Y 3 : Nat), .bool I])).run Tryd.prog w4 = .ok () (w4.setRow w.heap.size #[.int .u64 (limb X 0 : Nat), .int .u64 (limb X 1 : Nat), .int .u64 (limb X 2 : Nat), .int .u64 (limb X 3 : Nat), .int .u64 (limb Y 0 : Nat), .int .u64 (limb Y 1 : Nat), .int .u64 (limb Y 2 : Nat), .int .u64 (limb Y 3 : Nat), .bool I])) := H4.out.2.store (us := [.int .u64 (limb X 0 : Nat), .int .u64 (limb X 1 : Nat), .int .u64 (limb X 2 : Nat), .int .u64 (limb X 3 : Nat), .int .u64 (limb Y 0 : Nat), .int .u64 (limb Y 1 : Nat), .int .u64 (limb Y 2 : Nat), .int .u64 (limb Y 3 : Nat), .bool I]) (by kernel_rfl) rfl (by kernel_rfl)
 go_wp2_with ((with_reducible refine store_to (b := w.heap.size) (k := 0) (x := 3) (y := 8) ?_ ?_ ?_ ?_ HS.out ?_); rfl; rfl; rfl; rfl)
 have hld : (loadVar 45 ⟨w.heap.size, 0, none⟩).run Tryd.prog (w4.setRow w.heap.size #[.int .u64 (limb X 0 : Nat), .int .u64 (limb X 1 : Nat), .int .u64 (limb X 2 : Nat), .int .u64 (limb X 3 : Nat), .int .u64 (limb Y 0 : Nat), .int .u64 (limb Y 1 : Nat), .int .u64 (limb Y 2 : Nat), .int .u64 (limb Y 3 : Nat), .bool I]) = .ok (.agg #[.int .u64 (limb X 0 : Nat), .int .u64 (limb X 1 : Nat), .int .u64 (limb X 2 : Nat), .int .u64 (limb X 3 : Nat), .int .u64 (limb Y 0 : Nat), .int .u64 (limb Y 1 : Nat), .int .u64 (limb Y 2 : Nat), .int .u64 (limb Y 3 : Nat), .bool I]) (w4.setRow w.heap.size #[.int .u64 (limb X 0 : Nat), .int .u64 (limb X 1 : Nat), .int .u64 (limb X 2 : Nat), .int .u64 (limb X 3 : Nat), .int .u64 (limb Y 0 : Nat), .int .u64 (limb Y 1 : Nat), .int .u64 (limb Y 2 : Nat), .int .u64 (limb Y 3 : Nat), .bool I]) := (H4.out.2.put [.int .u64 (limb X 0 : Nat), .int .u64 (limb X 1 : Nat), .int .u64 (limb X 2 : Nat), .int .u64 (limb X 3 : Nat), .int .u64 (limb Y 0 : Nat), .int .u64 (limb Y 1 : Nat), .int .u64 (limb Y 2 : Nat), .int .u64 (limb Y 3 : Nat), .bool I]).load Tryd.underlying45 rfl (by kernel_rfl)
 refine bodyPost_ret (v := .tuple #[.agg #[.int .u64 (limb X 0 : Nat), .int .u64 (limb X 1 : Nat), .int .u64 (limb X 2 : Nat), .int .u64 (limb X 3 : Nat), .int .u64 (limb Y 0 : Nat), .int .u64 (limb Y 1 : Nat), .int .u64 (limb Y 2 : Nat), .int .u64 (limb Y 3 : Nat), .bool I], .int .i64 E]) ?_ rfl ⟨rfl, below_setRow (Nat.le_refl _) _ H4.out.1⟩
 simp [results, Tryd.results16, asAddr, hld]
/-- The points made so far. -/
def fT (f : Nat → T3) (k j : Nat) : List Value := if j < k then tV (f j) else zpL
theorem fT_step (f : Nat → T3) (k j : Nat) : (if j = k then tV (f k) else fT f k j) = fT f (k + 1) j := by
 unfold fT
 by_cases e : j = k
 ·rw [if_pos e, if_pos (by omega), e]
 ·rw [if_neg e]
  by_cases c : j < k
  ·rw [if_pos c, if_pos (by omega)]
  ·rw [if_neg c, if_neg (by omega)]
theorem fT_pts {w : World} {p n : Nat} {f : Nat → T3} (h : TabL w p n 9 (fT f n)) : PntsAt w (some ⟨p, 0, none⟩) ((List.range n).map f) := fun j q hj => by
 rw [List.getElem?_map] at hj
 have hj' : j < n := by
  rcases Nat.lt_or_ge j n with h' | h'
  ·exact h'
  ·rw [List.getElem?_eq_none (by simpa using h')] at hj
   cases hj
 have e : q = f j := by
  rw [List.getElem?_range hj'] at hj
  simp only [Option.map_some, Option.some.injEq] at hj
  exact hj.symm
 refine ⟨p, 0, rfl, ?_⟩
 have t := TabL.pt h hj' (x := (f j).1) (y := (f j).2.1) (i := (f j).2.2) (by unfold fT; rw [if_pos hj']; rfl)
 rw [e, Nat.zero_add]
 exact t
set_option maxRecDepth 100000 in
set_option maxHeartbeats 4000000 in
theorem eachT (f : Nat → T3) (n j0 b cb : Nat) (hj0 : j0 ≤ n) (P : World → Prop) (hPc : ∀ w w', P w → Below w.heap.size w w' → P w') (hK : ∀ j, j < j0 → ∀ w, P w → Calls Tryd.prog 16 #[.int .i64 (j : Nat), .pointer (some ⟨cb, 0, none⟩)] w fun e w' => e = .returned (.tuple #[.agg #[.int .u64 (limb (f j).1 0 : Nat), .int .u64 (limb (f j).1 1 : Nat), .int .u64 (limb (f j).1 2 : Nat), .int .u64 (limb (f j).1 3 : Nat), .int .u64 (limb (f j).2.1 0 : Nat), .int .u64 (limb (f j).2.1 1 : Nat), .int .u64 (limb (f j).2.1 2 : Nat), .int .u64 (limb (f j).2.1 3 : Nat), .bool (f j).2.2], .int .i64 0]) ∧ Below w.heap.size w w')
  (hK2 : j0 < n → ∀ w, P w → Calls Tryd.prog 16 #[.int .i64 (j0 : Nat), .pointer (some ⟨cb, 0, none⟩)] w fun e w' => e = .returned (.tuple #[.agg #[.int .u64 0, .int .u64 0, .int .u64 0, .int .u64 0, .int .u64 0, .int .u64 0, .int .u64 0, .int .u64 0, .bool false], .int .i64 30]) ∧ Below w.heap.size w w')
  (h10 : n ≤ 10) (w : World) (hP : P w) (hb : b < w.heap.size ∧ ∀ j, j < n → w.cell? ⟨b, j, none⟩ = some (.int .i64 (j : Nat))) :
  Calls Tryd.prog 14 #[.slice (some ⟨b, 0, none⟩) n n, .func (.func 16) #[] #[.pointer (some ⟨cb, 0, none⟩)]] w fun e w' => ((j0 = n ∧ ∃ q, e = .returned (.tuple #[.slice (some ⟨q, 0, none⟩) n n, .int .i64 0]) ∧ PntsAt w' (some ⟨q, 0, none⟩) ((List.range n).map f)) ∨ (j0 < n ∧ e = .returned (.tuple #[.slice none 0 0, .int .i64 30]))) ∧ Below w.heap.size w w' := by
 have KC : Hid _ := hK
 have KD : Hid _ := hK2
 have H0 : Hid (P w ∧ (b < w.heap.size ∧ ∀ j, j < n → w.cell? ⟨b, j, none⟩ = some (.int .i64 (j : Nat))) ∧ n ≤ 10 ∧ (∀ w w', P w → Below w.heap.size w w' → P w') ∧ j0 ≤ n) := ⟨hP, hb, h10, hPc, hj0⟩
 have hm : ∀ w, (Instr.makeSlice 24 (.int .i64 (n : Int)) (.int .i64 (n : Int))).run Tryd.prog w = .ok (.slice (some ⟨w.heap.size, 0, none⟩) n n) (w.alloc (.cells (madeCells #[.int .u64 0, .int .u64 0, .int .u64 0, .int .u64 0, .int .u64 0, .int .u64 0, .int .u64 0, .int .u64 0, .bool false] (n * 9)) 45)) := fun w => make_points n (by omega) w
 have HS : Hid (TabL (w.alloc (.cells (madeCells #[.int .u64 0, .int .u64 0, .int .u64 0, .int .u64 0, .int .u64 0, .int .u64 0, .int .u64 0, .int .u64 0, .bool false] (n * 9)) 45)) w.heap.size n 9 (fT f 0) ∧ Below w.heap.size w (w.alloc (.cells (madeCells #[.int .u64 0, .int .u64 0, .int .u64 0, .int .u64 0, .int .u64 0, .int .u64 0, .int .u64 0, .int .u64 0, .bool false] (n * 9)) 45))) := ⟨(TabL.made w zpL n 9 45 rfl (by decide)).congr (fun j _ => by unfold fT; rw [if_neg (by omega)]), below_alloc0 (Below.refl _ _) _⟩
 have n64 : (n : Int) ≤ 64 := by omega
 clear hP hb h10 hPc hK hK2 hj0
 go_enter Tryd.func14, Tryd.ntmps14
 go_wp2_with fail
 clear hm
 rename_i Kr hKr
 have HKr : Hid _ := hKr
 clear hKr
 go_loopw [16] (fun iv wr => ∃ k : Nat, k ≤ j0 ∧ iv = .int .i64 (k : Nat) ∧ TabL wr w.heap.size n 9 (fT f k) ∧ Below w.heap.size w wr) (fun iv _ => n - (Go.RowKit.intOf iv).toNat)
 case atStart => exact ⟨0, Nat.zero_le _, rfl, HS.out⟩
 case round =>
  clear HS
  obtain ⟨k, hk, rfl, hT, hB⟩ := hrel
  rename World => wr
  have HC : Hid (TabL wr w.heap.size n 9 (fT f k) ∧ Below w.heap.size w wr ∧ k ≤ j0) := ⟨hT, hB, hk⟩
  clear hT hB hk
  by_cases hlt0 : k < j0
  ·clear HKr KD
   have hlt : k < n := Nat.lt_of_lt_of_le hlt0 H0.out.2.2.2.2
   have hlt' : (k : Int) < (n : Int) := Int.ofNat_lt.2 hlt
   obtain ⟨R, hR⟩ : ∃ R, R = f k := ⟨_, rfl⟩
   have K1 : Hid (Calls Tryd.prog 16 #[.int .i64 (k : Nat), .pointer (some ⟨cb, 0, none⟩)] wr fun e w' => e = .returned (.tuple #[.agg #[.int .u64 (limb R.1 0 : Nat), .int .u64 (limb R.1 1 : Nat), .int .u64 (limb R.1 2 : Nat), .int .u64 (limb R.1 3 : Nat), .int .u64 (limb R.2.1 0 : Nat), .int .u64 (limb R.2.1 1 : Nat), .int .u64 (limb R.2.1 2 : Nat), .int .u64 (limb R.2.1 3 : Nat), .bool R.2.2], .int .i64 0]) ∧ Below wr.heap.size wr w') := by
    rw [hR]
    exact KC.out k hlt0 wr (H0.out.2.2.2.1 _ _ H0.out.1 HC.out.2.1)
   have c0 : wr.cell? ⟨b, k, none⟩ = some (.int .i64 (k : Nat)) := (HC.out.2.1.cell (p := ⟨b, k, none⟩) H0.out.2.1.1).trans (H0.out.2.1.2 k hlt)
   have HE : Hid (k < n ∧ R = f k ∧ k < j0) := ⟨hlt, hR, hlt0⟩
   clear hR hlt hlt0 KC
   go_upto_region 5 with fail
   clear c0
   go_wp2_with fail
   refine K1.out.mono ?_
   rintro e w5 ⟨rfl, hb5⟩
   obtain ⟨E, hE⟩ : ∃ E, E = w5.heap.size := ⟨_, rfl⟩
   obtain ⟨W6, hW6⟩ : ∃ W6, W6 = w5.alloc (.cells #[.int .u64 (limb R.1 0 : Nat), .int .u64 (limb R.1 1 : Nat), .int .u64 (limb R.1 2 : Nat), .int .u64 (limb R.1 3 : Nat), .int .u64 (limb R.2.1 0 : Nat), .int .u64 (limb R.2.1 1 : Nat), .int .u64 (limb R.2.1 2 : Nat), .int .u64 (limb R.2.1 3 : Nat), .bool R.2.2] 45) := ⟨_, rfl⟩
   have H6 : Hid (TabL W6 w.heap.size n 9 (fT f k) ∧ Below w.heap.size w W6 ∧ Bl W6 E (tV R) 45) := by
    rw [hW6, hE]
    exact ⟨(HC.out.1.call hb5).alloc, below_alloc0 (below_call0 HC.out.2.1 hb5) _, Bl.new w5 (tV R) _⟩
   have HW6 : Hid (W6 = w5.alloc (.cells #[.int .u64 (limb R.1 0 : Nat), .int .u64 (limb R.1 1 : Nat), .int .u64 (limb R.1 2 : Nat), .int .u64 (limb R.1 3 : Nat), .int .u64 (limb R.2.1 0 : Nat), .int .u64 (limb R.2.1 1 : Nat), .int .u64 (limb R.2.1 2 : Nat), .int .u64 (limb R.2.1 3 : Nat), .bool R.2.2] 45) ∧ E = w5.heap.size) := ⟨hW6, hE⟩
   clear hW6 hE HC hb5 K1
   go_upto_region 6 with fail
   rw [← HW6.out.1, ← HW6.out.2]
   clear HW6
   have L6 : Hid ((loadVar 45 ⟨E, 0, none⟩).run Tryd.prog W6 = .ok (.agg #[.int .u64 (limb R.1 0 : Nat), .int .u64 (limb R.1 1 : Nat), .int .u64 (limb R.1 2 : Nat), .int .u64 (limb R.1 3 : Nat), .int .u64 (limb R.2.1 0 : Nat), .int .u64 (limb R.2.1 1 : Nat), .int .u64 (limb R.2.1 2 : Nat), .int .u64 (limb R.2.1 3 : Nat), .bool R.2.2]) W6) := H6.out.2.2.load Tryd.underlying45 rfl (by kernel_rfl)
   have S6 : Hid ((storeVar 45 ⟨w.heap.size, k * 9, none⟩ (.agg #[.int .u64 (limb R.1 0 : Nat), .int .u64 (limb R.1 1 : Nat), .int .u64 (limb R.1 2 : Nat), .int .u64 (limb R.1 3 : Nat), .int .u64 (limb R.2.1 0 : Nat), .int .u64 (limb R.2.1 1 : Nat), .int .u64 (limb R.2.1 2 : Nat), .int .u64 (limb R.2.1 3 : Nat), .bool R.2.2])).run Tryd.prog W6 = .ok () (putL w.heap.size (k * 9) (tV R) W6)) := H6.out.1.store HE.out.1 (tV R) rfl (by kernel_rfl) (by kernel_rfl)
   go_upto_region 9 with (first | ((with_reducible refine load_to (b := E) (k := 0) (x := 9) ?_ ?_ ?_ L6.out ?_); rfl; rfl; rfl) | ((with_reducible refine store_to (b := w.heap.size) (k := k * 9) (x := 33) (y := 32) ?_ ?_ ?_ ?_ S6.out ?_); rfl; rfl; rfl; rfl))
   have H8 : Hid (TabL (putL w.heap.size (k * 9) (tV R) W6) w.heap.size n 9 (fT f (k + 1)) ∧ Below w.heap.size w (putL w.heap.size (k * 9) (tV R) W6)) :=
    ⟨(TabL.put k (tV R) H6.out.1 HE.out.1 rfl).congr (fun j _ => by rw [HE.out.2.1]; exact fT_step f k j), below_putL (Nat.le_refl _) _ _ _ H6.out.2.1⟩
   clear L6 S6 H6
   obtain ⟨W8, hW8⟩ : ∃ W8, W8 = putL w.heap.size (k * 9) (tV R) W6 := ⟨_, rfl⟩
   rw [← hW8] at H8
   rw [← hW8]
   clear hW8
   go_wp2_with fail
   go_roundw
   case rel => first | exact ⟨k + 1, HE.out.2.2, by go_num, H8.out⟩ | ((repeat apply Exists.intro); exact ⟨⟨k + 1, HE.out.2.2, by go_num, H8.out⟩, rfl⟩)
   case measure => have := HE.out.1; simp [intOf]; omega
  ·obtain rfl : k = j0 := by have := HC.out.2.2; omega
   by_cases hn : k < n
   ·have hlt' : (k : Int) < (n : Int) := Int.ofNat_lt.2 hn
    have K1 : Hid (Calls Tryd.prog 16 #[.int .i64 (k : Nat), .pointer (some ⟨cb, 0, none⟩)] wr fun e w' => e = .returned (.tuple #[.agg #[.int .u64 0, .int .u64 0, .int .u64 0, .int .u64 0, .int .u64 0, .int .u64 0, .int .u64 0, .int .u64 0, .bool false], .int .i64 30]) ∧ Below wr.heap.size wr w') := KD.out hn wr (H0.out.2.2.2.1 _ _ H0.out.1 HC.out.2.1)
    have c0 : wr.cell? ⟨b, k, none⟩ = some (.int .i64 (k : Nat)) := (HC.out.2.1.cell (p := ⟨b, k, none⟩) H0.out.2.1.1).trans (H0.out.2.1.2 k hn)
    have HE : Hid (k < n) := hn
    clear hn hlt0 KC KD HKr
    go_upto_region 5 with fail
    clear c0
    go_wp2_with fail
    refine K1.out.mono ?_
    rintro e w5 ⟨rfl, hb5⟩
    have H5 : Hid (Below w.heap.size w w5) := below_call0 HC.out.2.1 hb5
    clear hb5 HC K1
    go_wp2_with fail
    refine bodyPost_ret (v := .tuple #[.slice none 0 0, .int .i64 30]) (by simp [results, Tryd.results14]) rfl ⟨.inr ⟨HE.out, rfl⟩, below_alloc0 H5.out _⟩
   ·obtain rfl : k = n := by have := H0.out.2.2.2.2; omega
    have hnl : ¬ ((k : Int) < (k : Int)) := Int.lt_irrefl _
    clear hlt0 hn KC KD
    go_wp2_with fail
    refine HKr.out _ _ ?_
    clear HKr
    go_wp2_with fail
    refine bodyPost_ret (v := .tuple #[.slice (some ⟨w.heap.size, 0, none⟩) k k, .int .i64 0]) (by simp [results, Tryd.results14]) rfl (by first | exact ⟨.inl ⟨rfl, w.heap.size, rfl, fT_pts HC.out.1⟩, HC.out.2.1⟩ | exact ⟨⟨w.heap.size, rfl, fT_pts HC.out.1⟩, HC.out.2.1⟩)
end Go.Proofs.YtfkpbcionlidaaaDoor

namespace Go.Proofs.YtfkpbcionlidaaaDoor
open Go Go.RowKit Go.Lib
theorem isCount_any (n : Nat) (w : World) : Calls Tryd.prog 34 #[.int .i64 (n : Nat)] w fun e w' => e = .returned (.bool (decide (1 ≤ n ∧ n ≤ 10))) ∧ w' = w := by
 by_cases h : 1 ≤ n ∧ n ≤ 10
 ·rw [decide_eq_true h]
  exact isCount_ok n h w
 ·rw [decide_eq_false h]
  exact isCount_no n h w
theorem RowsT.get {w : World} {a : Option Addr} {L : List (List T3)} (h : RowsT w a L) {k : Nat} (hk : k < L.length) : ∃ p o ra rc, a = some ⟨p, o, none⟩ ∧ w.cell? ⟨p, o + k, none⟩ = some (.slice ra (L[k]'hk).length rc) ∧ PntsAt w ra (L[k]'hk) ∧ p < w.heap.size := h k _ (List.getElem?_eq_getElem hk)
def lnT (L : List (List T3)) : Nat := (L[0]?.getD []).length
def AlkP (m : Nat) (L : List (List T3)) : Prop := ∀ row ∈ L, (1 ≤ row.length ∧ row.length ≤ 10) ∧ row.length = m
instance (m : Nat) (L : List (List T3)) : Decidable (AlkP m L) := inferInstanceAs (Decidable (∀ row ∈ L, _))
def alkB (L : List (List T3)) : Bool := decide (AlkP (lnT L) L ∧ 0 < L.length)
theorem alk_step {m : Nat} {L : List (List T3)} {k : Nat} (hk : k < L.length) (h : AlkP m (L.take k)) (h1 : (1 ≤ (L[k]'hk).length ∧ (L[k]'hk).length ≤ 10) ∧ (L[k]'hk).length = m) : AlkP m (L.take (k + 1)) := by
 rw [List.take_succ_eq_append_getElem hk]
 intro row hr
 rcases List.mem_append.1 hr with c | c
 ·exact h row c
 ·rw [List.mem_singleton.1 c]; exact h1
theorem alk_bad {L : List (List T3)} {k : Nat} (hk : k < L.length) (h : ¬ ((1 ≤ (L[k]'hk).length ∧ (L[k]'hk).length ≤ 10) ∧ (L[k]'hk).length = lnT L)) : alkB L = false := decide_eq_false fun c => h (c.1 _ (List.getElem_mem hk))
theorem alk_all {L : List (List T3)} {k : Nat} (hk : k = L.length) (h : AlkP (lnT L) (L.take k)) : alkB L = decide (0 < k) := by
 rw [List.take_of_length_le (by omega)] at h
 unfold alkB
 exact decide_eq_decide.2 ⟨fun c => by have := c.2; omega, fun c => ⟨h, by omega⟩⟩
theorem alk_ok {L : List (List T3)} (h : alkB L = true) : AlkP (lnT L) L ∧ 0 < L.length := of_decide_eq_true h
theorem lnT_eq {L : List (List T3)} (h : 0 < L.length) : lnT L = (L[0]'h).length := by
 unfold lnT
 rw [List.getElem?_eq_getElem h]
 rfl
set_option maxRecDepth 100000 in
set_option maxHeartbeats 4000000 in
theorem alk_any (a : Option Addr) (L : List (List T3)) (c : Nat) (hl : L.length ≤ 17592186044416) (w : World) (hN : RowsT w a L) :
  Calls Tryd.prog 13 #[.slice a L.length c] w fun e w' => e = .returned (.bool (alkB L)) ∧ Below w.heap.size w w' := by
 obtain ⟨n, hn⟩ : ∃ n, n = L.length := ⟨_, rfl⟩
 rw [← hn]
 have HL : Hid (n = L.length ∧ RowsT w a L) := ⟨hn, hN⟩
 have n43 : (n : Int) ≤ 17592186044416 := by omega
 have K1 : Hid _ := isCount_any
 obtain ⟨D, hD⟩ : ∃ D, D = alkB L := ⟨_, rfl⟩
 rw [← hD]
 have HD : Hid (D = alkB L) := hD
 clear hn hl hN hD
 go_enter Tryd.func13, Tryd.ntmps13
 go_wp2_with fail
 rename_i Kr hKr
 have HKr : Hid _ := hKr
 clear hKr
 go_loopw [7] (fun iv wr => ∃ k : Nat, k ≤ n ∧ iv = .int .i64 (k : Nat) ∧ AlkP (lnT L) (L.take k) ∧ Below w.heap.size w wr) (fun iv _ => n - (Go.RowKit.intOf iv).toNat)
 case atStart => exact ⟨0, Nat.zero_le _, rfl, fun _ h => (List.not_mem_nil h).elim, Below.refl _ _⟩
 case round =>
  obtain ⟨k, hk, rfl, hP, hB⟩ := hrel
  rename World => wr
  have HR : Hid (AlkP (lnT L) (L.take k) ∧ Below w.heap.size w wr) := ⟨hP, hB⟩
  clear hP hB
  by_cases hlt : k < n
  ·clear HKr
   have hkl : k < L.length := by rw [← HL.out.1]; exact hlt
   have h0l : 0 < L.length := by omega
   have hlt' : (k : Int) < (n : Int) := Int.ofNat_lt.2 hlt
   have h0n : 0 < n := by omega
   obtain ⟨p, o, ra, rc, rfl, c0, hr, pz⟩ := (HL.out.2.call HR.out.2).get hkl
   obtain ⟨p', o', sa, sc, e', d0, _, _⟩ := (HL.out.2.call HR.out.2).get h0l
   simp only [Option.some.injEq, Addr.mk.injEq, and_true] at e'
   obtain ⟨rfl, rfl⟩ := e'
   rw [← lnT_eq h0l, Nat.add_zero] at d0
   obtain ⟨m, hm⟩ : ∃ m, m = (L[k]'hkl).length := ⟨_, rfl⟩
   obtain ⟨m0, hm0⟩ : ∃ m, m = lnT L := ⟨_, rfl⟩
   rw [← hm] at c0
   rw [← hm0] at d0
   clear hr
   by_cases h1 : 1 ≤ m ∧ m ≤ 10
   ·have HF1 : Hid (decide (1 ≤ m ∧ m ≤ 10) = true) := decide_eq_true h1
    by_cases h2 : m = m0
    ·have HE : Hid (AlkP (lnT L) (L.take (k + 1)) ∧ Below w.heap.size w wr) := ⟨alk_step hkl HR.out.1 ⟨by rw [← hm]; exact h1, by rw [← hm, ← hm0]; exact h2⟩, HR.out.2⟩
     clear hm hm0
     subst h2
     clear h1
     have hne : ((m : Int) != (m : Int)) = false := by simp
     go_wp2_with fail
     refine (K1.out _ _).mono ?_
     rintro e w1 ⟨rfl, rfl⟩
     rw [HF1.out]
     go_wp2_with fail
     go_roundw
     case rel => first | exact ⟨k + 1, hlt, by go_num, HE.out⟩ | ((repeat apply Exists.intro); exact ⟨⟨k + 1, hlt, by go_num, HE.out⟩, rfl⟩)
     case measure => simp [intOf]; omega
    ·have HF : Hid (D = false) := by rw [HD.out, alk_bad hkl (fun q => h2 (by rw [hm, hm0]; exact q.2))]; rfl
     have e1 : ((m : Int) != (m0 : Int)) = true := by simp; omega
     have e2 : ¬ ((m : Int) = (m0 : Int)) := by omega
     clear hm hm0 h1 h2
     go_wp2_with fail
     refine (K1.out _ _).mono ?_
     rintro e w1 ⟨rfl, rfl⟩
     rw [HF1.out]
     go_wp2_with fail
     go_ret
     exact ⟨by rw [HF.out]; rfl, HR.out.2⟩
   ·have HF1 : Hid (decide (1 ≤ m ∧ m ≤ 10) = false) := decide_eq_false h1
    have HF : Hid (D = false) := by rw [HD.out, alk_bad hkl (fun q => h1 (by rw [hm]; exact q.1))]; rfl
    clear hm hm0 h1
    go_wp2_with fail
    refine (K1.out _ _).mono ?_
    rintro e w1 ⟨rfl, rfl⟩
    rw [HF1.out]
    go_wp2_with fail
    go_ret
    exact ⟨by rw [HF.out]; rfl, HR.out.2⟩
  ·obtain rfl : k = n := by omega
   have hnl : ¬ ((k : Int) < (k : Int)) := Int.lt_irrefl _
   have HF : Hid (D = decide (0 < k)) := by rw [HD.out, alk_all HL.out.1 HR.out.1]; rfl
   clear hlt hk
   go_wp2_with fail
   refine HKr.out _ _ ?_
   clear HKr
   go_wp2_with fail
   go_ret
   exact ⟨by rw [HF.out]; rfl, HR.out.2⟩
set_option maxRecDepth 100000 in
set_option maxHeartbeats 4000000 in
theorem fsumT_no (L : List (List T3)) (m : Nat) (a : Option Addr) (c : Nat) (hm : m = L.length) (hl : m ≤ 20) (hb : alkB L = false) (w : World) (hP : RowsT w a L) :
  Calls Tryd.prog 6 #[.slice a m c] w fun e w' => e = .returned (.tuple #[.slice none 0 0, .int .i64 1]) ∧ Below w.heap.size w w' := by
 have KA : Hid (∀ w, RowsT w a L → Calls Tryd.prog 13 #[.slice a m c] w fun e w' => e = .returned (.bool false) ∧ Below w.heap.size w w') := fun w h => by
  have k := alk_any a L c (by omega) w h
  rw [hb, ← hm] at k
  exact k
 obtain ⟨cb, hcb⟩ : ∃ cb, cb = w.heap.size := ⟨_, rfl⟩
 obtain ⟨W1, hW1⟩ : ∃ W1, W1 = w.alloc (.cells #[.slice a m c] 22) := ⟨_, rfl⟩
 have H1 : Hid (Below w.heap.size w W1 ∧ RowsT W1 a L ∧ W1.cell? ⟨cb, 0, none⟩ = some (.slice a m c)) := by
  have hb : Below w.heap.size w W1 := by
   rw [hW1]
   exact below_alloc0 (Below.refl _ _) _
  refine ⟨hb, hP.call hb, ?_⟩
  rw [hW1, hcb]
  exact World.cell?_alloc_new ..
 have HW : Hid (W1 = w.alloc (.cells #[.slice a m c] 22) ∧ cb = w.heap.size) := ⟨hW1, hcb⟩
 clear hm hl hb hP hW1 hcb
 go_enter Tryd.func6, Tryd.ntmps6
 go_upto_region 1 with fail
 rw [← HW.out.1, ← HW.out.2]
 clear HW
 have c0 := H1.out.2.2
 go_wp2_with fail
 refine (KA.out _ H1.out.2.1).mono ?_
 rintro e w2 ⟨rfl, hb2⟩
 have H2 : Hid (Below w.heap.size w w2) := below_call0 H1.out.1 hb2
 clear hb2 H1 KA c0
 go_wp2_with fail
 refine bodyPost_ret (v := .tuple #[.slice none 0 0, .int .i64 1]) (by simp [results, Tryd.results6]) rfl ⟨rfl, H2.out⟩
theorem pt0_T : (.agg #[.int .u64 0, .int .u64 0, .int .u64 0, .int .u64 0, .int .u64 0, .int .u64 0, .int .u64 0, .int .u64 0, .bool false] : Value) = .agg #[.int .u64 (limb 0 0 : Nat), .int .u64 (limb 0 1 : Nat), .int .u64 (limb 0 2 : Nat), .int .u64 (limb 0 3 : Nat), .int .u64 (limb 0 0 : Nat), .int .u64 (limb 0 1 : Nat), .int .u64 (limb 0 2 : Nat), .int .u64 (limb 0 3 : Nat), .bool false] := rfl
set_option maxRecDepth 100000 in
set_option maxHeartbeats 4000000 in
theorem fsumT_in (Ls : List (List T3)) (f : Nat → T3) (m n0 j0 p o c : Nat) (hm : m = Ls.length) (h1 : 1 ≤ m) (h2 : m ≤ 20) (hb : alkB Ls = true) (hn : ∀ s ∈ Ls, s.length = n0) (h10 : 1 ≤ n0 ∧ n0 ≤ 10) (hj0 : j0 ≤ n0)
  (hK : ∀ j, j < j0 → ∀ w, GA w → RowsT w (some ⟨p, o, none⟩) Ls → Calls Tryd.prog 17 #[.slice (some ⟨p, o, none⟩) m c, .int .i64 (j : Nat)] w fun e w' => e = .returned (.tuple #[.agg #[.int .u64 (limb (f j).1 0 : Nat), .int .u64 (limb (f j).1 1 : Nat), .int .u64 (limb (f j).1 2 : Nat), .int .u64 (limb (f j).1 3 : Nat), .int .u64 (limb (f j).2.1 0 : Nat), .int .u64 (limb (f j).2.1 1 : Nat), .int .u64 (limb (f j).2.1 2 : Nat), .int .u64 (limb (f j).2.1 3 : Nat), .bool (f j).2.2], .int .i64 0]) ∧ Below w.heap.size w w')
  (hK2 : j0 < n0 → ∀ w, GA w → RowsT w (some ⟨p, o, none⟩) Ls → Calls Tryd.prog 17 #[.slice (some ⟨p, o, none⟩) m c, .int .i64 (j0 : Nat)] w fun e w' => e = .returned (.tuple #[.agg #[.int .u64 0, .int .u64 0, .int .u64 0, .int .u64 0, .int .u64 0, .int .u64 0, .int .u64 0, .int .u64 0, .bool false], .int .i64 30]) ∧ Below w.heap.size w w') (w : World) (hG : GA w) (hP : RowsT w (some ⟨p, o, none⟩) Ls) :
  Calls Tryd.prog 6 #[.slice (some ⟨p, o, none⟩) m c] w fun e w' => ((j0 = n0 ∧ ∃ q, e = .returned (.tuple #[.slice (some ⟨q, 0, none⟩) n0 n0, .int .i64 0]) ∧ PntsAt w' (some ⟨q, 0, none⟩) ((List.range n0).map f)) ∨ (j0 < n0 ∧ e = .returned (.tuple #[.slice none 0 0, .int .i64 30]))) ∧ Below w.heap.size w w' := by
 have KA : Hid (∀ w, RowsT w (some ⟨p, o, none⟩) Ls → Calls Tryd.prog 13 #[.slice (some ⟨p, o, none⟩) m c] w fun e w' => e = .returned (.bool true) ∧ Below w.heap.size w w') := fun w h => by
  have k := alk_any (some ⟨p, o, none⟩) Ls c (by omega) w h
  rw [hb, ← hm] at k
  exact k
 have KP : Hid _ := places_ok n0 h10.2
 obtain ⟨cb, hcb⟩ : ∃ cb, cb = w.heap.size := ⟨_, rfl⟩
 have KE : Hid (∀ (b : Nat) (w : World), (GA w ∧ RowsT w (some ⟨p, o, none⟩) Ls ∧ cb < w.heap.size ∧ w.cell? ⟨cb, 0, none⟩ = some (.slice (some ⟨p, o, none⟩) m c)) → (b < w.heap.size ∧ ∀ j, j < n0 → w.cell? ⟨b, j, none⟩ = some (.int .i64 (j : Nat))) → Calls Tryd.prog 14 #[.slice (some ⟨b, 0, none⟩) n0 n0, .func (.func 16) #[] #[.pointer (some ⟨cb, 0, none⟩)]] w fun e w' => ((j0 = n0 ∧ ∃ q, e = .returned (.tuple #[.slice (some ⟨q, 0, none⟩) n0 n0, .int .i64 0]) ∧ PntsAt w' (some ⟨q, 0, none⟩) ((List.range n0).map f)) ∨ (j0 < n0 ∧ e = .returned (.tuple #[.slice none 0 0, .int .i64 30]))) ∧ Below w.heap.size w w') := fun b w hw hb =>
  eachT f n0 j0 b cb hj0 (fun w => GA w ∧ RowsT w (some ⟨p, o, none⟩) Ls ∧ cb < w.heap.size ∧ w.cell? ⟨cb, 0, none⟩ = some (.slice (some ⟨p, o, none⟩) m c)) (fun w w' h hb => ⟨h.1.call hb, h.2.1.call hb, Nat.lt_of_lt_of_le h.2.2.1 hb.size, (hb.cell (p := ⟨cb, 0, none⟩) h.2.2.1).trans h.2.2.2⟩)
   (fun j hj w hw => sum1T Ls m (some ⟨p, o, none⟩) c j cb _ _ _ 0 (hK j hj) w hw.1 hw.2.1 hw.2.2)
   (fun hj w hw => by
    have k := sum1T Ls m (some ⟨p, o, none⟩) c j0 cb 0 0 false 30 (fun w h3 h4 => by rw [← pt0_T]; exact hK2 hj w h3 h4) w hw.1 hw.2.1 hw.2.2
    rw [← pt0_T] at k
    exact k) h10.2 w hw hb
 obtain ⟨W1, hW1⟩ : ∃ W1, W1 = w.alloc (.cells #[.slice (some ⟨p, o, none⟩) m c] 22) := ⟨_, rfl⟩
 have H1 : Hid (Below w.heap.size w W1 ∧ GA W1 ∧ RowsT W1 (some ⟨p, o, none⟩) Ls ∧ cb < W1.heap.size ∧ W1.cell? ⟨cb, 0, none⟩ = some (.slice (some ⟨p, o, none⟩) m c) ∧ m = Ls.length ∧ 1 ≤ m ∧ ∀ s ∈ Ls, s.length = n0) := by
  have hbW : Below w.heap.size w W1 := by
   rw [hW1]
   exact below_alloc0 (Below.refl _ _) _
  refine ⟨hbW, hG.call hbW, hP.call hbW, ?_, ?_, hm, h1, hn⟩
  ·rw [hW1, World.size_alloc, hcb]
   omega
  ·rw [hW1, hcb]
   exact World.cell?_alloc_new ..
 have HW : Hid (W1 = w.alloc (.cells #[.slice (some ⟨p, o, none⟩) m c] 22) ∧ cb = w.heap.size) := ⟨hW1, hcb⟩
 have m1 : (0 : Int) < (m : Int) := by omega
 have n64 : (n0 : Int) ≤ 10 := by omega
 clear hm h1 h2 hb hn h10 hj0 hK hK2 hG hP hW1 hcb
 go_enter Tryd.func6, Tryd.ntmps6
 go_upto_region 1 with fail
 rw [← HW.out.1, ← HW.out.2]
 clear HW
 have c0 := H1.out.2.2.2.2.1
 go_wp2_with fail
 refine (KA.out _ H1.out.2.2.1).mono ?_
 rintro e w2 ⟨rfl, hb2⟩
 have H2 : Hid (Below w.heap.size w w2 ∧ (GA w2 ∧ RowsT w2 (some ⟨p, o, none⟩) Ls ∧ cb < w2.heap.size ∧ w2.cell? ⟨cb, 0, none⟩ = some (.slice (some ⟨p, o, none⟩) m c)) ∧ m = Ls.length ∧ 1 ≤ m ∧ ∀ s ∈ Ls, s.length = n0) := ⟨below_call0 H1.out.1 hb2, ⟨H1.out.2.1.call hb2, H1.out.2.2.1.call hb2, Nat.lt_of_lt_of_le H1.out.2.2.2.1 hb2.size, (hb2.cell (p := ⟨cb, 0, none⟩) H1.out.2.2.2.1).trans H1.out.2.2.2.2.1⟩, H1.out.2.2.2.2.2⟩
 clear hb2 H1 KA c0
 have c1 := H2.out.2.1.2.2.2
 obtain ⟨p2, o2, rb, rd, he, hcell0, -, -⟩ := H2.out.2.1.2.1 0 _ (List.getElem?_eq_getElem (by rw [← H2.out.2.2.1]; exact H2.out.2.2.2.1))
 injection he with he
 injection he with he1 he2
 subst he1 he2
 rw [H2.out.2.2.2.2 _ (List.getElem_mem _), Nat.add_zero] at hcell0
 go_wp2_with fail
 refine (KP.out _).mono ?_
 rintro e w3 ⟨b, rfl, hb, hb3⟩
 have H3 : Hid (Below w.heap.size w w3 ∧ (GA w3 ∧ RowsT w3 (some ⟨p, o, none⟩) Ls ∧ cb < w3.heap.size ∧ w3.cell? ⟨cb, 0, none⟩ = some (.slice (some ⟨p, o, none⟩) m c)) ∧ (b < w3.heap.size ∧ ∀ j, j < n0 → w3.cell? ⟨b, j, none⟩ = some (.int .i64 (j : Nat)))) := ⟨below_call0 H2.out.1 hb3, ⟨H2.out.2.1.1.call hb3, H2.out.2.1.2.1.call hb3, Nat.lt_of_lt_of_le H2.out.2.1.2.2.1 hb3.size, (hb3.cell (p := ⟨cb, 0, none⟩) H2.out.2.1.2.2.1).trans H2.out.2.1.2.2.2⟩, hb⟩
 clear hb hb3 H2 KP c1 hcell0
 go_wp2_with fail
 refine (KE.out b _ H3.out.2.1 H3.out.2.2).mono ?_
 rintro e w4 ⟨hr, hb4⟩
 have H4 : Hid (Below w.heap.size w w4) := below_call0 H3.out.1 hb4
 clear hb4 H3 KE
 rcases hr with ⟨hj, q, rfl, hp4⟩ | ⟨hj, rfl⟩
 ·have H5 : Hid (j0 = n0 ∧ PntsAt w4 (some ⟨q, 0, none⟩) ((List.range n0).map f)) := ⟨hj, hp4⟩
  clear hj hp4
  go_wp2_with fail
  refine bodyPost_ret (v := .tuple #[.slice (some ⟨q, 0, none⟩) n0 n0, .int .i64 0]) (by simp [results, Tryd.results6]) rfl ⟨.inl ⟨H5.out.1, q, rfl, H5.out.2⟩, H4.out⟩
 ·have H5 : Hid (j0 < n0) := hj
  clear hj
  go_wp2_with fail
  refine bodyPost_ret (v := .tuple #[.slice none 0 0, .int .i64 30]) (by simp [results, Tryd.results6]) rfl ⟨.inr ⟨H5.out, rfl⟩, H4.out⟩
end Go.Proofs.YtfkpbcionlidaaaDoor
