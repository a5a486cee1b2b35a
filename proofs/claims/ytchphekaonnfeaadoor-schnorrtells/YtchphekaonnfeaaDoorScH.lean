/- Package schnorr: the equation's question. -/
import Derived.Test.YtchphekaonnfeaaDoorScE
import Derived.Test.YtchphekaonnfeaaDoorScG
import Derived.Test.YtchphekaonnfeaaDoorRgM
namespace Go.Proofs.YtchphekaonnfeaaDoor
open Go Go.RowKit Go.Lib
theorem eqPts (a b : Pts) (D : Bool) (hD : D = true ↔ a = b) (w : World) : (Op.equalIn 10000 28 (.agg #[.int .u64 (limb (pX a) 0 : Nat), .int .u64 (limb (pX a) 1 : Nat), .int .u64 (limb (pX a) 2 : Nat), .int .u64 (limb (pX a) 3 : Nat), .int .u64 (limb (pY a) 0 : Nat), .int .u64 (limb (pY a) 1 : Nat), .int .u64 (limb (pY a) 2 : Nat), .int .u64 (limb (pY a) 3 : Nat), .bool (pI a)]) (.agg #[.int .u64 (limb (pX b) 0 : Nat), .int .u64 (limb (pX b) 1 : Nat), .int .u64 (limb (pX b) 2 : Nat), .int .u64 (limb (pX b) 3 : Nat), .int .u64 (limb (pY b) 0 : Nat), .int .u64 (limb (pY b) 1 : Nat), .int .u64 (limb (pY b) 2 : Nat), .int .u64 (limb (pY b) 3 : Nat), .bool (pI b)])).run Tryd.prog w = .ok D w := by
  rw [run_eqP, eq4_num _ _ (Nat.lt_trans (pX_lt a) (of_decide_eq_true (by kernel_rfl))) (Nat.lt_trans (pX_lt b) (of_decide_eq_true (by kernel_rfl))), eq4_num _ _ (Nat.lt_trans (pY_lt a) (of_decide_eq_true (by kernel_rfl))) (Nat.lt_trans (pY_lt b) (of_decide_eq_true (by kernel_rfl)))]
  by_cases h : a = b
  · rw [hD.2 h]
    subst h
    simp
  · have hf : D = false := by
      cases D
      · rfl
      · exact absurd (hD.1 rfl) h
    rw [hf]
    by_cases h1 : pX a = pX b
    · by_cases h2 : pY a = pY b
      · by_cases h3 : pI a = pI b
        · exact absurd (pts_inj h1 h2 h3) h
        · simp [h1, h2, h3]
      · simp [h2]
    · simp [h1]
/-- What a node's commitments tell. -/
theorem NumsAt.two (w : World) (a b : Nat) (t : TypeId) : NumsAt (w.alloc (.cells #[.int .u64 (limb (a) 0 : Nat), .int .u64 (limb (a) 1 : Nat), .int .u64 (limb (a) 2 : Nat), .int .u64 (limb (a) 3 : Nat), .int .u64 (limb (b) 0 : Nat), .int .u64 (limb (b) 1 : Nat), .int .u64 (limb (b) 2 : Nat), .int .u64 (limb (b) 3 : Nat)] t)) (some ⟨w.heap.size, 0, none⟩) [a, b] := fun j n hj => by
  match j, hj with
  | 0, hj => simp at hj; subst hj; exact ⟨w.heap.size, 0, rfl, by simp, by rw [World.cell?_alloc_new]; rfl, by rw [World.cell?_alloc_new]; rfl, by rw [World.cell?_alloc_new]; rfl, by rw [World.cell?_alloc_new]; rfl⟩
  | 1, hj => simp at hj; subst hj; exact ⟨w.heap.size, 0, rfl, by simp, by rw [World.cell?_alloc_new]; rfl, by rw [World.cell?_alloc_new]; rfl, by rw [World.cell?_alloc_new]; rfl, by rw [World.cell?_alloc_new]; rfl⟩
theorem PntsAt.pair {w : World} {c : Nat} (x y u v : Nat) (i f : Bool) (t : TypeId) (hc : c = w.heap.size) : PntsAt (w.alloc (.cells #[.int .u64 (limb (x) 0 : Nat), .int .u64 (limb (x) 1 : Nat), .int .u64 (limb (x) 2 : Nat), .int .u64 (limb (x) 3 : Nat), .int .u64 (limb (y) 0 : Nat), .int .u64 (limb (y) 1 : Nat), .int .u64 (limb (y) 2 : Nat), .int .u64 (limb (y) 3 : Nat), .bool i, .int .u64 (limb (u) 0 : Nat), .int .u64 (limb (u) 1 : Nat), .int .u64 (limb (u) 2 : Nat), .int .u64 (limb (u) 3 : Nat), .int .u64 (limb (v) 0 : Nat), .int .u64 (limb (v) 1 : Nat), .int .u64 (limb (v) 2 : Nat), .int .u64 (limb (v) 3 : Nat), .bool f] t)) (some ⟨c, 0, none⟩) [(x, y, i), (u, v, f)] := fun j n hj => by
  subst hc
  match j, hj with
  | 0, hj => simp at hj; subst hj; exact ⟨w.heap.size, 0, rfl, by simp, by rw [World.cell?_alloc_new]; rfl, by rw [World.cell?_alloc_new]; rfl, by rw [World.cell?_alloc_new]; rfl, by rw [World.cell?_alloc_new]; rfl, by rw [World.cell?_alloc_new]; rfl, by rw [World.cell?_alloc_new]; rfl, by rw [World.cell?_alloc_new]; rfl, by rw [World.cell?_alloc_new]; rfl, by rw [World.cell?_alloc_new]; rfl⟩
  | 1, hj => simp at hj; subst hj; exact ⟨w.heap.size, 0, rfl, by simp, by rw [World.cell?_alloc_new]; rfl, by rw [World.cell?_alloc_new]; rfl, by rw [World.cell?_alloc_new]; rfl, by rw [World.cell?_alloc_new]; rfl, by rw [World.cell?_alloc_new]; rfl, by rw [World.cell?_alloc_new]; rfl, by rw [World.cell?_alloc_new]; rfl, by rw [World.cell?_alloc_new]; rfl, by rw [World.cell?_alloc_new]; rfl⟩
def z4V : List Value := [.int .u64 0, .int .u64 0, .int .u64 0, .int .u64 0]
def ow1 (N Z : Nat) (Y R : Pts) (m : ByteArray) (c n : Nat) : Bool → Nat → Value → World → Prop
  | s, 0, y, w => s = false → ∃ g, y = .pointer (some ⟨g, 0, none⟩) ∧ FieldB w g QQ
  | _, 1, y, _ => y = .pointer (some ⟨N, 10, none⟩)
  | _, 2, y, _ => y = .pointer (some ⟨N, 10, none⟩)
  | _, 3, y, _ => y = .agg #[.int .u64 (limb (pX R) 0 : Nat), .int .u64 (limb (pX R) 1 : Nat), .int .u64 (limb (pX R) 2 : Nat), .int .u64 (limb (pX R) 3 : Nat), .int .u64 (limb (pY R) 0 : Nat), .int .u64 (limb (pY R) 1 : Nat), .int .u64 (limb (pY R) 2 : Nat), .int .u64 (limb (pY R) 3 : Nat), .bool (pI R)]
  | _, 4, y, _ => y = .pointer (some ⟨N, 0, none⟩)
  | _, 5, y, _ => y = .agg #[.int .u64 (limb (pX Y) 0 : Nat), .int .u64 (limb (pX Y) 1 : Nat), .int .u64 (limb (pX Y) 2 : Nat), .int .u64 (limb (pX Y) 3 : Nat), .int .u64 (limb (pY Y) 0 : Nat), .int .u64 (limb (pY Y) 1 : Nat), .int .u64 (limb (pY Y) 2 : Nat), .int .u64 (limb (pY Y) 3 : Nat), .bool (pI Y)]
  | _, 6, y, _ => y = .pointer (some ⟨N, 9, none⟩)
  | _, 7, y, _ => y = .string m
  | _, 8, y, _ => y = .agg #[.int .u64 (limb c 0 : Nat), .int .u64 (limb c 1 : Nat), .int .u64 (limb c 2 : Nat), .int .u64 (limb c 3 : Nat)]
  | _, 9, y, _ => y = .tuple #[.agg #[.int .u64 (limb n 0 : Nat), .int .u64 (limb n 1 : Nat), .int .u64 (limb n 2 : Nat), .int .u64 (limb n 3 : Nat)], .int .i64 0]
  | _, 10, y, _ => y = .tuple #[.agg #[.int .u64 (limb n 0 : Nat), .int .u64 (limb n 1 : Nat), .int .u64 (limb n 2 : Nat), .int .u64 (limb n 3 : Nat)], .int .i64 0]
  | _, 11, y, _ => y = .agg #[.int .u64 (limb n 0 : Nat), .int .u64 (limb n 1 : Nat), .int .u64 (limb n 2 : Nat), .int .u64 (limb n 3 : Nat)]
  | _, 12, y, _ => y = .int .i64 0
  | s, 13, y, w => ∃ b, y = .pointer (some ⟨b, 0, none⟩) ∧ Z ≤ b ∧ Bl w b (cond s (numV n) z4V) 24
  | _, _, _, _ => True
theorem ow1_call (N Z : Nat) (Y R : Pts) (m : ByteArray) (c n : Nat) (s : Bool) (i : Nat) (y : Value) (w w' : World) (h : ow1 N Z Y R m c n s i y w) (hb : Below w.heap.size w w') : ow1 N Z Y R m c n s i y w' :=
  match i, h with
  | 0, h => fun hs => let ⟨g, e, hF⟩ := h hs; ⟨g, e, FieldB.call hF hb⟩
  | 1, h => h
  | 2, h => h
  | 3, h => h
  | 4, h => h
  | 5, h => h
  | 6, h => h
  | 7, h => h
  | 8, h => h
  | 9, h => h
  | 10, h => h
  | 11, h => h
  | 12, h => h
  | 13, ⟨b, e, hz, hB⟩ => ⟨b, e, hz, hB.call hb⟩
  | _ + 14, _ => trivial
def z9V : List Value := [.int .u64 0, .int .u64 0, .int .u64 0, .int .u64 0, .int .u64 0, .int .u64 0, .int .u64 0, .int .u64 0, .bool false]
def ow2 (N Z : Nat) (Y T : Pts) (z n : Nat) : Bool → Nat → Value → World → Prop
  | _, 0, y, _ => y = .pointer (some ⟨N, 10, none⟩)
  | _, 1, y, _ => y = .pointer (some ⟨N, 19, none⟩)
  | _, 2, y, _ => y = .agg #[.int .u64 (limb z 0 : Nat), .int .u64 (limb z 1 : Nat), .int .u64 (limb z 2 : Nat), .int .u64 (limb z 3 : Nat)]
  | _, 3, y, _ => y = .agg #[.int .u64 (limb n 0 : Nat), .int .u64 (limb n 1 : Nat), .int .u64 (limb n 2 : Nat), .int .u64 (limb n 3 : Nat)]
  | s, 4, y, w => s = false → ∃ c, y = .slice (some ⟨c, 0, none⟩) 2 2 ∧ NumsAt w (some ⟨c, 0, none⟩) [z, n]
  | _, 5, y, _ => y = .agg #[.int .u64 (limb (pX gG) 0 : Nat), .int .u64 (limb (pX gG) 1 : Nat), .int .u64 (limb (pX gG) 2 : Nat), .int .u64 (limb (pX gG) 3 : Nat), .int .u64 (limb (pY gG) 0 : Nat), .int .u64 (limb (pY gG) 1 : Nat), .int .u64 (limb (pY gG) 2 : Nat), .int .u64 (limb (pY gG) 3 : Nat), .bool (pI gG)]
  | _, 6, y, _ => y = .pointer (some ⟨N, 0, none⟩)
  | _, 7, y, _ => y = .agg #[.int .u64 (limb (pX Y) 0 : Nat), .int .u64 (limb (pX Y) 1 : Nat), .int .u64 (limb (pX Y) 2 : Nat), .int .u64 (limb (pX Y) 3 : Nat), .int .u64 (limb (pY Y) 0 : Nat), .int .u64 (limb (pY Y) 1 : Nat), .int .u64 (limb (pY Y) 2 : Nat), .int .u64 (limb (pY Y) 3 : Nat), .bool (pI Y)]
  | s, 8, y, w => s = false → ∃ c, y = .slice (some ⟨c, 0, none⟩) 2 2 ∧ PtsAt w (some ⟨c, 0, none⟩) [gG, Y]
  | _, 9, y, _ => y = .tuple #[.agg #[.int .u64 (limb (pX T) 0 : Nat), .int .u64 (limb (pX T) 1 : Nat), .int .u64 (limb (pX T) 2 : Nat), .int .u64 (limb (pX T) 3 : Nat), .int .u64 (limb (pY T) 0 : Nat), .int .u64 (limb (pY T) 1 : Nat), .int .u64 (limb (pY T) 2 : Nat), .int .u64 (limb (pY T) 3 : Nat), .bool (pI T)], .int .i64 0]
  | _, 10, y, _ => y = .tuple #[.agg #[.int .u64 (limb (pX T) 0 : Nat), .int .u64 (limb (pX T) 1 : Nat), .int .u64 (limb (pX T) 2 : Nat), .int .u64 (limb (pX T) 3 : Nat), .int .u64 (limb (pY T) 0 : Nat), .int .u64 (limb (pY T) 1 : Nat), .int .u64 (limb (pY T) 2 : Nat), .int .u64 (limb (pY T) 3 : Nat), .bool (pI T)], .int .i64 0]
  | _, 11, y, _ => y = .agg #[.int .u64 (limb (pX T) 0 : Nat), .int .u64 (limb (pX T) 1 : Nat), .int .u64 (limb (pX T) 2 : Nat), .int .u64 (limb (pX T) 3 : Nat), .int .u64 (limb (pY T) 0 : Nat), .int .u64 (limb (pY T) 1 : Nat), .int .u64 (limb (pY T) 2 : Nat), .int .u64 (limb (pY T) 3 : Nat), .bool (pI T)]
  | _, 12, y, _ => y = .int .i64 0
  | s, 13, y, w => ∃ c, y = .pointer (some ⟨c, 0, none⟩) ∧ Z ≤ c ∧ Bl w c (cond s (ptsV T) z9V) 28
  | _, _, _, _ => True
theorem ow2_call (N Z : Nat) (Y T : Pts) (z n : Nat) (s : Bool) (i : Nat) (y : Value) (w w' : World) (h : ow2 N Z Y T z n s i y w) (hb : Below w.heap.size w w') : ow2 N Z Y T z n s i y w' :=
  match i, h with
  | 0, h => h
  | 1, h => h
  | 2, h => h
  | 3, h => h
  | 4, h => fun hs => let ⟨c, e, hF⟩ := h hs; ⟨c, e, hF.call hb⟩
  | 5, h => h
  | 6, h => h
  | 7, h => h
  | 8, h => fun hs => let ⟨c, e, hF⟩ := h hs; ⟨c, e, hF.call hb⟩
  | 9, h => h
  | 10, h => h
  | 11, h => h
  | 12, h => h
  | 13, ⟨b, e, hz, hB⟩ => ⟨b, e, hz, hB.call hb⟩
  | _ + 14, _ => trivial
set_option maxRecDepth 100000 in
set_option maxHeartbeats 4000000 in
theorem kept_any (Y R T : Pts) (m : ByteArray) (z c n : Nat) (D : Bool) (E : Int) (hz : z < QQ) (hT : T = gr.tot gr.mul [(z, gG), (n, Y)]) (hD : D = true ↔ T = R) (hE : E = if D then 0 else 80) (hm : m.size ≤ 4096) (hc : c = chN R Y m) (hn : n = subM QQ 0 c) (w : World) (hG : GS w) :
    Calls Tryd.prog 25 #[.agg #[.int .u64 (limb (pX Y) 0 : Nat), .int .u64 (limb (pX Y) 1 : Nat), .int .u64 (limb (pX Y) 2 : Nat), .int .u64 (limb (pX Y) 3 : Nat), .int .u64 (limb (pY Y) 0 : Nat), .int .u64 (limb (pY Y) 1 : Nat), .int .u64 (limb (pY Y) 2 : Nat), .int .u64 (limb (pY Y) 3 : Nat), .bool (pI Y), .string m, .int .u64 (limb (pX R) 0 : Nat), .int .u64 (limb (pX R) 1 : Nat), .int .u64 (limb (pX R) 2 : Nat), .int .u64 (limb (pX R) 3 : Nat), .int .u64 (limb (pY R) 0 : Nat), .int .u64 (limb (pY R) 1 : Nat), .int .u64 (limb (pY R) 2 : Nat), .int .u64 (limb (pY R) 3 : Nat), .bool (pI R), .int .u64 (limb z 0 : Nat), .int .u64 (limb z 1 : Nat), .int .u64 (limb z 2 : Nat), .int .u64 (limb z 3 : Nat)]] w fun e w' => e = .returned (.int .i64 E) ∧ Below w.heap.size w w' := by
  have KS : Hid _ := scalars_any
  have KC : Hid (∀ w, GS w → Calls Tryd.prog 22 #[.agg #[.int .u64 (limb (pX R) 0 : Nat), .int .u64 (limb (pX R) 1 : Nat), .int .u64 (limb (pX R) 2 : Nat), .int .u64 (limb (pX R) 3 : Nat), .int .u64 (limb (pY R) 0 : Nat), .int .u64 (limb (pY R) 1 : Nat), .int .u64 (limb (pY R) 2 : Nat), .int .u64 (limb (pY R) 3 : Nat), .bool (pI R)], .agg #[.int .u64 (limb (pX Y) 0 : Nat), .int .u64 (limb (pX Y) 1 : Nat), .int .u64 (limb (pX Y) 2 : Nat), .int .u64 (limb (pX Y) 3 : Nat), .int .u64 (limb (pY Y) 0 : Nat), .int .u64 (limb (pY Y) 1 : Nat), .int .u64 (limb (pY Y) 2 : Nat), .int .u64 (limb (pY Y) 3 : Nat), .bool (pI Y)], .string m] w fun e w' => e = .returned (.agg #[.int .u64 (limb c 0 : Nat), .int .u64 (limb c 1 : Nat), .int .u64 (limb c 2 : Nat), .int .u64 (limb c 3 : Nat)]) ∧ Below w.heap.size w w') := fun w h => chal_ok R Y m c hm hc w h
  have hcq : c < QQ := by rw [hc]; exact chN_lt R Y m
  have KN : Hid (∀ (g : Nat) (w : World), FieldB w g QQ → Calls Tryd.prog 39 #[.pointer (some ⟨g, 0, none⟩), .agg #[.int .u64 (limb c 0 : Nat), .int .u64 (limb c 1 : Nat), .int .u64 (limb c 2 : Nat), .int .u64 (limb c 3 : Nat)]] w fun e w' => e = .returned (.tuple #[.agg #[.int .u64 (limb n 0 : Nat), .int .u64 (limb n 1 : Nat), .int .u64 (limb n 2 : Nat), .int .u64 (limb n 3 : Nat)], .int .i64 0]) ∧ Below w.heap.size w w') := fun g w h => by
    rw [hn]
    exact fneg_in g QQ c FM_Q hcq w h
  have hnq : n < QQ := by rw [hn]; exact subM_lt QQ 0 c (Nat.lt_of_le_of_lt (Nat.zero_le _) hz)
  have KG : Hid _ := G_A
  have KM : Hid (∀ (b p : Option Addr) (w : World), GA w → NumsAt w b [z, n] → PtsAt w p [gG, Y] → Calls Tryd.prog 35 #[.slice b 2 2, .slice p 2 2] w fun e w' => e = .returned (.tuple #[.agg #[.int .u64 (limb (pX T) 0 : Nat), .int .u64 (limb (pX T) 1 : Nat), .int .u64 (limb (pX T) 2 : Nat), .int .u64 (limb (pX T) 3 : Nat), .int .u64 (limb (pY T) 0 : Nat), .int .u64 (limb (pY T) 1 : Nat), .int .u64 (limb (pY T) 2 : Nat), .int .u64 (limb (pY T) 3 : Nat), .bool (pI T)], .int .i64 0]) ∧ Below w.heap.size w w') := fun b p w h h1 h2 => by
    rw [hT]
    exact Sum_ok 2 b p 2 2 [(z, gG), (n, Y)] rfl (by decide) (fun q hq => by
      rcases List.mem_cons.1 hq with rfl | hq
      · exact hz
      · rw [List.mem_singleton.1 hq]
        exact hnq) w h.1 h.2.1 h.2.2.1 h1 h2
  have HQ : Hid (∀ w : World, (Op.equalIn 10000 28 (.agg #[.int .u64 (limb (pX T) 0 : Nat), .int .u64 (limb (pX T) 1 : Nat), .int .u64 (limb (pX T) 2 : Nat), .int .u64 (limb (pX T) 3 : Nat), .int .u64 (limb (pY T) 0 : Nat), .int .u64 (limb (pY T) 1 : Nat), .int .u64 (limb (pY T) 2 : Nat), .int .u64 (limb (pY T) 3 : Nat), .bool (pI T)]) (.agg #[.int .u64 (limb (pX R) 0 : Nat), .int .u64 (limb (pX R) 1 : Nat), .int .u64 (limb (pX R) 2 : Nat), .int .u64 (limb (pX R) 3 : Nat), .int .u64 (limb (pY R) 0 : Nat), .int .u64 (limb (pY R) 1 : Nat), .int .u64 (limb (pY R) 2 : Nat), .int .u64 (limb (pY R) 3 : Nat), .bool (pI R)])).run Tryd.prog w = .ok D w) := fun w => eqPts T R D hD w
  have HE : Hid (E = if D then 0 else 80) := hE
  clear hz hT hD hE hnq
  obtain ⟨N, hN⟩ : ∃ N, N = w.heap.size := ⟨_, rfl⟩
  obtain ⟨W1, hW1⟩ : ∃ W1, W1 = w.alloc (.cells #[.int .u64 (limb (pX Y) 0 : Nat), .int .u64 (limb (pX Y) 1 : Nat), .int .u64 (limb (pX Y) 2 : Nat), .int .u64 (limb (pX Y) 3 : Nat), .int .u64 (limb (pY Y) 0 : Nat), .int .u64 (limb (pY Y) 1 : Nat), .int .u64 (limb (pY Y) 2 : Nat), .int .u64 (limb (pY Y) 3 : Nat), .bool (pI Y), .string m, .int .u64 (limb (pX R) 0 : Nat), .int .u64 (limb (pX R) 1 : Nat), .int .u64 (limb (pX R) 2 : Nat), .int .u64 (limb (pX R) 3 : Nat), .int .u64 (limb (pY R) 0 : Nat), .int .u64 (limb (pY R) 1 : Nat), .int .u64 (limb (pY R) 2 : Nat), .int .u64 (limb (pY R) 3 : Nat), .bool (pI R), .int .u64 (limb z 0 : Nat), .int .u64 (limb z 1 : Nat), .int .u64 (limb z 2 : Nat), .int .u64 (limb z 3 : Nat)] 59) := ⟨_, rfl⟩
  have H1 : Hid (Below w.heap.size w W1 ∧ Bl W1 N [.int .u64 (limb (pX Y) 0 : Nat), .int .u64 (limb (pX Y) 1 : Nat), .int .u64 (limb (pX Y) 2 : Nat), .int .u64 (limb (pX Y) 3 : Nat), .int .u64 (limb (pY Y) 0 : Nat), .int .u64 (limb (pY Y) 1 : Nat), .int .u64 (limb (pY Y) 2 : Nat), .int .u64 (limb (pY Y) 3 : Nat), .bool (pI Y), .string m, .int .u64 (limb (pX R) 0 : Nat), .int .u64 (limb (pX R) 1 : Nat), .int .u64 (limb (pX R) 2 : Nat), .int .u64 (limb (pX R) 3 : Nat), .int .u64 (limb (pY R) 0 : Nat), .int .u64 (limb (pY R) 1 : Nat), .int .u64 (limb (pY R) 2 : Nat), .int .u64 (limb (pY R) 3 : Nat), .bool (pI R), .int .u64 (limb z 0 : Nat), .int .u64 (limb z 1 : Nat), .int .u64 (limb z 2 : Nat), .int .u64 (limb z 3 : Nat)] 59 ∧ GS W1 ∧ N = w.heap.size) := by
    have hb : Below w.heap.size w W1 := by
      rw [hW1]
      exact below_alloc0 (Below.refl _ _) _
    refine ⟨hb, ?_, hG.call hb, hN⟩
    rw [hW1, hN]
    exact Bl.new w [.int .u64 (limb (pX Y) 0 : Nat), .int .u64 (limb (pX Y) 1 : Nat), .int .u64 (limb (pX Y) 2 : Nat), .int .u64 (limb (pX Y) 3 : Nat), .int .u64 (limb (pY Y) 0 : Nat), .int .u64 (limb (pY Y) 1 : Nat), .int .u64 (limb (pY Y) 2 : Nat), .int .u64 (limb (pY Y) 3 : Nat), .bool (pI Y), .string m, .int .u64 (limb (pX R) 0 : Nat), .int .u64 (limb (pX R) 1 : Nat), .int .u64 (limb (pX R) 2 : Nat), .int .u64 (limb (pX R) 3 : Nat), .int .u64 (limb (pY R) 0 : Nat), .int .u64 (limb (pY R) 1 : Nat), .int .u64 (limb (pY R) 2 : Nat), .int .u64 (limb (pY R) 3 : Nat), .bool (pI R), .int .u64 (limb z 0 : Nat), .int .u64 (limb z 1 : Nat), .int .u64 (limb z 2 : Nat), .int .u64 (limb z 3 : Nat)] _
  have HW : Hid (W1 = w.alloc (.cells #[.int .u64 (limb (pX Y) 0 : Nat), .int .u64 (limb (pX Y) 1 : Nat), .int .u64 (limb (pX Y) 2 : Nat), .int .u64 (limb (pX Y) 3 : Nat), .int .u64 (limb (pY Y) 0 : Nat), .int .u64 (limb (pY Y) 1 : Nat), .int .u64 (limb (pY Y) 2 : Nat), .int .u64 (limb (pY Y) 3 : Nat), .bool (pI Y), .string m, .int .u64 (limb (pX R) 0 : Nat), .int .u64 (limb (pX R) 1 : Nat), .int .u64 (limb (pX R) 2 : Nat), .int .u64 (limb (pX R) 3 : Nat), .int .u64 (limb (pY R) 0 : Nat), .int .u64 (limb (pY R) 1 : Nat), .int .u64 (limb (pY R) 2 : Nat), .int .u64 (limb (pY R) 3 : Nat), .bool (pI R), .int .u64 (limb z 0 : Nat), .int .u64 (limb z 1 : Nat), .int .u64 (limb z 2 : Nat), .int .u64 (limb z 3 : Nat)] 59) ∧ N = w.heap.size) := ⟨hW1, hN⟩
  clear hW1 hG hm hc hn hcq hN
  go_enter Tryd.func25, Tryd.ntmps25
  go_upto_region 1 with fail
  rw [← HW.out.1, ← HW.out.2]
  clear HW
  refine wp_region_S 15 0 14 (ow1 N W1.heap.size Y R m c n) [some 8, some 9, some 10, some 11, some 12, some 13, some 14, some 15, some 16, some 17, some 7, some 18, some 19, some 3, none] [0, 1, 2, 3, 4, 5, 6, 7, 8, 9, 10, 11, 12, 13, 14] ?A1 ?os1 (by kernel_rfl) (by kernel_rfl) (by kernel_rfl) (by kernel_rfl) ?hos1 (by decide) ?hA1 (ow1_call N W1.heap.size Y R m c n) ?hop1 ?hst1 ?hfin1
  case hos1 =>
    rw [List.getElem?_toArray]
    exact rfl
  case hA1 =>
    intro v
    simp only [List.map_cons, List.map_nil, List.zip_cons_cons, List.zip_nil_right, fillD, Act.put, List.setIfInBounds_toArray, List.set_cons_zero, List.set_cons_succ]
    exact rfl
  case hop1 =>
    refine ⟨?_, ?_, ?_, ?_, ?_, ?_, ?_, ?_, ?_, ?_, ?_, ?_, ?_, ?_, fun _ h => absurd rfl h, fun h => absurd h (by decide), trivial⟩
    focus (intro _ _ s v wx hs hS hd; obtain rfl := hs (by kernel_rfl); refine OpTo.asks rfl (fun _ => rfl) (fun K hK => ?_); go_simp; refine (KS.out _ (H1.out.2.2.1.call hS).1.2.1).mono ?_; rintro e w' ⟨g, rfl, hF, hq⟩; exact hK _ w' (fun _ => ⟨g, rfl, hF⟩) hq)
    focus (intro _ _ s v wx hs hS hd; refine OpTo.does rfl ?_ rfl (Below.refl _ _); clear hd hs hS; go_simp; try with_reducible rfl)
    focus (intro _ _ s v wx hs hS hd; refine OpTo.does rfl ?_ rfl (Below.refl _ _); have d1 := hd 1 (by kernel_rfl); simp only [ow1] at d1; simp only [d1]; clear hd hs hS; go_simp; try with_reducible rfl)
    focus (intro _ _ s v wx hs hS hd; exact OpTo.does rfl (exec_loadF (b := N) (k := 10) (x := 10) rfl (hd 2 (by kernel_rfl)) ((H1.out.2.1.call hS).loadAt 10 [.int .u64 (limb (pX R) 0 : Nat), .int .u64 (limb (pX R) 1 : Nat), .int .u64 (limb (pX R) 2 : Nat), .int .u64 (limb (pX R) 3 : Nat), .int .u64 (limb (pY R) 0 : Nat), .int .u64 (limb (pY R) 1 : Nat), .int .u64 (limb (pY R) 2 : Nat), .int .u64 (limb (pY R) 3 : Nat), .bool (pI R)] ⟨rfl, rfl⟩ Tryd.underlying28 rfl (by kernel_rfl))) rfl (Below.refl _ _))
    focus (intro _ _ s v wx hs hS hd; refine OpTo.does rfl ?_ rfl (Below.refl _ _); clear hd hs hS; go_simp; try with_reducible rfl)
    focus (intro _ _ s v wx hs hS hd; exact OpTo.does rfl (exec_loadF (b := N) (k := 0) (x := 12) rfl (hd 4 (by kernel_rfl)) ((H1.out.2.1.call hS).loadAt 0 [.int .u64 (limb (pX Y) 0 : Nat), .int .u64 (limb (pX Y) 1 : Nat), .int .u64 (limb (pX Y) 2 : Nat), .int .u64 (limb (pX Y) 3 : Nat), .int .u64 (limb (pY Y) 0 : Nat), .int .u64 (limb (pY Y) 1 : Nat), .int .u64 (limb (pY Y) 2 : Nat), .int .u64 (limb (pY Y) 3 : Nat), .bool (pI Y)] ⟨rfl, rfl⟩ Tryd.underlying28 rfl (by kernel_rfl))) rfl (Below.refl _ _))
    focus (intro _ _ s v wx hs hS hd; refine OpTo.does rfl ?_ rfl (Below.refl _ _); clear hd hs hS; go_simp; try with_reducible rfl)
    focus (intro _ _ s v wx hs hS hd; have c9 := (H1.out.2.1.call hS).cells 9 _ rfl; refine OpTo.does rfl ?_ rfl (Below.refl _ _); have d6 := hd 6 (by kernel_rfl); simp only [ow1] at d6; simp only [d6]; clear hd hs hS; go_simp; try with_reducible rfl)
    focus (intro _ _ s v wx hs hS hd; obtain rfl := hs (by kernel_rfl); refine OpTo.asks rfl (fun _ => rfl) (fun K hK => ?_); have d3 := hd 3 (by kernel_rfl); have d5 := hd 5 (by kernel_rfl); have d7 := hd 7 (by kernel_rfl); simp only [ow1] at d3 d5 d7; simp only [d3, d5, d7] at hK ⊢; go_simp; refine (KC.out _ (H1.out.2.2.1.call hS)).mono ?_; rintro e w' ⟨rfl, hq⟩; exact hK _ w' rfl hq)
    focus (intro _ _ s v wx hs hS hd; obtain rfl := hs (by kernel_rfl); refine OpTo.asks rfl (fun _ => rfl) (fun K hK => ?_); have d8 := hd 8 (by kernel_rfl); obtain ⟨g, d0, hF⟩ := (hd 0 (by kernel_rfl)) rfl; simp only [ow1] at d8; simp only [d8, d0] at hK ⊢; go_simp; refine (KN.out g _ hF).mono ?_; rintro e w' ⟨rfl, hq⟩; exact hK _ w' rfl hq)
    focus (intro _ _ s v wx hs hS hd; refine OpTo.does rfl ?_ rfl (Below.refl _ _); have d9 := hd 9 (by kernel_rfl); simp only [ow1] at d9; simp only [d9]; clear hd hs hS; go_simp; try with_reducible rfl)
    focus (intro _ _ s v wx hs hS hd; refine OpTo.does rfl ?_ rfl (Below.refl _ _); have d10 := hd 10 (by kernel_rfl); simp only [ow1] at d10; simp only [d10]; clear hd hs hS; go_simp; try with_reducible rfl)
    focus (intro _ _ s v wx hs hS hd; refine OpTo.does rfl ?_ rfl (Below.refl _ _); have d10 := hd 10 (by kernel_rfl); simp only [ow1] at d10; simp only [d10]; clear hd hs hS; go_simp; try with_reducible rfl)
    focus (intro _ _ s v wx hs hS hd; refine OpTo.does (y := .pointer (some ⟨wx.heap.size, 0, none⟩)) (w1 := wx.alloc (.cells z4V.toArray 24)) rfl ?_ ⟨_, rfl, hS.size, ?_⟩ (below_alloc0 (Below.refl _ _) _); (go_simp; rfl); (rw [hs (by kernel_rfl)]; exact Bl.new wx z4V _))
  case hst1 =>
    intro v wx hS hd
    have d11 := hd 11 (by kernel_rfl)
    obtain ⟨b, e13, hz, hB⟩ := hd 13 (by kernel_rfl)
    refine OpTo.imp (OpTo.stores (w1 := wx.setRow b #[.int .u64 (limb n 0 : Nat), .int .u64 (limb n 1 : Nat), .int .u64 (limb n 2 : Nat), .int .u64 (limb n 3 : Nat)]) (v := undef) (R := fun w' => w' = wx.setRow b #[.int .u64 (limb n 0 : Nat), .int .u64 (limb n 1 : Nat), .int .u64 (limb n 2 : Nat), .int .u64 (limb n 3 : Nat)]) rfl (exec_storeF (b := b) (x := 3) (y := 18) rfl (by exact e13) (by exact d11) (hB.store (us := [.int .u64 (limb n 0 : Nat), .int .u64 (limb n 1 : Nat), .int .u64 (limb n 2 : Nat), .int .u64 (limb n 3 : Nat)]) (by kernel_rfl) rfl (by kernel_rfl))) rfl rfl) ?_
    rintro x w' ⟨hx, rfl⟩
    refine ⟨undef, hx, trivial, below_setRow hz _ hS, fun j hj => ?_⟩
    match j, hj with
    | 0, _ => exact fun h => Bool.noConfusion h
    | 1, h => exact h
    | 2, h => exact h
    | 3, h => exact h
    | 4, h => exact h
    | 5, h => exact h
    | 6, h => exact h
    | 7, h => exact h
    | 8, h => exact h
    | 9, h => exact h
    | 10, h => exact h
    | 11, h => exact h
    | 12, h => exact h
    | 13, _ => exact ⟨b, e13, hz, hB.put (numV n)⟩
    | _ + 14, _ => exact trivial
  intro v w2 hS hd
  have d12 := hd 12 (by decide)
  obtain ⟨b, e13, hz, hB⟩ := hd 13 (by decide)
  simp only [ow1] at d12
  simp only [d12, e13]
  refine tail_at (o := ?of15) ?hi15 ?hw15 ?_
  case hi15 => rw [List.getElem?_toArray]; exact rfl
  case hw15 => exact rfl
  go_simp
  refine tail_end ?_
  have H2 : Hid (Below w.heap.size w w2 ∧ Bl w2 N [.int .u64 (limb (pX Y) 0 : Nat), .int .u64 (limb (pX Y) 1 : Nat), .int .u64 (limb (pX Y) 2 : Nat), .int .u64 (limb (pX Y) 3 : Nat), .int .u64 (limb (pY Y) 0 : Nat), .int .u64 (limb (pY Y) 1 : Nat), .int .u64 (limb (pY Y) 2 : Nat), .int .u64 (limb (pY Y) 3 : Nat), .bool (pI Y), .string m, .int .u64 (limb (pX R) 0 : Nat), .int .u64 (limb (pX R) 1 : Nat), .int .u64 (limb (pX R) 2 : Nat), .int .u64 (limb (pX R) 3 : Nat), .int .u64 (limb (pY R) 0 : Nat), .int .u64 (limb (pY R) 1 : Nat), .int .u64 (limb (pY R) 2 : Nat), .int .u64 (limb (pY R) 3 : Nat), .bool (pI R), .int .u64 (limb z 0 : Nat), .int .u64 (limb z 1 : Nat), .int .u64 (limb z 2 : Nat), .int .u64 (limb z 3 : Nat)] 59 ∧ GS w2 ∧ N = w.heap.size ∧ Bl w2 b (numV n) 24) := ⟨below_call0 H1.out.1 hS, H1.out.2.1.call hS, H1.out.2.2.1.call hS, H1.out.2.2.2, hB⟩
  clear hS hd hB hz H1 KS KC KN e13 d12
  go_upto_region 2 with fail
  refine wp_region_S 15 0 14 (ow2 N w2.heap.size Y T z n) [some 21, some 22, some 23, some 24, some 25, some 26, some 27, some 28, some 29, some 30, some 20, some 31, some 32, some 5, none] [0, 1, 2, 3, 4, 5, 6, 7, 8, 9, 10, 11, 12, 13, 14] ?A2 ?os2 (by kernel_rfl) (by kernel_rfl) (by kernel_rfl) (by kernel_rfl) ?hos2 (by decide) ?hA2 (ow2_call N w2.heap.size Y T z n) ?hop2 ?hst2 ?hfin2
  case hos2 =>
    rw [List.getElem?_toArray]
    exact rfl
  case hA2 =>
    intro v
    simp only [List.map_cons, List.map_nil, List.zip_cons_cons, List.zip_nil_right, fillD, Act.put, List.setIfInBounds_toArray, List.set_cons_zero, List.set_cons_succ]
    exact rfl
  case hop2 =>
    refine ⟨?_, ?_, ?_, ?_, ?_, ?_, ?_, ?_, ?_, ?_, ?_, ?_, ?_, ?_, fun _ h => absurd rfl h, fun h => absurd h (by decide), trivial⟩
    focus (intro _ _ s v wx hs hS hd; refine OpTo.does rfl ?_ rfl (Below.refl _ _); clear hd hs hS; go_simp; try with_reducible rfl)
    focus (intro _ _ s v wx hs hS hd; refine OpTo.does rfl ?_ rfl (Below.refl _ _); have d0 := hd 0 (by kernel_rfl); simp only [ow2] at d0; simp only [d0]; clear hd hs hS; go_simp; try with_reducible rfl)
    focus (intro _ _ s v wx hs hS hd; exact OpTo.does rfl (exec_loadF (b := N) (k := 19) (x := 22) rfl (hd 1 (by kernel_rfl)) ((H2.out.2.1.call hS).loadAt 19 [.int .u64 (limb z 0 : Nat), .int .u64 (limb z 1 : Nat), .int .u64 (limb z 2 : Nat), .int .u64 (limb z 3 : Nat)] ⟨rfl, rfl⟩ Tryd.underlying24 rfl (by kernel_rfl))) rfl (Below.refl _ _))
    focus (intro _ _ s v wx hs hS hd; exact OpTo.does rfl (exec_loadF (b := b) (x := 3) rfl rfl ((H2.out.2.2.2.2.call hS).load Tryd.underlying24 rfl (by kernel_rfl))) rfl (Below.refl _ _))
    focus (intro _ _ s v wx hs hS hd; obtain rfl := hs (by kernel_rfl); have d2 := hd 2 (by kernel_rfl); have d3 := hd 3 (by kernel_rfl); simp only [ow2] at d2 d3; refine OpTo.does (y := .slice (some ⟨wx.heap.size, 0, none⟩) 2 2) (w1 := wx.alloc (.cells #[.int .u64 (limb z 0 : Nat), .int .u64 (limb z 1 : Nat), .int .u64 (limb z 2 : Nat), .int .u64 (limb z 3 : Nat), .int .u64 (limb n 0 : Nat), .int .u64 (limb n 1 : Nat), .int .u64 (limb n 2 : Nat), .int .u64 (limb n 3 : Nat)] 24)) rfl ?_ (fun _ => ⟨_, rfl, NumsAt.two wx z n _⟩) (below_alloc0 (Below.refl _ _) _); simp only [d2, d3]; (go_simp; try rfl))
    focus (intro _ _ s v wx hs hS hd; refine OpTo.asks rfl (fun _ => rfl) (fun K hK => ?_); go_simp; refine (KG.out _ (H2.out.2.2.1.call hS).1.2.2.2).mono ?_; rintro e w' ⟨rfl, hq⟩; exact hK _ w' rfl hq)
    focus (intro _ _ s v wx hs hS hd; refine OpTo.does rfl ?_ rfl (Below.refl _ _); clear hd hs hS; go_simp; try with_reducible rfl)
    focus (intro _ _ s v wx hs hS hd; exact OpTo.does rfl (exec_loadF (b := N) (k := 0) (x := 27) rfl (hd 6 (by kernel_rfl)) ((H2.out.2.1.call hS).loadAt 0 [.int .u64 (limb (pX Y) 0 : Nat), .int .u64 (limb (pX Y) 1 : Nat), .int .u64 (limb (pX Y) 2 : Nat), .int .u64 (limb (pX Y) 3 : Nat), .int .u64 (limb (pY Y) 0 : Nat), .int .u64 (limb (pY Y) 1 : Nat), .int .u64 (limb (pY Y) 2 : Nat), .int .u64 (limb (pY Y) 3 : Nat), .bool (pI Y)] ⟨rfl, rfl⟩ Tryd.underlying28 rfl (by kernel_rfl))) rfl (Below.refl _ _))
    focus (intro _ _ s v wx hs hS hd; obtain rfl := hs (by kernel_rfl); have d5 := hd 5 (by kernel_rfl); have d7 := hd 7 (by kernel_rfl); simp only [ow2] at d5 d7; refine OpTo.does (y := .slice (some ⟨wx.heap.size, 0, none⟩) 2 2) (w1 := wx.alloc (.cells #[.int .u64 (limb (pX gG) 0 : Nat), .int .u64 (limb (pX gG) 1 : Nat), .int .u64 (limb (pX gG) 2 : Nat), .int .u64 (limb (pX gG) 3 : Nat), .int .u64 (limb (pY gG) 0 : Nat), .int .u64 (limb (pY gG) 1 : Nat), .int .u64 (limb (pY gG) 2 : Nat), .int .u64 (limb (pY gG) 3 : Nat), .bool (pI gG), .int .u64 (limb (pX Y) 0 : Nat), .int .u64 (limb (pX Y) 1 : Nat), .int .u64 (limb (pX Y) 2 : Nat), .int .u64 (limb (pX Y) 3 : Nat), .int .u64 (limb (pY Y) 0 : Nat), .int .u64 (limb (pY Y) 1 : Nat), .int .u64 (limb (pY Y) 2 : Nat), .int .u64 (limb (pY Y) 3 : Nat), .bool (pI Y)] 28)) rfl ?_ (fun _ => ⟨_, rfl, PntsAt.pair (pX gG) (pY gG) (pX Y) (pY Y) (pI gG) (pI Y) _ rfl⟩) (below_alloc0 (Below.refl _ _) _); simp only [d5, d7]; (go_simp; try rfl))
    focus (intro _ _ s v wx hs hS hd; obtain rfl := hs (by kernel_rfl); refine OpTo.asks rfl (fun _ => rfl) (fun K hK => ?_); obtain ⟨c1, d4, hF⟩ := (hd 4 (by kernel_rfl)) rfl; obtain ⟨c2, d8, hP⟩ := (hd 8 (by kernel_rfl)) rfl; simp only [d4, d8] at hK ⊢; go_simp; refine (KM.out _ _ _ (H2.out.2.2.1.call hS).1 hF hP).mono ?_; rintro e w' ⟨rfl, hq⟩; exact hK _ w' rfl hq)
    focus (intro _ _ s v wx hs hS hd; refine OpTo.does rfl ?_ rfl (Below.refl _ _); have d9 := hd 9 (by kernel_rfl); simp only [ow2] at d9; simp only [d9]; clear hd hs hS; go_simp; try with_reducible rfl)
    focus (intro _ _ s v wx hs hS hd; refine OpTo.does rfl ?_ rfl (Below.refl _ _); have d10 := hd 10 (by kernel_rfl); simp only [ow2] at d10; simp only [d10]; clear hd hs hS; go_simp; try with_reducible rfl)
    focus (intro _ _ s v wx hs hS hd; refine OpTo.does rfl ?_ rfl (Below.refl _ _); have d10 := hd 10 (by kernel_rfl); simp only [ow2] at d10; simp only [d10]; clear hd hs hS; go_simp; try with_reducible rfl)
    focus (intro _ _ s v wx hs hS hd; refine OpTo.does (y := .pointer (some ⟨wx.heap.size, 0, none⟩)) (w1 := wx.alloc (.cells z9V.toArray 28)) rfl ?_ ⟨_, rfl, hS.size, ?_⟩ (below_alloc0 (Below.refl _ _) _); (go_simp; rfl); (rw [hs (by kernel_rfl)]; exact Bl.new wx z9V _))
  case hst2 =>
    intro v wx hS hd
    have d11 := hd 11 (by kernel_rfl)
    obtain ⟨b, e13, hz, hB⟩ := hd 13 (by kernel_rfl)
    refine OpTo.imp (OpTo.stores (w1 := wx.setRow b #[.int .u64 (limb (pX T) 0 : Nat), .int .u64 (limb (pX T) 1 : Nat), .int .u64 (limb (pX T) 2 : Nat), .int .u64 (limb (pX T) 3 : Nat), .int .u64 (limb (pY T) 0 : Nat), .int .u64 (limb (pY T) 1 : Nat), .int .u64 (limb (pY T) 2 : Nat), .int .u64 (limb (pY T) 3 : Nat), .bool (pI T)]) (v := undef) (R := fun w' => w' = wx.setRow b #[.int .u64 (limb (pX T) 0 : Nat), .int .u64 (limb (pX T) 1 : Nat), .int .u64 (limb (pX T) 2 : Nat), .int .u64 (limb (pX T) 3 : Nat), .int .u64 (limb (pY T) 0 : Nat), .int .u64 (limb (pY T) 1 : Nat), .int .u64 (limb (pY T) 2 : Nat), .int .u64 (limb (pY T) 3 : Nat), .bool (pI T)]) rfl (exec_storeF (b := b) (x := 5) (y := 31) rfl (by exact e13) (by exact d11) (hB.store (us := [.int .u64 (limb (pX T) 0 : Nat), .int .u64 (limb (pX T) 1 : Nat), .int .u64 (limb (pX T) 2 : Nat), .int .u64 (limb (pX T) 3 : Nat), .int .u64 (limb (pY T) 0 : Nat), .int .u64 (limb (pY T) 1 : Nat), .int .u64 (limb (pY T) 2 : Nat), .int .u64 (limb (pY T) 3 : Nat), .bool (pI T)]) (by kernel_rfl) rfl (by kernel_rfl))) rfl rfl) ?_
    rintro x w' ⟨hx, rfl⟩
    refine ⟨undef, hx, trivial, below_setRow hz _ hS, fun j hj => ?_⟩
    match j, hj with
    | 0, h => exact h
    | 1, h => exact h
    | 2, h => exact h
    | 3, h => exact h
    | 4, _ => exact fun h => Bool.noConfusion h
    | 5, h => exact h
    | 6, h => exact h
    | 7, h => exact h
    | 8, _ => exact fun h => Bool.noConfusion h
    | 9, h => exact h
    | 10, h => exact h
    | 11, h => exact h
    | 12, h => exact h
    | 13, _ => exact ⟨b, e13, hz, hB.put (ptsV T)⟩
    | _ + 14, _ => exact trivial
  intro v w3 hS hd
  have d12 := hd 12 (by decide)
  obtain ⟨c5, e13, hz, hB⟩ := hd 13 (by decide)
  simp only [ow2] at d12
  simp only [d12, e13]
  refine tail_at (o := ?of16) ?hi16 ?hw16 ?_
  case hi16 => rw [List.getElem?_toArray]; exact rfl
  case hw16 => exact rfl
  go_simp
  refine tail_end ?_
  have H3 : Hid (Below w.heap.size w w3 ∧ Bl w3 N [.int .u64 (limb (pX Y) 0 : Nat), .int .u64 (limb (pX Y) 1 : Nat), .int .u64 (limb (pX Y) 2 : Nat), .int .u64 (limb (pX Y) 3 : Nat), .int .u64 (limb (pY Y) 0 : Nat), .int .u64 (limb (pY Y) 1 : Nat), .int .u64 (limb (pY Y) 2 : Nat), .int .u64 (limb (pY Y) 3 : Nat), .bool (pI Y), .string m, .int .u64 (limb (pX R) 0 : Nat), .int .u64 (limb (pX R) 1 : Nat), .int .u64 (limb (pX R) 2 : Nat), .int .u64 (limb (pX R) 3 : Nat), .int .u64 (limb (pY R) 0 : Nat), .int .u64 (limb (pY R) 1 : Nat), .int .u64 (limb (pY R) 2 : Nat), .int .u64 (limb (pY R) 3 : Nat), .bool (pI R), .int .u64 (limb z 0 : Nat), .int .u64 (limb z 1 : Nat), .int .u64 (limb z 2 : Nat), .int .u64 (limb z 3 : Nat)] 59 ∧ Bl w3 c5 (ptsV T) 28) := ⟨below_call0 H2.out.1 hS, H2.out.2.1.call hS, hB⟩
  clear hS hd hB hz H2 KM KG e13 d12
  have L1 : Hid ((loadVar 28 ⟨c5, 0, none⟩).run Tryd.prog w3 = .ok (.agg #[.int .u64 (limb (pX T) 0 : Nat), .int .u64 (limb (pX T) 1 : Nat), .int .u64 (limb (pX T) 2 : Nat), .int .u64 (limb (pX T) 3 : Nat), .int .u64 (limb (pY T) 0 : Nat), .int .u64 (limb (pY T) 1 : Nat), .int .u64 (limb (pY T) 2 : Nat), .int .u64 (limb (pY T) 3 : Nat), .bool (pI T)]) w3) := H3.out.2.2.load Tryd.underlying28 rfl (by kernel_rfl)
  have L2 : Hid ((loadVar 28 ⟨N, 10, none⟩).run Tryd.prog w3 = .ok (.agg #[.int .u64 (limb (pX R) 0 : Nat), .int .u64 (limb (pX R) 1 : Nat), .int .u64 (limb (pX R) 2 : Nat), .int .u64 (limb (pX R) 3 : Nat), .int .u64 (limb (pY R) 0 : Nat), .int .u64 (limb (pY R) 1 : Nat), .int .u64 (limb (pY R) 2 : Nat), .int .u64 (limb (pY R) 3 : Nat), .bool (pI R)]) w3) := H3.out.2.1.loadAt 10 [.int .u64 (limb (pX R) 0 : Nat), .int .u64 (limb (pX R) 1 : Nat), .int .u64 (limb (pX R) 2 : Nat), .int .u64 (limb (pX R) 3 : Nat), .int .u64 (limb (pY R) 0 : Nat), .int .u64 (limb (pY R) 1 : Nat), .int .u64 (limb (pY R) 2 : Nat), .int .u64 (limb (pY R) 3 : Nat), .bool (pI R)] ⟨rfl, rfl⟩ Tryd.underlying28 rfl (by kernel_rfl)
  have hq := HQ.out
  cases D
  · obtain rfl : E = 80 := HE.out
    go_wp2_with (first | ((with_reducible refine load_to (b := c5) (k := 0) (x := 5) ?_ ?_ ?_ L1.out ?_); rfl; rfl; rfl) | ((with_reducible refine load_to (b := N) (k := 10) (x := 35) ?_ ?_ ?_ L2.out ?_); rfl; rfl; rfl))
    go_ret
    exact ⟨rfl, H3.out.1⟩
  · obtain rfl : E = 0 := HE.out
    go_wp2_with (first | ((with_reducible refine load_to (b := c5) (k := 0) (x := 5) ?_ ?_ ?_ L1.out ?_); rfl; rfl; rfl) | ((with_reducible refine load_to (b := N) (k := 10) (x := 35) ?_ ?_ ?_ L2.out ?_); rfl; rfl; rfl))
    go_ret
    exact ⟨rfl, H3.out.1⟩
end Go.Proofs.YtchphekaonnfeaaDoor
