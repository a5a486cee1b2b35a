/- A table of nodes. -/
import Derived.Test.YtcahfkfafdoilaaKgF
import Derived.Test.YtcahfkfafdoilaaRowV
namespace Go.Proofs.Ytcahfkfafdoilaa
open Go Go.RowKit Go.Lib

def ptrV (g : Nat) : Value := .pointer (some ⟨g, 0, none⟩)
theorem infoPtrK : ∃ i, Try.prog.info? 25 = some i ∧ i.zero = some (.pointer none) ∧ i.size = 1 ∧ i.bytes = 8 := by
  have h : (Try.prog.info? 25).map (fun i => (i.zero, i.size, i.bytes)) = some (some (.pointer none), 1, 8) := by kernel_rfl
  cases e : Try.prog.info? 25 with
  | none => rw [e] at h; cases h
  | some i =>
    rw [e] at h
    simp only [Option.map_some, Option.some.injEq, Prod.mk.injEq] at h
    exact ⟨i, rfl, h.1, h.2.1, h.2.2⟩
/-- Blocks from B on that are no nodes. -/
def Pf (B : Nat) (gs : List Nat) : Nat → Prop := fun k => B ≤ k ∧ k ∉ gs
/-- Nodes in memory. -/
def NodesAt (w : World) (gs : List Nat) (X : List Kn) : Prop := gs.length = X.length ∧ ∀ (i g : Nat) (x : Kn), gs[i]? = some g → X[i]? = some x → NodeAt w g x
theorem NodesAt.lt {w : World} {gs : List Nat} {X : List Kn} (h : NodesAt w gs X) : ∀ g ∈ gs, g < w.heap.size := fun g hg => by
  obtain ⟨i, hi, e⟩ := List.getElem_of_mem hg
  have hx : i < X.length := by rw [← h.1]; exact hi
  exact (h.2 i g _ (by rw [← e]; exact List.getElem?_eq_getElem hi) (List.getElem?_eq_getElem hx)).lt
theorem NodesAt.keep {w w' : World} {gs : List Nat} {X : List Kn} (h : NodesAt w gs X) (hz : w.heap.size ≤ w'.heap.size) (hb : ∀ g ∈ gs, w'.heap[g]? = w.heap[g]?) : NodesAt w' gs X :=
  ⟨h.1, fun i g x hg hx => (h.2 i g x hg hx).block hz (hb g (List.mem_of_getElem? hg))⟩
theorem NodesAt.call {w w' : World} {gs : List Nat} {X : List Kn} (h : NodesAt w gs X) (hb : Below w.heap.size w w') : NodesAt w' gs X := h.keep hb.size fun g hg => hb.block g (h.lt g hg)
theorem NodesAt.snoc {w : World} {gs : List Nat} {X : List Kn} {g : Nat} {x : Kn} (h : NodesAt w gs X) (hn : NodeAt w g x) : NodesAt w (gs ++ [g]) (X ++ [x]) := by
  refine ⟨by rw [List.length_append, List.length_append, h.1]; rfl, fun i g' x' hg hx => ?_⟩
  by_cases c : i < gs.length
  · rw [List.getElem?_append_left c] at hg
    rw [List.getElem?_append_left (by rw [← h.1]; exact c)] at hx
    exact h.2 i g' x' hg hx
  · rw [List.getElem?_append_right (by omega)] at hg
    rw [List.getElem?_append_right (by rw [← h.1]; omega), ← h.1] at hx
    have : i - gs.length = 0 := by
      have := (List.getElem?_eq_some_iff.1 hg).1
      simp at this
      omega
    rw [this] at hg hx
    cases hg; cases hx
    exact hn
def valI (l : List Int) (i : Nat) : Nat := if l[i]? = some 1 then 1 else 0
theorem valI_le (l : List Int) (i : Nat) : valI l i ≤ 1 := by unfold valI; split <;> omega
def tabX (n f : Nat) (l : List Int) (m : Nat) : List Kn := (List.range m).map fun i => newK n f (valI l i)
theorem tabX_snoc (n f : Nat) (l : List Int) (m : Nat) : tabX n f l (m + 1) = tabX n f l m ++ [newK n f (valI l m)] := by unfold tabX; rw [List.range_succ, List.map_append]; rfl
/-- A table as table makes it: the slice and its nodes, all behind B. -/
structure TabAt (w : World) (B : Nat) (a : Option Addr) (cap : Nat) (gs : List Nat) (X : List Kn) : Prop where
  nodes : NodesAt w gs X
  nd : gs.Nodup
  ge : ∀ g ∈ gs, B ≤ g
  row : RowV w (Pf B gs) a (gs.map ptrV) cap
theorem TabAt.nil (w : World) (B : Nat) : TabAt w B none 0 [] [] := ⟨⟨rfl, fun i g x hg => by simp at hg⟩, List.nodup_nil, fun g hg => by simp at hg, RowV.nil _ _⟩
theorem TabAt.off {w w' : World} {B cap : Nat} {a : Option Addr} {gs : List Nat} {X : List Kn} (h : TabAt w B a cap gs X) (hb : Below w.heap.size w w') : TabAt w' B a cap gs X := ⟨h.nodes.call hb, h.nd, h.ge, h.row.call hb⟩
set_option maxHeartbeats 4000000 in
theorem table_any (n f : Nat) (h1 : 1 ≤ n) (h10 : n ≤ 10) (hf : 3 * f < n) (a : Option Addr) (l : List Int) (len cap : Nat) (hlen : len = l.length) (w : World) (hI : IntsAt w a l) :
    Calls Try.prog 20 #[.int .i64 (n : Nat), .int .i64 (f : Nat), .slice a len cap] w fun e w' => ∃ pa pc gs, e = .returned (.slice pa n pc) ∧ TabAt w' w.heap.size pa pc gs (tabX n f l n) ∧ Below w.heap.size w w' := by
  obtain ⟨i0, hi0⟩ := infoPtrK
  have HSI : Hid _ := hi0
  have HN : Hid (1 ≤ n ∧ n ≤ 10 ∧ 3 * f < n ∧ len = l.length) := ⟨h1, h10, hf, hlen⟩
  have HI : Hid (IntsAt w a l) := hI
  have n10 : (n : Int) ≤ 10 := by omega
  have f10 : (f : Int) ≤ 10 := by omega
  clear hi0 h1 h10 hf hlen hI
  go_enter Try.func20, Try.ntmps20
  go_wp2_with fail
  rename_i Kr hKr
  have HKr : Hid _ := hKr
  clear hKr
  go_loopw [7, 8] (fun ov iv wr => ∃ (i m : Nat) (pa : Option Addr) (pc : Nat) (gs : List Nat), i ≤ n ∧ m = i ∧ iv = .int .i64 (i : Nat) ∧ ov = .slice pa m pc ∧ gs.length = i ∧ TabAt wr w.heap.size pa pc gs (tabX n f l i) ∧ Below w.heap.size w wr) (fun _ iv _ => n - (Go.RowKit.intOf iv).toNat)
  case atStart => exact ⟨0, 0, none, 0, [], Nat.zero_le _, rfl, rfl, rfl, rfl, TabAt.nil _ _, Below.refl _ _⟩
  case round =>
    obtain ⟨i, m, pa, pc, gs, hi, hm, rfl, rfl, hgl, hT, hB⟩ := hrel
    rename World => wr
    have HT : Hid (m = i ∧ gs.length = i ∧ TabAt wr w.heap.size pa pc gs (tabX n f l i) ∧ Below w.heap.size w wr) := ⟨hm, hgl, hT, hB⟩
    by_cases hlt : i < n
    · have hlt' : (i : Int) < (n : Int) := by omega
      have HLT : Hid (i < n) := hlt
      have hIr : IntsAt wr a l := (show IntsAt w a l from HI.out).call hB
      have HNW : Hid (∀ v : Nat, v ≤ 1 → NewOk n f ((i + 1 : Nat) : Int) v) := fun v hv => by
        have := HN.out; unfold NewOk; omega
      clear HKr hi hm hgl hT hB
      have hcase : (len ≤ i ∧ valI l i = 0) ∨ (i < len ∧ valI l i = 1 ∧ l[i]? = some 1) ∨ (i < len ∧ valI l i = 0 ∧ ∃ y, l[i]? = some y ∧ ¬ y = 1) := by
        by_cases c : i < len
        · have c' : i < l.length := by rw [← HN.out.2.2.2]; exact c
          have e := List.getElem?_eq_getElem c'
          by_cases q : (l[i]'c') = 1
          · exact .inr (.inl ⟨c, by unfold valI; rw [e, q]; rfl, by rw [e, q]⟩)
          · exact .inr (.inr ⟨c, by unfold valI; rw [e, if_neg (fun k => q (Option.some.inj k))], _, e, q⟩)
        · exact .inl ⟨by omega, by unfold valI; rw [if_neg]; rw [List.getElem?_eq_none (by have := HN.out.2.2.2; omega)]; simp⟩
      clear hlt
      rcases hcase with ⟨c1, c2⟩ | ⟨c1, c2, c3⟩ | ⟨c1, c2, y, c3, c4⟩
      · have c1' : ¬ ((i : Int) < (len : Int)) := by omega
        have HV : Hid _ := c2
        clear c1 c2 hIr
        go_wp2_with fail
        refine (knew_ok n f (i + 1) 0 (HNW.out 0 (by decide)) _).mono ?_
        rintro e w2 ⟨rfl, hN2, hb2, hz2⟩
        obtain ⟨g, hg⟩ : ∃ g, g = wr.heap.size := ⟨_, rfl⟩
        have hT2 : TabAt w2 w.heap.size pa pc gs (tabX n f l i) := HT.out.2.2.1.off hb2
        have hng : g ∉ gs := fun q => by have := HT.out.2.2.1.nodes.lt g q; omega
        rw [← hg] at hN2 hb2 hz2 ⊢
        have hR2 : RowV w2 (Pf w.heap.size (gs ++ [g])) pa (gs.map ptrV) pc := ((HT.out.2.2.1.row).mono (fun k hk q => ⟨q.1, by
          rw [List.mem_append, List.mem_singleton]
          intro q2; rcases q2 with q2 | q2
          · exact q.2 q2
          · omega⟩)).call (by rw [← hg]; exact hb2)
        have hB2 : Below w.heap.size w w2 := HT.out.2.2.2.trans (hb2.mono (by have := HT.out.2.2.2.size; omega))
        have hz : w.heap.size ≤ wr.heap.size := HT.out.2.2.2.size
        obtain ⟨w3, hw3⟩ : ∃ w3, w3 = w2.alloc (.cells #[ptrV g] 25) := ⟨_, rfl⟩
        have hb3 : Below w2.heap.size w2 w3 := by rw [hw3]; exact below_alloc0 (Below.refl _ _) _
        have hc3 : ∀ j u, ([ptrV g] : List Value)[j]? = some u → w3.cell? ((⟨w2.heap.size, 0, none⟩ : Addr).add j) = some u := fun j u hj => by rw [hw3, Addr.add_lit, Nat.zero_add, World.cell?_alloc_new, List.getElem?_toArray]; exact hj
        have H3 : Hid (TabAt w3 w.heap.size pa pc gs (tabX n f l i) ∧ NodeAt w3 g (newK n f 0) ∧ RowV w3 (Pf w.heap.size (gs ++ [g])) pa (gs.map ptrV) pc ∧ Below w.heap.size w w3 ∧ g < w2.heap.size ∧ w2.heap.size ≤ w3.heap.size ∧ g ∉ gs ∧ w.heap.size ≤ g ∧ (∀ j u, ([ptrV g] : List Value)[j]? = some u → w3.cell? ((⟨w2.heap.size, 0, none⟩ : Addr).add j) = some u)) := ⟨hT2.off hb3, hN2.call hb3, hR2.call hb3, hB2.trans (hb3.mono hB2.size), by omega, hb3.size, hng, by omega, hc3⟩
        have HW3 : Hid (w3 = w2.alloc (.cells #[ptrV g] 25)) := hw3
        have HG : Hid (g = wr.heap.size) := hg
        have hF3 : ∀ k, w3.heap.size ≤ k → Pf w.heap.size (gs ++ [g]) k := fun k hk => ⟨by have := H3.out.2.2.2.1.size; omega, fun q => by
          rw [List.mem_append, List.mem_singleton] at q
          rcases q with q | q
          · have := H3.out.1.nodes.lt k q; omega
          · have := H3.out.2.2.2.2.1; have := H3.out.2.2.2.2.2.1; omega⟩
        have HF3 : Hid (∀ k, w3.heap.size ≤ k → Pf w.heap.size (gs ++ [g]) k) := hF3
        clear hF3
        clear hN2 hb2 hz2 hT2 hng hR2 hB2 hz hb3 hc3 hw3 hg
        go_wp2_with (at_builtin; change wpList _ _ _ _ _ (w2.alloc (.cells #[ptrV g] 25)); rw [← HW3.out]; refine wpList_append_RowV _ rfl _ _ 45 rfl (Pf w.heap.size (gs ++ [g])) 25 i0 (.pointer none) 8 Try.underlying45 HSI.out.1 HSI.out.2.1 rfl HSI.out.2.2.1 HSI.out.2.2.2 pa m pc (gs.map ptrV) [ptrV g] rfl (by rw [List.length_map, HT.out.2.1]; exact HT.out.1) H3.out.2.2.1 (by rw [List.length_map, HT.out.2.1]; have := HLT.out; have := HN.out.2.1; unfold maxLen; simp; omega) (by rw [List.length_map, HT.out.2.1]; have := HLT.out; have := HN.out.2.1; simp; omega) HF3.out ⟨w2.heap.size, 0, none⟩ 1 1 rfl rfl H3.out.2.2.2.2.2.2.2.2 (by intro u hu; simp at hu; subst hu; rfl) ?_; intro a9 m9 cap9 w9 hm9 hR9 hb9; have H9 : Hid (m9 = m + 1 ∧ RowV w9 (Pf w.heap.size (gs ++ [g])) a9 (gs.map ptrV ++ [ptrV g]) cap9 ∧ Off (Pf w.heap.size (gs ++ [g])) w3 w9) := ⟨hm9, hR9, hb9⟩; clear hm9 hR9 hb9)
        have HE : Hid (m9 = i + 1 ∧ (gs ++ [g]).length = i + 1 ∧ TabAt w9 w.heap.size a9 cap9 (gs ++ [g]) (tabX n f l (i + 1)) ∧ Below w.heap.size w w9) := by
          have hh := H9.out
          have h3 := H3.out
          refine ⟨by rw [hh.1, HT.out.1], by rw [List.length_append, HT.out.2.1]; rfl, ⟨?_, ?_, ?_, ?_⟩, ?_⟩
          · rw [tabX_snoc, HV.out]
            refine (h3.1.nodes.snoc h3.2.1).keep hh.2.2.size fun k hk => hh.2.2.block k fun q => q.2 hk
          · exact List.nodup_append.2 ⟨h3.1.nd, by simp, fun x hx y hy => by rw [List.mem_singleton] at hy; subst hy; intro e; subst e; exact h3.2.2.2.2.2.2.1 hx⟩
          · intro k hk; rw [List.mem_append, List.mem_singleton] at hk; rcases hk with hk | hk
            · exact h3.1.ge k hk
            · have := h3.2.2.2.2.2.2.2.1; omega
          · rw [List.map_append]; exact hh.2.1
          · exact h3.2.2.2.1.trans ⟨hh.2.2.os, hh.2.2.tape, hh.2.2.output, hh.2.2.size, fun k hk => hh.2.2.block k fun q => absurd q.1 (by omega)⟩
        go_roundw
        case rel => first | exact ⟨i + 1, m9, a9, cap9, gs ++ [g], HLT.out, HE.out.1, by go_num, rfl, HE.out.2.1, HE.out.2.2.1, HE.out.2.2.2⟩ | ((repeat apply Exists.intro); exact ⟨⟨i + 1, m9, a9, cap9, gs ++ [g], HLT.out, HE.out.1, by go_num, rfl, HE.out.2.1, HE.out.2.2.1, HE.out.2.2.2⟩, rfl⟩)
        case measure => have h1 := HLT.out; simp [Go.RowKit.intOf]; omega
      · have c1' : (i : Int) < (len : Int) := by omega
        have HV : Hid _ := c2
        obtain ⟨p, o, ha, cp, -⟩ := hIr i _ c3
        subst ha
        clear c1 c2 hIr c3
        go_wp2_with fail
        refine (knew_ok n f (i + 1) 1 (HNW.out 1 (by decide)) _).mono ?_
        rintro e w2 ⟨rfl, hN2, hb2, hz2⟩
        obtain ⟨g, hg⟩ : ∃ g, g = wr.heap.size := ⟨_, rfl⟩
        have hT2 : TabAt w2 w.heap.size pa pc gs (tabX n f l i) := HT.out.2.2.1.off hb2
        have hng : g ∉ gs := fun q => by have := HT.out.2.2.1.nodes.lt g q; omega
        rw [← hg] at hN2 hb2 hz2 ⊢
        have hR2 : RowV w2 (Pf w.heap.size (gs ++ [g])) pa (gs.map ptrV) pc := ((HT.out.2.2.1.row).mono (fun k hk q => ⟨q.1, by
          rw [List.mem_append, List.mem_singleton]
          intro q2; rcases q2 with q2 | q2
          · exact q.2 q2
          · omega⟩)).call (by rw [← hg]; exact hb2)
        have hB2 : Below w.heap.size w w2 := HT.out.2.2.2.trans (hb2.mono (by have := HT.out.2.2.2.size; omega))
        have hz : w.heap.size ≤ wr.heap.size := HT.out.2.2.2.size
        obtain ⟨w3, hw3⟩ : ∃ w3, w3 = w2.alloc (.cells #[ptrV g] 25) := ⟨_, rfl⟩
        have hb3 : Below w2.heap.size w2 w3 := by rw [hw3]; exact below_alloc0 (Below.refl _ _) _
        have hc3 : ∀ j u, ([ptrV g] : List Value)[j]? = some u → w3.cell? ((⟨w2.heap.size, 0, none⟩ : Addr).add j) = some u := fun j u hj => by rw [hw3, Addr.add_lit, Nat.zero_add, World.cell?_alloc_new, List.getElem?_toArray]; exact hj
        have H3 : Hid (TabAt w3 w.heap.size pa pc gs (tabX n f l i) ∧ NodeAt w3 g (newK n f 1) ∧ RowV w3 (Pf w.heap.size (gs ++ [g])) pa (gs.map ptrV) pc ∧ Below w.heap.size w w3 ∧ g < w2.heap.size ∧ w2.heap.size ≤ w3.heap.size ∧ g ∉ gs ∧ w.heap.size ≤ g ∧ (∀ j u, ([ptrV g] : List Value)[j]? = some u → w3.cell? ((⟨w2.heap.size, 0, none⟩ : Addr).add j) = some u)) := ⟨hT2.off hb3, hN2.call hb3, hR2.call hb3, hB2.trans (hb3.mono hB2.size), by omega, hb3.size, hng, by omega, hc3⟩
        have HW3 : Hid (w3 = w2.alloc (.cells #[ptrV g] 25)) := hw3
        have HG : Hid (g = wr.heap.size) := hg
        have hF3 : ∀ k, w3.heap.size ≤ k → Pf w.heap.size (gs ++ [g]) k := fun k hk => ⟨by have := H3.out.2.2.2.1.size; omega, fun q => by
          rw [List.mem_append, List.mem_singleton] at q
          rcases q with q | q
          · have := H3.out.1.nodes.lt k q; omega
          · have := H3.out.2.2.2.2.1; have := H3.out.2.2.2.2.2.1; omega⟩
        have HF3 : Hid (∀ k, w3.heap.size ≤ k → Pf w.heap.size (gs ++ [g]) k) := hF3
        clear hF3
        clear hN2 hb2 hz2 hT2 hng hR2 hB2 hz hb3 hc3 hw3 hg
        go_wp2_with (at_builtin; change wpList _ _ _ _ _ (w2.alloc (.cells #[ptrV g] 25)); rw [← HW3.out]; refine wpList_append_RowV _ rfl _ _ 45 rfl (Pf w.heap.size (gs ++ [g])) 25 i0 (.pointer none) 8 Try.underlying45 HSI.out.1 HSI.out.2.1 rfl HSI.out.2.2.1 HSI.out.2.2.2 pa m pc (gs.map ptrV) [ptrV g] rfl (by rw [List.length_map, HT.out.2.1]; exact HT.out.1) H3.out.2.2.1 (by rw [List.length_map, HT.out.2.1]; have := HLT.out; have := HN.out.2.1; unfold maxLen; simp; omega) (by rw [List.length_map, HT.out.2.1]; have := HLT.out; have := HN.out.2.1; simp; omega) HF3.out ⟨w2.heap.size, 0, none⟩ 1 1 rfl rfl H3.out.2.2.2.2.2.2.2.2 (by intro u hu; simp at hu; subst hu; rfl) ?_; intro a9 m9 cap9 w9 hm9 hR9 hb9; have H9 : Hid (m9 = m + 1 ∧ RowV w9 (Pf w.heap.size (gs ++ [g])) a9 (gs.map ptrV ++ [ptrV g]) cap9 ∧ Off (Pf w.heap.size (gs ++ [g])) w3 w9) := ⟨hm9, hR9, hb9⟩; clear hm9 hR9 hb9)
        have HE : Hid (m9 = i + 1 ∧ (gs ++ [g]).length = i + 1 ∧ TabAt w9 w.heap.size a9 cap9 (gs ++ [g]) (tabX n f l (i + 1)) ∧ Below w.heap.size w w9) := by
          have hh := H9.out
          have h3 := H3.out
          refine ⟨by rw [hh.1, HT.out.1], by rw [List.length_append, HT.out.2.1]; rfl, ⟨?_, ?_, ?_, ?_⟩, ?_⟩
          · rw [tabX_snoc, HV.out]
            refine (h3.1.nodes.snoc h3.2.1).keep hh.2.2.size fun k hk => hh.2.2.block k fun q => q.2 hk
          · exact List.nodup_append.2 ⟨h3.1.nd, by simp, fun x hx y hy => by rw [List.mem_singleton] at hy; subst hy; intro e; subst e; exact h3.2.2.2.2.2.2.1 hx⟩
          · intro k hk; rw [List.mem_append, List.mem_singleton] at hk; rcases hk with hk | hk
            · exact h3.1.ge k hk
            · have := h3.2.2.2.2.2.2.2.1; omega
          · rw [List.map_append]; exact hh.2.1
          · exact h3.2.2.2.1.trans ⟨hh.2.2.os, hh.2.2.tape, hh.2.2.output, hh.2.2.size, fun k hk => hh.2.2.block k fun q => absurd q.1 (by omega)⟩
        go_roundw
        case rel => first | exact ⟨i + 1, m9, a9, cap9, gs ++ [g], HLT.out, HE.out.1, by go_num, rfl, HE.out.2.1, HE.out.2.2.1, HE.out.2.2.2⟩ | ((repeat apply Exists.intro); exact ⟨⟨i + 1, m9, a9, cap9, gs ++ [g], HLT.out, HE.out.1, by go_num, rfl, HE.out.2.1, HE.out.2.2.1, HE.out.2.2.2⟩, rfl⟩)
        case measure => have h1 := HLT.out; simp [Go.RowKit.intOf]; omega
      · have c1' : (i : Int) < (len : Int) := by omega
        have HV : Hid _ := c2
        obtain ⟨p, o, ha, cp, -⟩ := hIr i _ c3
        subst ha
        have c5 : (y == 1) = false := by simpa using c4
        clear c1 c2 hIr c3
        go_wp2_with fail
        refine (knew_ok n f (i + 1) 0 (HNW.out 0 (by decide)) _).mono ?_
        rintro e w2 ⟨rfl, hN2, hb2, hz2⟩
        obtain ⟨g, hg⟩ : ∃ g, g = wr.heap.size := ⟨_, rfl⟩
        have hT2 : TabAt w2 w.heap.size pa pc gs (tabX n f l i) := HT.out.2.2.1.off hb2
        have hng : g ∉ gs := fun q => by have := HT.out.2.2.1.nodes.lt g q; omega
        rw [← hg] at hN2 hb2 hz2 ⊢
        have hR2 : RowV w2 (Pf w.heap.size (gs ++ [g])) pa (gs.map ptrV) pc := ((HT.out.2.2.1.row).mono (fun k hk q => ⟨q.1, by
          rw [List.mem_append, List.mem_singleton]
          intro q2; rcases q2 with q2 | q2
          · exact q.2 q2
          · omega⟩)).call (by rw [← hg]; exact hb2)
        have hB2 : Below w.heap.size w w2 := HT.out.2.2.2.trans (hb2.mono (by have := HT.out.2.2.2.size; omega))
        have hz : w.heap.size ≤ wr.heap.size := HT.out.2.2.2.size
        obtain ⟨w3, hw3⟩ : ∃ w3, w3 = w2.alloc (.cells #[ptrV g] 25) := ⟨_, rfl⟩
        have hb3 : Below w2.heap.size w2 w3 := by rw [hw3]; exact below_alloc0 (Below.refl _ _) _
        have hc3 : ∀ j u, ([ptrV g] : List Value)[j]? = some u → w3.cell? ((⟨w2.heap.size, 0, none⟩ : Addr).add j) = some u := fun j u hj => by rw [hw3, Addr.add_lit, Nat.zero_add, World.cell?_alloc_new, List.getElem?_toArray]; exact hj
        have H3 : Hid (TabAt w3 w.heap.size pa pc gs (tabX n f l i) ∧ NodeAt w3 g (newK n f 0) ∧ RowV w3 (Pf w.heap.size (gs ++ [g])) pa (gs.map ptrV) pc ∧ Below w.heap.size w w3 ∧ g < w2.heap.size ∧ w2.heap.size ≤ w3.heap.size ∧ g ∉ gs ∧ w.heap.size ≤ g ∧ (∀ j u, ([ptrV g] : List Value)[j]? = some u → w3.cell? ((⟨w2.heap.size, 0, none⟩ : Addr).add j) = some u)) := ⟨hT2.off hb3, hN2.call hb3, hR2.call hb3, hB2.trans (hb3.mono hB2.size), by omega, hb3.size, hng, by omega, hc3⟩
        have HW3 : Hid (w3 = w2.alloc (.cells #[ptrV g] 25)) := hw3
        have HG : Hid (g = wr.heap.size) := hg
        have hF3 : ∀ k, w3.heap.size ≤ k → Pf w.heap.size (gs ++ [g]) k := fun k hk => ⟨by have := H3.out.2.2.2.1.size; omega, fun q => by
          rw [List.mem_append, List.mem_singleton] at q
          rcases q with q | q
          · have := H3.out.1.nodes.lt k q; omega
          · have := H3.out.2.2.2.2.1; have := H3.out.2.2.2.2.2.1; omega⟩
        have HF3 : Hid (∀ k, w3.heap.size ≤ k → Pf w.heap.size (gs ++ [g]) k) := hF3
        clear hF3
        clear hN2 hb2 hz2 hT2 hng hR2 hB2 hz hb3 hc3 hw3 hg
        go_wp2_with (at_builtin; change wpList _ _ _ _ _ (w2.alloc (.cells #[ptrV g] 25)); rw [← HW3.out]; refine wpList_append_RowV _ rfl _ _ 45 rfl (Pf w.heap.size (gs ++ [g])) 25 i0 (.pointer none) 8 Try.underlying45 HSI.out.1 HSI.out.2.1 rfl HSI.out.2.2.1 HSI.out.2.2.2 pa m pc (gs.map ptrV) [ptrV g] rfl (by rw [List.length_map, HT.out.2.1]; exact HT.out.1) H3.out.2.2.1 (by rw [List.length_map, HT.out.2.1]; have := HLT.out; have := HN.out.2.1; unfold maxLen; simp; omega) (by rw [List.length_map, HT.out.2.1]; have := HLT.out; have := HN.out.2.1; simp; omega) HF3.out ⟨w2.heap.size, 0, none⟩ 1 1 rfl rfl H3.out.2.2.2.2.2.2.2.2 (by intro u hu; simp at hu; subst hu; rfl) ?_; intro a9 m9 cap9 w9 hm9 hR9 hb9; have H9 : Hid (m9 = m + 1 ∧ RowV w9 (Pf w.heap.size (gs ++ [g])) a9 (gs.map ptrV ++ [ptrV g]) cap9 ∧ Off (Pf w.heap.size (gs ++ [g])) w3 w9) := ⟨hm9, hR9, hb9⟩; clear hm9 hR9 hb9)
        have HE : Hid (m9 = i + 1 ∧ (gs ++ [g]).length = i + 1 ∧ TabAt w9 w.heap.size a9 cap9 (gs ++ [g]) (tabX n f l (i + 1)) ∧ Below w.heap.size w w9) := by
          have hh := H9.out
          have h3 := H3.out
          refine ⟨by rw [hh.1, HT.out.1], by rw [List.length_append, HT.out.2.1]; rfl, ⟨?_, ?_, ?_, ?_⟩, ?_⟩
          · rw [tabX_snoc, HV.out]
            refine (h3.1.nodes.snoc h3.2.1).keep hh.2.2.size fun k hk => hh.2.2.block k fun q => q.2 hk
          · exact List.nodup_append.2 ⟨h3.1.nd, by simp, fun x hx y hy => by rw [List.mem_singleton] at hy; subst hy; intro e; subst e; exact h3.2.2.2.2.2.2.1 hx⟩
          · intro k hk; rw [List.mem_append, List.mem_singleton] at hk; rcases hk with hk | hk
            · exact h3.1.ge k hk
            · have := h3.2.2.2.2.2.2.2.1; omega
          · rw [List.map_append]; exact hh.2.1
          · exact h3.2.2.2.1.trans ⟨hh.2.2.os, hh.2.2.tape, hh.2.2.output, hh.2.2.size, fun k hk => hh.2.2.block k fun q => absurd q.1 (by omega)⟩
        go_roundw
        case rel => first | exact ⟨i + 1, m9, a9, cap9, gs ++ [g], HLT.out, HE.out.1, by go_num, rfl, HE.out.2.1, HE.out.2.2.1, HE.out.2.2.2⟩ | ((repeat apply Exists.intro); exact ⟨⟨i + 1, m9, a9, cap9, gs ++ [g], HLT.out, HE.out.1, by go_num, rfl, HE.out.2.1, HE.out.2.2.1, HE.out.2.2.2⟩, rfl⟩)
        case measure => have h1 := HLT.out; simp [Go.RowKit.intOf]; omega
    · obtain rfl : i = n := by omega
      have hnl : ¬ ((i : Int) < (i : Int)) := Int.lt_irrefl _
      clear hlt hi hm hgl hT hB
      go_wp2_with fail
      refine HKr.out _ _ ?_
      clear HKr
      go_wp2_with fail
      go_ret
      exact ⟨pa, pc, gs, by rw [HT.out.1]; rfl, HT.out.2.2.1, HT.out.2.2.2⟩
end Go.Proofs.Ytcahfkfafdoilaa
