/- All rounds of a table. -/
import Derived.Test.YtcahfkfafdoilaaKgG
namespace Go.Proofs.Ytcahfkfafdoilaa
open Go Go.RowKit Go.Lib

/-- All is as it was but for the nodes, and new blocks. -/
def Kp (gs : List Nat) (w w' : World) : Prop := Off (fun k => k ∈ gs ∨ w.heap.size ≤ k) w w'
theorem Kp.refl (gs : List Nat) (w : World) : Kp gs w w := Off.refl _ _
theorem Kp.block {gs : List Nat} {w w' : World} (h : Kp gs w w') {k : Nat} (hk : k < w.heap.size) (hg : k ∉ gs) : w'.heap[k]? = w.heap[k]? := Off.block h k fun q => q.elim hg (fun q => absurd q (by omega))
theorem Kp.trans {gs : List Nat} {a b c : World} (h : Kp gs a b) (k : Kp gs b c) : Kp gs a c :=
  ⟨(Off.os k).trans (Off.os h), (Off.tape k).trans (Off.tape h), (Off.output k).trans (Off.output h), Nat.le_trans (Off.size h) (Off.size k), fun i hi => (Off.block k i fun q => hi (q.elim .inl fun q => .inr (Nat.le_trans (Off.size h) q))).trans (Off.block h i hi)⟩
theorem Kp.of_below {gs : List Nat} {w w' : World} (h : Below w.heap.size w w') : Kp gs w w' := Off.of_below h fun _ hk => .inr hk
theorem Kp.of_but {gs : List Nat} {w w' : World} {g : Nat} (h : But g (From w.heap.size) w w') (hg : g ∈ gs) : Kp gs w w' := ⟨h.os, h.tape, h.output, h.size, fun k hk => h.block k (fun q => hk (.inr q)) (fun q => hk (.inl (q ▸ hg)))⟩
theorem Kp.below {gs : List Nat} {w w' : World} {B : Nat} (h : Kp gs w w') (hB : B ≤ w.heap.size) (hg : ∀ g ∈ gs, B ≤ g) : Below B w w' := ⟨Off.os h, Off.tape h, Off.output h, Off.size h, fun k hk => h.block (by omega) (fun q => by have := hg k q; omega)⟩
/-- Numbers that lie in no node. -/
def IntsOff (w : World) (gs : List Nat) (a : Option Addr) (l : List Int) : Prop := ∀ (j : Nat) (n : Int), l[j]? = some n → ∃ p o, a = some ⟨p, o, none⟩ ∧ w.cell? ⟨p, o + j, none⟩ = some (.int .i64 n) ∧ p < w.heap.size ∧ p ∉ gs
theorem IntsOff.kp {w w' : World} {gs : List Nat} {a : Option Addr} {l : List Int} (h : IntsOff w gs a l) (hk : Kp gs w w') : IntsOff w' gs a l := fun j n hj => by
  obtain ⟨p, o, h1, h2, h3, h4⟩ := h j n hj
  exact ⟨p, o, h1, (World.cell?_of_block (w := w) (a := ⟨p, o + j, none⟩) (hk.block h3 h4)).trans h2, Nat.lt_of_lt_of_le h3 (Off.size hk), h4⟩
structure PE (w : World) (gs : List Nat) (a : Option Addr) (A : Nat) (s : Int) (wa : Option Addr) (wl wc : Nat) (words : List Int) : Prop where
  ptrs : ∀ i g, gs[i]? = some g → ∃ pb po, a = some ⟨pb, po, none⟩ ∧ w.cell? ⟨pb, po + i, none⟩ = some (.pointer (some ⟨g, 0, none⟩)) ∧ pb < w.heap.size ∧ pb ∉ gs
  alt : A < w.heap.size
  ang : A ∉ gs
  b0 : w.cell? ⟨A, 0, none⟩ = some (.int .i64 s)
  b1 : w.cell? ⟨A, 1, none⟩ = some (.slice wa wl wc)
  words : IntsOff w gs wa words
theorem PE.kp {w w' : World} {gs : List Nat} {a : Option Addr} {A : Nat} {s : Int} {wa : Option Addr} {wl wc : Nat} {words : List Int} (h : PE w gs a A s wa wl wc words) (hk : Kp gs w w') : PE w' gs a A s wa wl wc words :=
  ⟨fun i g hg => by
    obtain ⟨pb, po, h1, h2, h3, h4⟩ := h.ptrs i g hg
    exact ⟨pb, po, h1, (World.cell?_of_block (w := w) (a := ⟨pb, po + i, none⟩) (hk.block h3 h4)).trans h2, Nat.lt_of_lt_of_le h3 (Off.size hk), h4⟩,
   Nat.lt_of_lt_of_le h.alt (Off.size hk), h.ang, (World.cell?_of_block (w := w) (a := ⟨A, 0, none⟩) (hk.block h.alt h.ang)).trans h.b0, (World.cell?_of_block (w := w) (a := ⟨A, 1, none⟩) (hk.block h.alt h.ang)).trans h.b1, h.words.kp hk⟩
/-- A round of which i nodes heard. -/
def Part (fl : Nat → Bool) (X : List Kn) (i : Nat) (Y : List Kn) : Prop := Y.length = X.length ∧ (∀ (j : Nat) (x : Kn), j < i → X[j]? = some x → ∃ t, Tl fl X t ∧ Y[j]? = some (stepK x t)) ∧ ∀ j : Nat, i ≤ j → Y[j]? = X[j]?
theorem Part.zero (fl : Nat → Bool) (X : List Kn) : Part fl X 0 X := ⟨rfl, fun j x hj => absurd hj (by omega), fun j _ => rfl⟩
theorem Part.step {fl : Nat → Bool} {X Y : List Kn} {i : Nat} {x : Kn} {t : List Int} (h : Part fl X i Y) (hx : X[i]? = some x) (ht : Tl fl X t) : Part fl X (i + 1) (Y.set i (stepK x t)) := by
  have hi : i < Y.length := by rw [h.1]; exact (List.getElem?_eq_some_iff.1 hx).1
  refine ⟨by rw [List.length_set]; exact h.1, fun j z hj hz => ?_, fun j hj => ?_⟩
  · by_cases e : j = i
    · subst e
      rw [hx] at hz
      cases hz
      exact ⟨t, ht, by rw [List.getElem?_set_self hi]⟩
    · obtain ⟨u, hu, e2⟩ := h.2.1 j z (by omega) hz
      exact ⟨u, hu, by rw [List.getElem?_set_ne (fun c => e c.symm)]; exact e2⟩
  · rw [List.getElem?_set_ne (by omega)]; exact h.2.2 j (by omega)
theorem Part.done {fl : Nat → Bool} {X Y : List Kn} (h : Part fl X X.length Y) : Rd fl X Y := ⟨h.1, fun j x hx => h.2.1 j x (List.getElem?_eq_some_iff.1 hx).1 hx⟩
theorem NodesAt.set {w w' : World} {gs : List Nat} {Y : List Kn} {i g : Nat} {z : Kn} (h : NodesAt w gs Y) (nd : gs.Nodup) (hg : gs[i]? = some g) (hb : But g (From w.heap.size) w w') (hz : NodeAt w' g z) : NodesAt w' gs (Y.set i z) := by
  have hi : i < Y.length := by rw [← h.1]; exact (List.getElem?_eq_some_iff.1 hg).1
  refine ⟨by rw [List.length_set]; exact h.1, fun j g' x hg' hx => ?_⟩
  by_cases e : j = i
  · subst e
    rw [hg] at hg'
    rw [List.getElem?_set_self hi] at hx
    cases hg'; cases hx
    exact hz
  · rw [List.getElem?_set_ne (fun c => e c.symm)] at hx
    have hn := h.2 j g' x hg' hx
    have hne : g' ≠ g := fun c => by
      subst c
      obtain ⟨h1, e1⟩ := List.getElem?_eq_some_iff.1 hg
      obtain ⟨h2, e2⟩ := List.getElem?_eq_some_iff.1 hg'
      exact e ((List.getElem_inj (h₀ := h2) (h₁ := h1) nd).1 (e2.trans e1.symm))
    exact hn.block hb.size (hb.block g' (not_from hn.lt) hne)
theorem PE.start {w w1 : World} {B cap : Nat} {gs : List Nat} {X : List Kn} {a : Option Addr} {s : Int} {wa : Option Addr} {wl wc : Nat} {words : List Int} (h : TabAt w B a cap gs X) (hw : IntsOff w gs wa words) (hw1 : w1 = w.alloc (.cells #[.int .i64 s, .slice wa wl wc] 43)) : PE w1 gs a w.heap.size s wa wl wc words ∧ Below w.heap.size w w1 := by
  have hb : Below w.heap.size w w1 := by rw [hw1]; exact below_alloc0 (Below.refl _ _) _
  refine ⟨⟨fun i g hg => ?_, ?_, ?_, ?_, ?_, hw.kp (Kp.of_below hb)⟩, hb⟩
  · have hu : (gs.map ptrV)[i]? = some (ptrV g) := by rw [List.getElem?_map, hg]; rfl
    obtain ⟨pb, po, h1, h2, h3, h4⟩ := h.row.get hu
    exact ⟨pb, po, h1, (hb.cell (p := ⟨pb, po + i, none⟩) h3).trans h2, Nat.lt_of_lt_of_le h3 hb.size, h4.2⟩
  · rw [hw1]; simp
  · exact fun q => absurd (h.nodes.lt _ q) (by omega)
  · rw [hw1, World.cell?_alloc_new]; rfl
  · rw [hw1, World.cell?_alloc_new]; rfl
theorem RowI.off {w : World} {base cap : Nat} {a : Option Addr} {l : List Int} {gs : List Nat} (h : RowI w base a l cap) (hg : ∀ g ∈ gs, g < base) : IntsOff w gs a l := fun j n hj => by
  have hu : (l.map (Value.int .i64))[j]? = some (.int .i64 n) := by rw [List.getElem?_map, hj]; rfl
  rcases h.2 with ⟨h1, h2⟩ | ⟨g, cap', cur, h1, h2, h3, h4, h5, h6, h7⟩
  · have : l = [] := List.eq_nil_of_length_eq_zero h2
    subst this
    simp at hj
  · injection h1 with h1 _ h1c
    subst h1
    refine ⟨g, 0, rfl, ?_, (Array.getElem?_eq_some_iff.1 h3).1, fun q => by have := hg g q; omega⟩
    have := World.ownsRow.cells h (g := g) (by simp [Value.ownBlock]) j (.int .i64 n) hu
    rwa [Addr.add_lit] at this
theorem IntsOff.ints {w : World} {gs : List Nat} {a : Option Addr} {l : List Int} (h : IntsOff w gs a l) : IntsAt w a l := fun j n hj => by
  obtain ⟨p, o, h1, h2, h3, _⟩ := h j n hj
  exact ⟨p, o, h1, h2, h3⟩
def vals (X : List Kn) : List Int := X.map fun x => (x.v : Int)
theorem vals_len (X : List Kn) : (vals X).length = X.length := by unfold vals; rw [List.length_map]
theorem vals_get {X : List Kn} {j : Nat} {x : Kn} (h : X[j]? = some x) : (vals X)[j]? = some (x.v : Int) := by unfold vals; rw [List.getElem?_map, h]; rfl
theorem vals_take {X : List Kn} {i : Nat} {x : Kn} (h : X[i]? = some x) : vals (X.take (i + 1)) = vals (X.take i) ++ [(x.v : Int)] := by rw [take_snoc h]; unfold vals; rw [List.map_append]; rfl
set_option maxRecDepth 100000 in
set_option maxHeartbeats 16000000 in
theorem play_any (n f : Nat) (J : Nat → List Kn → Prop) (s : Int) (X : List Kn) (hJ0 : J 0 X) (hJ : ∀ r X Y, r < 3 * (f + 1) → Tab n f r X → J r X → Rd (flB s f) X Y → J (r + 1) Y) (h10 : n ≤ 10) (hTb : Tab n f 0 X)
    (a : Option Addr) (cap B : Nat) (gs : List Nat) (wa : Option Addr) (wl wc : Nat) (words : List Int) (hwl : wl = words.length) (hw4 : wl ≤ 4000) (w : World) (hT : TabAt w B a cap gs X) (hW : IntsOff w gs wa words) :
    Calls Try.prog 21 #[.slice a n cap, .int .i64 (f : Nat), .agg #[.int .i64 s, .slice wa wl wc]] w fun e w' => e = .returned (.bool true) ∧ (∃ Y, NodesAt w' gs Y ∧ Tab n f (3 * (f + 1)) Y ∧ J (3 * (f + 1)) Y) ∧ Kp gs w w' := by
  have HJ : Hid (∀ r X Y, r < 3 * (f + 1) → Tab n f r X → J r X → Rd (flB s f) X Y → J (r + 1) Y) := hJ
  have HC : Hid (n ≤ 10 ∧ 3 * f < n ∧ 1 ≤ n ∧ gs.length = n ∧ gs.Nodup ∧ wl = words.length ∧ wl ≤ 4000) := ⟨h10, hTb.hf, hTb.n1, hT.nodes.1.trans hTb.len, hT.nd, hwl, hw4⟩
  have HGL : Hid (∀ g ∈ gs, g < w.heap.size) := hT.nodes.lt
  have n10 : (n : Int) ≤ 10 := by omega
  have f10 : (f : Int) ≤ 3 := by have := hTb.hf; omega
  have wl4 : (wl : Int) ≤ 4000 := by omega
  obtain ⟨w1, hw1⟩ : ∃ w1, w1 = w.alloc (.cells #[.int .i64 s, .slice wa wl wc] 43) := ⟨_, rfl⟩
  obtain ⟨hP, hB1⟩ := PE.start (s := s) (wl := wl) (wc := wc) hT hW hw1
  have H1 : Hid (NodesAt w1 gs X ∧ Tab n f 0 X ∧ J 0 X ∧ PE w1 gs a w.heap.size s wa wl wc words ∧ Kp gs w w1) := ⟨hT.nodes.call hB1, hTb, hJ0, hP, Kp.of_below hB1⟩
  have HW1 : Hid (w1 = w.alloc (.cells #[.int .i64 s, .slice wa wl wc] 43)) := hw1
  obtain ⟨R, hR⟩ : ∃ R, R = 3 * (f + 1) := ⟨_, rfl⟩
  have hR2 : (3 : Int) * ((f : Int) + 1) = (R : Nat) := by omega
  have HR : Hid (R = 3 * (f + 1)) := hR
  have R12 : (R : Int) ≤ 12 := by omega
  obtain ⟨A, hA⟩ : ∃ A, A = w.heap.size := ⟨_, rfl⟩
  rw [← hA] at H1 HGL
  have HA : Hid (A = w.heap.size) := hA
  clear hJ hJ0 h10 hTb hwl hw4 hT hW hw1 hP hB1 hR
  go_enter Try.func21, Try.ntmps21
  go_wp2_with fail
  rename_i Kr hKr
  have HKr : Hid _ := hKr
  clear hKr
  rw [← hA]
  change Code.wp _ _ _ _ (w.alloc (.cells #[.int .i64 s, .slice wa wl wc] 43))
  rw [← HW1.out]
  clear HW1 hA
  go_loopw [7, 8] (fun tv rv wr => ∃ (r t : Nat) (X : List Kn), r ≤ R ∧ t ≤ 100 * r ∧ tv = .int .i64 (t : Nat) ∧ rv = .int .i64 (r : Nat) ∧ NodesAt wr gs X ∧ Tab n f r X ∧ J r X ∧ PE wr gs a A s wa wl wc words ∧ Kp gs w wr) (fun _ rv _ => R - (Go.RowKit.intOf rv).toNat)
  case atStart => exact ⟨0, 0, X, Nat.zero_le _, Nat.zero_le _, rfl, rfl, H1.out⟩
  case round =>
    obtain ⟨r, t, X1, hr, ht, rfl, rfl, hX⟩ := hrel
    rename World => wr
    clear H1
    have HX : Hid (NodesAt wr gs X1 ∧ Tab n f r X1 ∧ J r X1 ∧ PE wr gs a A s wa wl wc words ∧ Kp gs w wr) := hX
    have HT0 : Hid (t ≤ 100 * r) := ht
    clear hX
    by_cases hlt : r < R
    · have hlt' : (r : Int) < (R : Int) := by omega
      have hle' : ¬ ((R : Int) ≤ (r : Int)) := by omega
      have HLT : Hid (r < R) := hlt
      have HB1 : Hid (A < wr.heap.size) := HX.out.2.2.2.1.alt
      clear HKr hr ht hlt
      go_wp2_with fail
      rename_i KrA hKrA
      have HKrA : Hid _ := hKrA
      clear hKrA
      go_loopw [9, 26] (fun sv iv wq => ∃ (i m : Nat) (sa : Option Addr) (sc : Nat), i ≤ n ∧ m = i ∧ sv = .slice sa m sc ∧ iv = .int .i64 (i : Nat) ∧ RowI wq wr.heap.size sa (vals (X1.take i)) sc ∧ Below wr.heap.size wr wq) (fun _ iv _ => n - (Go.RowKit.intOf iv).toNat)
      case atStart => exact ⟨0, 0, none, 0, Nat.zero_le _, rfl, rfl, rfl, RowI.nil _ _, Below.refl _ _⟩
      case round =>
        obtain ⟨i, m, sa, sc, hi, hm, rfl, rfl, hRow, hB⟩ := hrel
        rename World => wq
        have HI : Hid (m = i ∧ RowI wq wr.heap.size sa (vals (X1.take i)) sc ∧ Below wr.heap.size wr wq) := ⟨hm, hRow, hB⟩
        by_cases hil : i < n
        · have hil' : (i : Int) < (n : Int) := by omega
          have HIL : Hid (i < n) := hil
          obtain ⟨g, hg⟩ : ∃ g, gs[i]? = some g := ⟨_, List.getElem?_eq_getElem (by have := HC.out.2.2.2.1; omega)⟩
          obtain ⟨x, hx⟩ : ∃ x, X1[i]? = some x := ⟨_, List.getElem?_eq_getElem (by have := HX.out.2.1.len; omega)⟩
          obtain ⟨pb, po, ha, cp, _, _⟩ := (HX.out.2.2.2.1.kp (Kp.of_below hB)).ptrs i g hg
          subst ha
          have HN : Hid (NodeAt wq g x) := (HX.out.1.call hB).2 i g x hg hx
          have hall := HX.out.2.1.all i x hx
          have hsv : sendV x = x.v := by
            have h1 := HLT.out
            have h2 := HR.out
            unfold sendV
            rw [if_pos (by rw [hall.2.1, hall.2.2.1, ← h2]; exact h1)]
          have HSV : Hid (sendV x = x.v) := hsv
          have HVT : Hid (vals (X1.take (i + 1)) = vals (X1.take i) ++ [(x.v : Int)]) := vals_take hx
          have hln : (vals (X1.take i)).length = i := by rw [vals_len, List.length_take]; have := HX.out.2.1.len; omega
          have HLN : Hid ((vals (X1.take i)).length = i) := hln
          clear hln hsv hall hg hx hi hm hRow hB hil
          go_wp2_with fail
          refine (ksend_in g x _ HN.out).mono ?_
          rintro e w2 ⟨rfl, rfl⟩
          rw [HSV.out]
          obtain ⟨w3, hw3⟩ : ∃ w3, w3 = w2.alloc (.cells #[.int .i64 (x.v : Nat)] 3) := ⟨_, rfl⟩
          have hb3 : Below w2.heap.size w2 w3 := by rw [hw3]; exact below_alloc0 (Below.refl _ _) _
          have hc3 : w3.cell? ⟨w2.heap.size, 0, none⟩ = some (.int .i64 (x.v : Nat)) := by rw [hw3, World.cell?_alloc_new]; rfl
          have H3 : Hid (RowI w3 wr.heap.size sa (vals (X1.take i)) sc ∧ Below wr.heap.size wr w3 ∧ w3.cell? ⟨w2.heap.size, 0, none⟩ = some (.int .i64 (x.v : Nat)) ∧ w3 = w2.alloc (.cells #[.int .i64 (x.v : Nat)] 3)) := ⟨HI.out.2.1.call hb3, below_call0 HI.out.2.2 hb3, hc3, hw3⟩
          clear hb3 hc3 hw3
          go_wp2_with (at_builtin; change wpList _ _ _ _ _ (w2.alloc (.cells #[.int .i64 (x.v : Nat)] 3)); rw [← H3.out.2.2.2]; refine wpList_append_RowI _ rfl _ _ rfl wr.heap.size sa m sc (vals (X1.take i)) (x.v : Nat) rfl (by rw [HLN.out]; exact HI.out.1) H3.out.1 H3.out.2.1.size (by rw [HLN.out]; have := HIL.out; have := HC.out.1; omega) ⟨w2.heap.size, 0, none⟩ 1 rfl H3.out.2.2.1 ?_; intro a9 m9 cap9 w9 hm9 hR9 hb9; have H9 : Hid (m9 = m + 1 ∧ RowI w9 wr.heap.size a9 (vals (X1.take i) ++ [(x.v : Int)]) cap9 ∧ Below wr.heap.size w3 w9) := ⟨hm9, hR9, hb9⟩; clear hm9 hR9 hb9)
          have HE : Hid (m9 = i + 1 ∧ RowI w9 wr.heap.size a9 (vals (X1.take (i + 1))) cap9 ∧ Below wr.heap.size wr w9) := ⟨by rw [H9.out.1, HI.out.1], by rw [HVT.out]; exact H9.out.2.1, H3.out.2.1.trans H9.out.2.2⟩
          go_roundw
          case rel => first | exact ⟨i + 1, m9, a9, cap9, HIL.out, HE.out.1, rfl, by go_num, HE.out.2⟩ | ((repeat apply Exists.intro); exact ⟨⟨i + 1, m9, a9, cap9, HIL.out, HE.out.1, rfl, by go_num, HE.out.2⟩, rfl⟩)
          case measure => have h1 := HIL.out; simp [Go.RowKit.intOf]; omega
        · obtain rfl : i = n := by omega
          have hnl : ¬ ((i : Int) < (i : Int)) := Int.lt_irrefl _
          have hte : X1.take i = X1 := List.take_of_length_le (by have := HX.out.2.1.len; omega)
          rw [hte] at hRow
          have HSO : Hid (IntsOff wq gs sa (vals X1)) := hRow.off fun g hg => Nat.lt_of_lt_of_le (HGL.out g hg) (Nat.le_of_lt HB1.out)
          have HQ : Hid (NodesAt wq gs X1 ∧ PE wq gs a A s wa wl wc words ∧ Kp gs w wq) := ⟨HX.out.1.call hB, HX.out.2.2.2.1.kp (Kp.of_below hB), HX.out.2.2.2.2.trans (Kp.of_below hB)⟩
          rw [hm]
          clear hil hi hm hRow hB hte HI
          go_wp2_with fail
          refine HKrA.out _ _ ?_
          clear HKrA
          go_wp2_with fail
          go_loopw [7, 38] (fun tv iv wz => ∃ (j u : Nat) (Y : List Kn), j ≤ i ∧ u ≤ t + 10 * j ∧ tv = .int .i64 (u : Nat) ∧ iv = .int .i64 (j : Nat) ∧ Part (flB s f) X1 j Y ∧ NodesAt wz gs Y ∧ Kp gs wq wz) (fun _ iv _ => i - (Go.RowKit.intOf iv).toNat)
          case atStart => exact ⟨0, t, X1, Nat.zero_le _, Nat.le_refl _, rfl, rfl, Part.zero _ _, HQ.out.1, Kp.refl _ _⟩
          case round =>
            obtain ⟨j, u, Y, hj, hu, rfl, rfl, hY⟩ := hrel
            rename World => wz
            have HY : Hid (u ≤ t + 10 * j ∧ Part (flB s f) X1 j Y ∧ NodesAt wz gs Y ∧ Kp gs wq wz) := ⟨hu, hY⟩
            by_cases hjl : j < i
            · have hjl' : (j : Int) < (i : Int) := by omega
              have HJL : Hid (j < i) := hjl
              obtain ⟨g, hg⟩ : ∃ g, gs[j]? = some g := ⟨_, List.getElem?_eq_getElem (by have := HC.out.2.2.2.1; omega)⟩
              obtain ⟨x, hx⟩ : ∃ x, X1[j]? = some x := ⟨_, List.getElem?_eq_getElem (by have := HX.out.2.1.len; omega)⟩
              obtain ⟨pb, po, ha, cp, _, _⟩ := (HQ.out.2.1.kp hY.2.2).ptrs j g hg
              have HG : Hid (gs[j]? = some g ∧ X1[j]? = some x) := ⟨hg, hx⟩
              subst ha
              clear hg hx hj hu hY hjl
              go_wp2_with fail
              rename_i KrC hKrC
              have HKrC : Hid _ := hKrC
              clear hKrC
              clear cp
              go_loopw [7, 14, 44] (fun tv ov iv wy => ∃ (k v m : Nat) (ta : Option Addr) (tc : Nat) (T : List Int), k ≤ i ∧ v ≤ u + k ∧ m = k ∧ T.length = k ∧ tv = .int .i64 (v : Nat) ∧ ov = .slice ta m tc ∧ iv = .int .i64 (k : Nat) ∧ RowI wy wz.heap.size ta T tc ∧ Below wz.heap.size wz wy ∧ ∀ (q : Nat) (x : Kn) (y : Int), flB s f q = false → X1[q]? = some x → T[q]? = some y → y = (x.v : Int)) (fun _ _ iv _ => i - (Go.RowKit.intOf iv).toNat)
              case atStart => exact ⟨0, u, 0, none, 0, [], Nat.zero_le _, Nat.le_refl _, rfl, rfl, rfl, rfl, rfl, RowI.nil _ _, Below.refl _ _, fun q x y _ _ h => by simp at h⟩
              case round =>
                obtain ⟨k, v, m, ta, tc, T, hk, hv, hm, hTl, rfl, rfl, rfl, hRow, hB, hTold⟩ := hrel
                rename World => wy
                have HK : Hid (v ≤ u + k ∧ m = k ∧ T.length = k ∧ RowI wy wz.heap.size ta T tc ∧ Below wz.heap.size wz wy ∧ ∀ (q : Nat) (x : Kn) (y : Int), flB s f q = false → X1[q]? = some x → T[q]? = some y → y = (x.v : Int)) := ⟨hv, hm, hTl, hRow, hB, hTold⟩
                by_cases hkl : k < i
                · have hkl' : (k : Int) < (i : Int) := by omega
                  have hk0 : (0 : Int) ≤ (k : Int) := by omega
                  have HKL : Hid (k < i) := hkl
                  have hkp : Kp gs wq wy := HY.out.2.2.2.trans (Kp.of_below hB)
                  obtain ⟨xk, hxk⟩ : ∃ xk, X1[k]? = some xk := ⟨_, List.getElem?_eq_getElem (by have := HX.out.2.1.len; omega)⟩
                  obtain ⟨sp, so, hsa, sc1, _, _⟩ := ((show IntsOff wq gs sa (vals X1) from HSO.out).kp hkp) k _ (vals_get hxk)
                  subst hsa
                  have hpe := HQ.out.2.1.kp hkp
                  have b0 := hpe.b0
                  have b1 := hpe.b1
                  have HPE : Hid (PE wy gs (some ⟨pb, po, none⟩) A s wa wl wc words) := hpe
                  have vb : (v : Int) ≤ 100000 := by have h1 := HT0.out; have h2 := HLT.out; have h3 := HY.out.1; have h4 := HJL.out; omega
                  have KF : Hid (∀ w, Calls Try.prog 22 #[.int .i64 s, .int .i64 (f : Nat), .int .i64 (k : Nat)] w fun e w' => e = .returned (.bool (flB s f k)) ∧ w' = w) := fun w => fails_any s f k (by have := HC.out; omega) (by have := HC.out; omega) w
                  have HXK : Hid (X1[k]? = some xk) := hxk
                  clear hpe hkp hxk hk hv hm hTl hRow hB hTold hkl
                  obtain ⟨D, hD⟩ : ∃ D, D = flB s f k := ⟨_, rfl⟩
                  rw [← hD] at KF
                  have HD : Hid (D = flB s f k) := hD
                  clear hD
                  have hdc : (D = false) ∨ (D = true ∧ wl = 0) ∨ (D = true ∧ 0 < wl) := by
                    rcases Nat.eq_zero_or_pos wl with q | q
                    · cases D
                      · exact .inl rfl
                      · exact .inr (.inl ⟨rfl, q⟩)
                    · cases D
                      · exact .inl rfl
                      · exact .inr (.inr ⟨rfl, q⟩)
                  rcases hdc with hd | ⟨hd, hw0⟩ | ⟨hd, hw0⟩
                  · subst hd
                    go_wp2_with fail
                    refine (KF.out _).mono ?_
                    rintro e w2 ⟨rfl, hw2⟩
                    obtain rfl : wy = w2 := hw2.symm
                    obtain ⟨w3, hw3⟩ : ∃ w3, w3 = wy.alloc (.cells #[.int .i64 ((xk.v : Nat) : Int)] 3) := ⟨_, rfl⟩
                    have hb3 : Below wy.heap.size wy w3 := by rw [hw3]; exact below_alloc0 (Below.refl _ _) _
                    have hc3 : w3.cell? ⟨wy.heap.size, 0, none⟩ = some (.int .i64 ((xk.v : Nat) : Int)) := by rw [hw3, World.cell?_alloc_new]; rfl
                    have H3 : Hid (RowI w3 wz.heap.size ta T tc ∧ Below wz.heap.size wz w3 ∧ w3.cell? ⟨wy.heap.size, 0, none⟩ = some (.int .i64 ((xk.v : Nat) : Int)) ∧ w3 = wy.alloc (.cells #[.int .i64 ((xk.v : Nat) : Int)] 3)) := ⟨HK.out.2.2.2.1.call hb3, below_call0 HK.out.2.2.2.2.1 hb3, hc3, hw3⟩
                    clear hb3 hc3 hw3
                    go_wp2_with (at_builtin; change wpList _ _ _ _ _ (wy.alloc (.cells #[.int .i64 ((xk.v : Nat) : Int)] 3)); rw [← H3.out.2.2.2]; refine wpList_append_RowI _ rfl _ _ rfl wz.heap.size ta m tc T ((xk.v : Nat) : Int) rfl (by rw [HK.out.2.2.1]; exact HK.out.2.1) H3.out.1 H3.out.2.1.size (by rw [HK.out.2.2.1]; have := HKL.out; have := HC.out.1; omega) ⟨wy.heap.size, 0, none⟩ 1 rfl H3.out.2.2.1 ?_; intro a9 m9 cap9 w9 hm9 hR9 hb9; have H9 : Hid (m9 = m + 1 ∧ RowI w9 wz.heap.size a9 (T ++ [((xk.v : Nat) : Int)]) cap9 ∧ Below wz.heap.size w3 w9) := ⟨hm9, hR9, hb9⟩; clear hm9 hR9 hb9)
                    have HE : Hid (m9 = k + 1 ∧ (T ++ [((xk.v : Nat) : Int)]).length = k + 1 ∧ RowI w9 wz.heap.size a9 (T ++ [((xk.v : Nat) : Int)]) cap9 ∧ Below wz.heap.size wz w9 ∧ ∀ (q : Nat) (x : Kn) (y : Int), flB s f q = false → X1[q]? = some x → (T ++ [((xk.v : Nat) : Int)])[q]? = some y → y = (x.v : Int)) := by
                      refine ⟨by rw [H9.out.1, HK.out.2.1], by rw [List.length_append, HK.out.2.2.1]; rfl, H9.out.2.1, H3.out.2.1.trans H9.out.2.2, fun q z y hq hz hy => ?_⟩
                      by_cases c : q < T.length
                      · rw [List.getElem?_append_left c] at hy
                        exact HK.out.2.2.2.2.2 q z y hq hz hy
                      · have e : q = k := by
                          have := (List.getElem?_eq_some_iff.1 hy).1
                          rw [List.length_append, HK.out.2.2.1] at this
                          rw [HK.out.2.2.1] at c
                          simp at this
                          omega
                        subst e
                        rw [List.getElem?_append_right (by omega), HK.out.2.2.1, Nat.sub_self] at hy
                        cases hy
                        rw [HXK.out] at hz; cases hz; rfl
                    go_roundw
                    case rel => first | exact ⟨k + 1, v, m9, a9, cap9, T ++ [((xk.v : Nat) : Int)], HKL.out, by have := HK.out.1; omega, HE.out.1, HE.out.2.1, by go_num, rfl, by go_num, HE.out.2.2⟩ | ((repeat apply Exists.intro); exact ⟨⟨k + 1, v, m9, a9, cap9, T ++ [((xk.v : Nat) : Int)], HKL.out, by have := HK.out.1; omega, HE.out.1, HE.out.2.1, by go_num, rfl, by go_num, HE.out.2.2⟩, rfl⟩)
                    case measure => have h1 := HKL.out; simp [Go.RowKit.intOf]; omega
                  · subst hd
                    have hw0' : ¬ ((0 : Int) < (wl : Int)) := by omega
                    clear hw0
                    go_wp2_with fail
                    refine (KF.out _).mono ?_
                    rintro e w2 ⟨rfl, hw2⟩
                    obtain rfl : wy = w2 := hw2.symm
                    obtain ⟨w3, hw3⟩ : ∃ w3, w3 = wy.alloc (.cells #[.int .i64 ((xk.v : Nat) : Int)] 3) := ⟨_, rfl⟩
                    have hb3 : Below wy.heap.size wy w3 := by rw [hw3]; exact below_alloc0 (Below.refl _ _) _
                    have hc3 : w3.cell? ⟨wy.heap.size, 0, none⟩ = some (.int .i64 ((xk.v : Nat) : Int)) := by rw [hw3, World.cell?_alloc_new]; rfl
                    have H3 : Hid (RowI w3 wz.heap.size ta T tc ∧ Below wz.heap.size wz w3 ∧ w3.cell? ⟨wy.heap.size, 0, none⟩ = some (.int .i64 ((xk.v : Nat) : Int)) ∧ w3 = wy.alloc (.cells #[.int .i64 ((xk.v : Nat) : Int)] 3)) := ⟨HK.out.2.2.2.1.call hb3, below_call0 HK.out.2.2.2.2.1 hb3, hc3, hw3⟩
                    clear hb3 hc3 hw3
                    go_wp2_with (at_builtin; change wpList _ _ _ _ _ (wy.alloc (.cells #[.int .i64 ((xk.v : Nat) : Int)] 3)); rw [← H3.out.2.2.2]; refine wpList_append_RowI _ rfl _ _ rfl wz.heap.size ta m tc T ((xk.v : Nat) : Int) rfl (by rw [HK.out.2.2.1]; exact HK.out.2.1) H3.out.1 H3.out.2.1.size (by rw [HK.out.2.2.1]; have := HKL.out; have := HC.out.1; omega) ⟨wy.heap.size, 0, none⟩ 1 rfl H3.out.2.2.1 ?_; intro a9 m9 cap9 w9 hm9 hR9 hb9; have H9 : Hid (m9 = m + 1 ∧ RowI w9 wz.heap.size a9 (T ++ [((xk.v : Nat) : Int)]) cap9 ∧ Below wz.heap.size w3 w9) := ⟨hm9, hR9, hb9⟩; clear hm9 hR9 hb9)
                    have HE : Hid (m9 = k + 1 ∧ (T ++ [((xk.v : Nat) : Int)]).length = k + 1 ∧ RowI w9 wz.heap.size a9 (T ++ [((xk.v : Nat) : Int)]) cap9 ∧ Below wz.heap.size wz w9 ∧ ∀ (q : Nat) (x : Kn) (y : Int), flB s f q = false → X1[q]? = some x → (T ++ [((xk.v : Nat) : Int)])[q]? = some y → y = (x.v : Int)) := by
                      refine ⟨by rw [H9.out.1, HK.out.2.1], by rw [List.length_append, HK.out.2.2.1]; rfl, H9.out.2.1, H3.out.2.1.trans H9.out.2.2, fun q z y hq hz hy => ?_⟩
                      by_cases c : q < T.length
                      · rw [List.getElem?_append_left c] at hy
                        exact HK.out.2.2.2.2.2 q z y hq hz hy
                      · have e : q = k := by
                          have := (List.getElem?_eq_some_iff.1 hy).1
                          rw [List.length_append, HK.out.2.2.1] at this
                          rw [HK.out.2.2.1] at c
                          simp at this
                          omega
                        subst e
                        rw [List.getElem?_append_right (by omega), HK.out.2.2.1, Nat.sub_self] at hy
                        cases hy
                        rw [HXK.out] at hz; cases hz; rfl
                    go_roundw
                    case rel => first | exact ⟨k + 1, v, m9, a9, cap9, T ++ [((xk.v : Nat) : Int)], HKL.out, by have := HK.out.1; omega, HE.out.1, HE.out.2.1, by go_num, rfl, by go_num, HE.out.2.2⟩ | ((repeat apply Exists.intro); exact ⟨⟨k + 1, v, m9, a9, cap9, T ++ [((xk.v : Nat) : Int)], HKL.out, by have := HK.out.1; omega, HE.out.1, HE.out.2.1, by go_num, rfl, by go_num, HE.out.2.2⟩, rfl⟩)
                    case measure => have h1 := HKL.out; simp [Go.RowKit.intOf]; omega
                  · subst hd
                    have hw0' : (0 : Int) < (wl : Int) := by omega
                    have hwn : ¬ ((wl : Int) = 0) := by omega
                    have hmd : ((v : Nat) : Int).tmod ((wl : Nat) : Int) = ((v % wl : Nat) : Int) := rfl
                    have hml : v % wl < wl := Nat.mod_lt _ hw0
                    obtain ⟨M, hM⟩ : ∃ M, M = v % wl := ⟨_, rfl⟩
                    rw [← hM] at hmd hml
                    have hml' : (M : Int) < (wl : Int) := by omega
                    have hm0 : (0 : Int) ≤ (M : Int) := by omega
                    have wM : IntKind.i64.wrap (M : Int) = (M : Int) := by rw [IntKind.wrap_i64]; omega
                    obtain ⟨yw, hyw⟩ : ∃ yw, words[M]? = some yw := ⟨_, List.getElem?_eq_getElem (by have := HC.out.2.2.2.2.2.1; omega)⟩
                    obtain ⟨wp, wo, hwa, cw, _, _⟩ := HPE.out.words M yw hyw
                    subst hwa
                    clear hM hml hyw hw0
                    go_wp2_with fail
                    refine (KF.out _).mono ?_
                    rintro e w2 ⟨rfl, hw2⟩
                    obtain rfl : wy = w2 := hw2.symm
                    go_wp2_with fail
                    go_quiet (fail)
                    obtain ⟨w3, hw3⟩ : ∃ w3, w3 = (wy.drewN nq).alloc (.cells #[.int .i64 yw] 3) := ⟨_, rfl⟩
                    have hb3 : Below (wy.drewN nq).heap.size (wy.drewN nq) w3 := by rw [hw3]; exact below_alloc0 (Below.refl _ _) _
                    have hc3 : w3.cell? ⟨(wy.drewN nq).heap.size, 0, none⟩ = some (.int .i64 yw) := by rw [hw3, World.cell?_alloc_new]; rfl
                    have H3 : Hid (RowI w3 wz.heap.size ta T tc ∧ Below wz.heap.size wz w3 ∧ w3.cell? ⟨(wy.drewN nq).heap.size, 0, none⟩ = some (.int .i64 yw) ∧ w3 = (wy.drewN nq).alloc (.cells #[.int .i64 yw] 3)) := ⟨(HK.out.2.2.2.1.call (below_drewN (Below.refl _ _) _)).call hb3, below_call0 (below_drewN HK.out.2.2.2.2.1 _) hb3, hc3, hw3⟩
                    clear hb3 hc3 hw3
                    go_wp2_with (at_builtin; change wpList _ _ _ _ _ ((wy.drewN nq).alloc (.cells #[.int .i64 yw] 3)); rw [← H3.out.2.2.2]; refine wpList_append_RowI _ rfl _ _ rfl wz.heap.size ta m tc T yw rfl (by rw [HK.out.2.2.1]; exact HK.out.2.1) H3.out.1 H3.out.2.1.size (by rw [HK.out.2.2.1]; have := HKL.out; have := HC.out.1; omega) ⟨(wy.drewN nq).heap.size, 0, none⟩ 1 rfl H3.out.2.2.1 ?_; intro a9 m9 cap9 w9 hm9 hR9 hb9; have H9 : Hid (m9 = m + 1 ∧ RowI w9 wz.heap.size a9 (T ++ [yw]) cap9 ∧ Below wz.heap.size w3 w9) := ⟨hm9, hR9, hb9⟩; clear hm9 hR9 hb9)
                    have HE : Hid (m9 = k + 1 ∧ (T ++ [yw]).length = k + 1 ∧ RowI w9 wz.heap.size a9 (T ++ [yw]) cap9 ∧ Below wz.heap.size wz w9 ∧ ∀ (q : Nat) (x : Kn) (y : Int), flB s f q = false → X1[q]? = some x → (T ++ [yw])[q]? = some y → y = (x.v : Int)) := by
                      refine ⟨by rw [H9.out.1, HK.out.2.1], by rw [List.length_append, HK.out.2.2.1]; rfl, H9.out.2.1, H3.out.2.1.trans H9.out.2.2, fun q z y hq hz hy => ?_⟩
                      by_cases c : q < T.length
                      · rw [List.getElem?_append_left c] at hy
                        exact HK.out.2.2.2.2.2 q z y hq hz hy
                      · have e : q = k := by
                          have := (List.getElem?_eq_some_iff.1 hy).1
                          rw [List.length_append, HK.out.2.2.1] at this
                          rw [HK.out.2.2.1] at c
                          simp at this
                          omega
                        subst e
                        rw [List.getElem?_append_right (by omega), HK.out.2.2.1, Nat.sub_self] at hy
                        cases hy
                        rw [← HD.out] at hq; cases hq
                    go_roundw
                    case rel => first | exact ⟨k + 1, v + 1, m9, a9, cap9, T ++ [yw], HKL.out, by have := HK.out.1; omega, HE.out.1, HE.out.2.1, by go_num, rfl, by go_num, HE.out.2.2⟩ | ((repeat apply Exists.intro); exact ⟨⟨k + 1, v + 1, m9, a9, cap9, T ++ [yw], HKL.out, by have := HK.out.1; omega, HE.out.1, HE.out.2.1, by go_num, rfl, by go_num, HE.out.2.2⟩, rfl⟩)
                    case measure => have h1 := HKL.out; simp [Go.RowKit.intOf]; omega
                · obtain rfl : k = i := by omega
                  have hnl : ¬ ((k : Int) < (k : Int)) := Int.lt_irrefl _
                  have HTT : Hid (Tl (flB s f) X1 T) := ⟨by rw [hTl]; exact HX.out.2.1.len.symm, hTold⟩
                  have HN : Hid (NodeAt wy g x) := by
                    have h1 := (HY.out.2.2.1.call hB).2 j g x HG.out.1 (by rw [HY.out.2.1.2.2 j (Nat.le_refl _)]; exact HG.out.2)
                    exact h1
                  have hall := HX.out.2.1.all j x HG.out.2
                  have HP5 : Hid (x.r < 3 * (x.f + 1) ∧ T.length = x.n ∧ m = T.length ∧ IntsAt wy ta T ∧ Below wz.heap.size wz wy ∧ v ≤ u + k) := ⟨by rw [hall.2.1, hall.2.2.1, ← HR.out]; exact HLT.out, by rw [hTl, hall.1], by rw [hm, hTl], hRow.ints, hB, hv⟩
                  clear hkl hk hv hm hTl hRow hB hTold hall
                  go_wp2_with fail
                  refine HKrC.out _ _ ?_
                  clear HKrC
                  go_wp2_with fail
                  refine (khear_ok g x ta T m tc HP5.out.2.2.1 _ HN.out HP5.out.1 HP5.out.2.1 HP5.out.2.2.2.1).mono ?_
                  rintro e w6 ⟨rfl, hN6, hU6⟩
                  have H6 : Hid (v ≤ t + 10 * (j + 1) ∧ Part (flB s f) X1 (j + 1) (Y.set j (stepK x T)) ∧ NodesAt w6 gs (Y.set j (stepK x T)) ∧ Kp gs wq w6) := by
                    have hmem : g ∈ gs := List.mem_of_getElem? HG.out.1
                    refine ⟨by have := HY.out.1; have := HP5.out.2.2.2.2.2; have := HC.out.1; omega, HY.out.2.1.step HG.out.2 HTT.out, (HY.out.2.2.1.call HP5.out.2.2.2.2.1).set HC.out.2.2.2.2.1 HG.out.1 hU6 hN6, (HY.out.2.2.2.trans (Kp.of_below HP5.out.2.2.2.2.1)).trans (Kp.of_but hU6 hmem)⟩
                  clear hN6 hU6
                  go_wp2_with fail
                  go_roundw
                  case rel => first | exact ⟨j + 1, v, Y.set j (stepK x T), HJL.out, H6.out.1, by go_num, by go_num, H6.out.2⟩ | ((repeat apply Exists.intro); exact ⟨⟨j + 1, v, Y.set j (stepK x T), HJL.out, H6.out.1, by go_num, by go_num, H6.out.2⟩, rfl⟩)
                  case measure => have h1 := HJL.out; simp [Go.RowKit.intOf]; omega
            · obtain rfl : j = i := by omega
              have hnl : ¬ ((j : Int) < (j : Int)) := Int.lt_irrefl _
              have HRd : Hid (Rd (flB s f) X1 Y) := Part.done (by rw [HX.out.2.1.len]; exact hY.1)
              have H7 : Hid (u ≤ 100 * (r + 1) ∧ NodesAt wz gs Y ∧ Tab j f (r + 1) Y ∧ J (r + 1) Y ∧ PE wz gs a A s wa wl wc words ∧ Kp gs w wz) :=
                ⟨by have := HT0.out; have := HC.out.1; omega, hY.2.1, HX.out.2.1.step HRd.out, HJ.out r X1 Y (by rw [← HR.out]; exact HLT.out) HX.out.2.1 HX.out.2.2.1 HRd.out, HQ.out.2.1.kp hY.2.2, HQ.out.2.2.trans hY.2.2⟩
              clear hjl hj hu hY
              go_wp2_with fail
              go_roundw
              case rel => first | exact ⟨r + 1, u, Y, HLT.out, H7.out.1, by go_num, by go_num, H7.out.2⟩ | ((repeat apply Exists.intro); exact ⟨⟨r + 1, u, Y, HLT.out, H7.out.1, by go_num, by go_num, H7.out.2⟩, rfl⟩)
              case measure => have h1 := HLT.out; simp [Go.RowKit.intOf]; omega
    · obtain rfl : r = R := by omega
      have hnl : ¬ ((r : Int) < (r : Int)) := Int.lt_irrefl _
      clear hlt hr ht
      go_wp2_with fail
      refine HKr.out _ _ ?_
      clear HKr
      go_wp2_with fail
      go_ret
      have h := HX.out
      rw [HR.out] at h
      exact ⟨rfl, ⟨X1, h.1, h.2.1, h.2.2.1⟩, h.2.2.2.2⟩
end Go.Proofs.Ytcahfkfafdoilaa
