/- The law LinkOnce: its memory. -/
import Derived.Test.YtadcjdffjhiniaaLkV
namespace Go.Proofs.Ytadcjdffjhiniaa
open Go Go.RowKit Go.Lib

theorem infoSl : ∃ i, Try.prog.info? 29 = some i ∧ i.zero = some (.slice none 0 0) ∧ i.size = 1 ∧ i.bytes = 24 := by
  have h : (Try.prog.info? 29).map (fun i => (i.zero, i.size, i.bytes)) = some (some (.slice none 0 0), 1, 24) := by kernel_rfl
  cases e : Try.prog.info? 29 with
  | none => rw [e] at h; cases h
  | some i =>
    rw [e] at h
    simp only [Option.map_some, Option.some.injEq, Prod.mk.injEq] at h
    exact ⟨i, rfl, h.1, h.2.1, h.2.2⟩
/-- The law's memory. -/
def Mem (w wr : World) (c : Nat → Nat) (T G lf last : Nat) (t : List ByteArray) (P K : List (List ByteArray)) (F A : List ByteArray) (tl tc : Nat) (ap ak al aa : Option Addr) (cp ck cl ca : Nat) : Prop :=
  Snd wr c 1 11 G lf last t ∧ Tkr wr c 15 T tl tc ∧ Tab wr c 5 100 ap cp P ∧ Tab wr c 6 101 ak ck K ∧ Row wr c 7 al (F.map Value.string) cl ∧ Row wr c 8 aa (A.map Value.string) ca ∧ (∀ k, k < w.heap.size → k < wr.heap.size ∧ c k = 0) ∧ Below w.heap.size w wr
theorem Mem.call {w wr : World} {c : Nat → Nat} {T G lf last : Nat} {t : List ByteArray} {P K : List (List ByteArray)} {F A : List ByteArray} {tl tc : Nat} {ap ak al aa : Option Addr} {cp ck cl ca : Nat} {w' : World} (h : Mem w wr c T G lf last t P K F A tl tc ap ak al aa cp ck cl ca) (hb : Below wr.heap.size wr w') : Mem w w' (paint c wr w' 0) T G lf last t P K F A tl tc ap ak al aa cp ck cl ca := by
  obtain ⟨h1, h2, h3, h4, h5, h6, h7, h8⟩ := h
  have hc : Chg wr c 0 0 w' := Chg.of_below hb
  exact ⟨h1.call hb (by decide) (by decide), h2.keep 0 hc (by decide) (by decide), h3.keep 0 hc (by decide) (by decide) (fun i => by omega) (fun i => by omega), h4.keep 0 hc (by decide) (by decide) (fun i => by omega) (fun i => by omega), h5.keep 0 hc (by decide) (by decide), h6.keep 0 hc (by decide) (by decide), zero_paint h7 hb.size, below_call0 h8 hb⟩
theorem Mem.snd {w wr : World} {c : Nat → Nat} {T G lf last : Nat} {t : List ByteArray} {P K : List (List ByteArray)} {F A : List ByteArray} {tl tc : Nat} {ap ak al aa : Option Addr} {cp ck cl ca : Nat} {w' : World} {last' : Nat} {t' : List ByteArray} (h : Mem w wr c T G lf last t P K F A tl tc ap ak al aa cp ck cl ca) (hc : Chg wr c 1 11 w') (hS : Snd w' (paint c wr w' 1) 1 11 G lf last' t') : Mem w w' (paint c wr w' 1) T G lf last' t' P K F A tl tc ap ak al aa cp ck cl ca := by
  obtain ⟨h1, h2, h3, h4, h5, h6, h7, h8⟩ := h
  exact ⟨hS, h2.keep 1 hc (by decide) (by decide), h3.keep 1 hc (by decide) (by decide) (fun i => by omega) (fun i => by omega), h4.keep 1 hc (by decide) (by decide) (fun i => by omega) (fun i => by omega), h5.keep 1 hc (by decide) (by decide), h6.keep 1 hc (by decide) (by decide), zero_paint h7 (Off.size hc), h8.trans (hc.under h7 (by decide) (by decide))⟩
theorem Mem.tkr {w wr : World} {c : Nat → Nat} {T G lf last : Nat} {t : List ByteArray} {P K : List (List ByteArray)} {F A : List ByteArray} {tl tc : Nat} {ap ak al aa : Option Addr} {cp ck cl ca : Nat} {w' : World} {tl' tc' : Nat} (h : Mem w wr c T G lf last t P K F A tl tc ap ak al aa cp ck cl ca) (hb : But T (From wr.heap.size) wr w') (hT : TakerAt w' T tl' tc') : Mem w w' (paint c wr w' 0) T G lf last t P K F A tl' tc' ap ak al aa cp ck cl ca := by
  obtain ⟨h1, h2, h3, h4, h5, h6, h7, h8⟩ := h
  have hc := h2.chg hb
  exact ⟨h1.keepx 0 hc (by decide) (by decide) (by decide) (by decide), ⟨by rw [paint_old h2.2.2.2.2]; exact h2.1, hT⟩, h3.keep 0 hc (by decide) (by decide) (fun i => by omega) (fun i => by omega), h4.keep 0 hc (by decide) (by decide) (fun i => by omega) (fun i => by omega), h5.keep 0 hc (by decide) (by decide), h6.keep 0 hc (by decide) (by decide), zero_paint h7 (Off.size hc), h8.trans (hc.under h7 (by decide) (by decide))⟩
theorem Mem.row7 {w wr : World} {c : Nat → Nat} {T G lf last : Nat} {t : List ByteArray} {P K : List (List ByteArray)} {F A : List ByteArray} {tl tc : Nat} {ap ak al aa : Option Addr} {cp ck cl ca : Nat} {w' : World} {al' : Option Addr} {cl' : Nat} {F' : List ByteArray} (h : Mem w wr c T G lf last t P K F A tl tc ap ak al aa cp ck cl ca) (hc : Chg wr c 7 7 w') (hR : Row w' (paint c wr w' 7) 7 al' (F'.map Value.string) cl') : Mem w w' (paint c wr w' 7) T G lf last t P K F' A tl tc ap ak al' aa cp ck cl' ca := by
  obtain ⟨h1, h2, h3, h4, h5, h6, h7, h8⟩ := h
  exact ⟨h1.keepx 7 hc (by decide) (by decide) (by decide) (by decide), h2.keep 7 hc (by decide) (by decide), h3.keep 7 hc (by decide) (by decide) (fun i => by omega) (fun i => by omega), h4.keep 7 hc (by decide) (by decide) (fun i => by omega) (fun i => by omega), hR, h6.keep 7 hc (by decide) (by decide), zero_paint h7 (Off.size hc), h8.trans (hc.under h7 (by decide) (by decide))⟩
theorem Mem.row8 {w wr : World} {c : Nat → Nat} {T G lf last : Nat} {t : List ByteArray} {P K : List (List ByteArray)} {F A : List ByteArray} {tl tc : Nat} {ap ak al aa : Option Addr} {cp ck cl ca : Nat} {w' : World} {aa' : Option Addr} {ca' : Nat} {A' : List ByteArray} (h : Mem w wr c T G lf last t P K F A tl tc ap ak al aa cp ck cl ca) (hc : Chg wr c 8 8 w') (hR : Row w' (paint c wr w' 8) 8 aa' (A'.map Value.string) ca') : Mem w w' (paint c wr w' 8) T G lf last t P K F A' tl tc ap ak al aa' cp ck cl ca' := by
  obtain ⟨h1, h2, h3, h4, h5, h6, h7, h8⟩ := h
  exact ⟨h1.keepx 8 hc (by decide) (by decide) (by decide) (by decide), h2.keep 8 hc (by decide) (by decide), h3.keep 8 hc (by decide) (by decide) (fun i => by omega) (fun i => by omega), h4.keep 8 hc (by decide) (by decide) (fun i => by omega) (fun i => by omega), h5.keep 8 hc (by decide) (by decide), hR, zero_paint h7 (Off.size hc), h8.trans (hc.under h7 (by decide) (by decide))⟩
theorem Mem.put5 {w wr : World} {c : Nat → Nat} {T G lf last : Nat} {t : List ByteArray} {P K : List (List ByteArray)} {F A : List ByteArray} {tl tc : Nat} {ak al aa : Option Addr} {cp ck cl ca : Nat} {w8 : World} {tb to i : Nat} {y : List ByteArray} {a8 : Option Addr} {c8 : Nat} (h : Mem w wr c T G lf last t P K F A tl tc (some ⟨tb, to, none⟩) ak al aa cp ck cl ca) (hi : i < P.length) (hc : Chg wr c (100 + 2 * i) (100 + 2 * i) w8) (hR : Row w8 (paint c wr w8 (100 + 2 * i)) (100 + 2 * i) a8 (y.map Value.string) c8) :
    Mem w (w8.setCell ⟨tb, to + i, none⟩ (.slice a8 y.length c8)) (paint c wr w8 (100 + 2 * i)) T G lf last t (P.set i y) K F A tl tc (some ⟨tb, to, none⟩) ak al aa cp ck cl ca := by
  obtain ⟨h1, h2, h3, h4, h5, h6, h7, h8⟩ := h
  obtain ⟨g1, g2⟩ := h3.put hi hc hR (fun j => by omega)
  have hz : (w8.setCell ⟨tb, to + i, none⟩ (.slice a8 y.length c8)).heap.size = w8.heap.size := World.size_setCell ..
  have e := paint_same (c := paint c wr w8 (100 + 2 * i)) (x := 0) hz
  refine ⟨?_, ?_, g1, ?_, ?_, ?_, ?_, ?_⟩
  · have := (h1.keepx (100 + 2 * i) hc (by omega) (by omega) (by omega) (by omega)).keepx 0 g2 (by decide) (by decide) (by decide) (by decide); rwa [e] at this
  · have := (h2.keep (100 + 2 * i) hc (by omega) (by omega)).keep 0 g2 (by decide) (by decide); rwa [e] at this
  · have := (h4.keep (100 + 2 * i) hc (by omega) (by omega) (fun j => by omega) (fun j => by omega)).keep 0 g2 (by decide) (by decide) (fun j => by omega) (fun j => by omega); rwa [e] at this
  · have := (h5.keep (100 + 2 * i) hc (by omega) (by omega)).keep 0 g2 (by decide) (by decide); rwa [e] at this
  · have := (h6.keep (100 + 2 * i) hc (by omega) (by omega)).keep 0 g2 (by decide) (by decide); rwa [e] at this
  · have := zero_paint (i := 0) (zero_paint (i := 100 + 2 * i) h7 (Off.size hc)) (Off.size g2); rwa [e] at this
  · exact (h8.trans (hc.under h7 (by omega) (by omega))).trans (g2.under (zero_paint h7 (Off.size hc)) (by decide) (by decide))
theorem Mem.put6 {w wr : World} {c : Nat → Nat} {T G lf last : Nat} {t : List ByteArray} {P K : List (List ByteArray)} {F A : List ByteArray} {tl tc : Nat} {ap al aa : Option Addr} {cp ck cl ca : Nat} {w8 : World} {tb to i : Nat} {y : List ByteArray} {a8 : Option Addr} {c8 : Nat} (h : Mem w wr c T G lf last t P K F A tl tc ap (some ⟨tb, to, none⟩) al aa cp ck cl ca) (hi : i < K.length) (hc : Chg wr c (101 + 2 * i) (101 + 2 * i) w8) (hR : Row w8 (paint c wr w8 (101 + 2 * i)) (101 + 2 * i) a8 (y.map Value.string) c8) :
    Mem w (w8.setCell ⟨tb, to + i, none⟩ (.slice a8 y.length c8)) (paint c wr w8 (101 + 2 * i)) T G lf last t P (K.set i y) F A tl tc ap (some ⟨tb, to, none⟩) al aa cp ck cl ca := by
  obtain ⟨h1, h2, h3, h4, h5, h6, h7, h8⟩ := h
  obtain ⟨g1, g2⟩ := h4.put hi hc hR (fun j => by omega)
  have hz : (w8.setCell ⟨tb, to + i, none⟩ (.slice a8 y.length c8)).heap.size = w8.heap.size := World.size_setCell ..
  have e := paint_same (c := paint c wr w8 (101 + 2 * i)) (x := 0) hz
  refine ⟨?_, ?_, ?_, g1, ?_, ?_, ?_, ?_⟩
  · have := (h1.keepx (101 + 2 * i) hc (by omega) (by omega) (by omega) (by omega)).keepx 0 g2 (by decide) (by decide) (by decide) (by decide); rwa [e] at this
  · have := (h2.keep (101 + 2 * i) hc (by omega) (by omega)).keep 0 g2 (by decide) (by decide); rwa [e] at this
  · have := (h3.keep (101 + 2 * i) hc (by omega) (by omega) (fun j => by omega) (fun j => by omega)).keep 0 g2 (by decide) (by decide) (fun j => by omega) (fun j => by omega); rwa [e] at this
  · have := (h5.keep (101 + 2 * i) hc (by omega) (by omega)).keep 0 g2 (by decide) (by decide); rwa [e] at this
  · have := (h6.keep (101 + 2 * i) hc (by omega) (by omega)).keep 0 g2 (by decide) (by decide); rwa [e] at this
  · have := zero_paint (i := 0) (zero_paint (i := 101 + 2 * i) h7 (Off.size hc)) (Off.size g2); rwa [e] at this
  · exact (h8.trans (hc.under h7 (by omega) (by omega))).trans (g2.under (zero_paint h7 (Off.size hc)) (by decide) (by decide))
theorem Mem.tab5 {w wr : World} {c : Nat → Nat} {T G lf last : Nat} {t : List ByteArray} {P K : List (List ByteArray)} {F A : List ByteArray} {tl tc : Nat} {ap ak al aa : Option Addr} {cp ck cl ca : Nat} {w' : World} {ap' : Option Addr} {cp' : Nat} {P' : List (List ByteArray)} (h : Mem w wr c T G lf last t P K F A tl tc ap ak al aa cp ck cl ca) (hc : Chg wr c 5 5 w') (hR : Tab w' (paint c wr w' 5) 5 100 ap' cp' P') : Mem w w' (paint c wr w' 5) T G lf last t P' K F A tl tc ap' ak al aa cp' ck cl ca := by
  obtain ⟨h1, h2, h3, h4, h5, h6, h7, h8⟩ := h
  exact ⟨h1.keepx 5 hc (by decide) (by decide) (by decide) (by decide), h2.keep 5 hc (by decide) (by decide), hR, h4.keep 5 hc (by decide) (by decide) (fun i => by omega) (fun i => by omega), h5.keep 5 hc (by decide) (by decide), h6.keep 5 hc (by decide) (by decide), zero_paint h7 (Off.size hc), h8.trans (hc.under h7 (by decide) (by decide))⟩
theorem Mem.tab6 {w wr : World} {c : Nat → Nat} {T G lf last : Nat} {t : List ByteArray} {P K : List (List ByteArray)} {F A : List ByteArray} {tl tc : Nat} {ap ak al aa : Option Addr} {cp ck cl ca : Nat} {w' : World} {ak' : Option Addr} {ck' : Nat} {K' : List (List ByteArray)} (h : Mem w wr c T G lf last t P K F A tl tc ap ak al aa cp ck cl ca) (hc : Chg wr c 6 6 w') (hR : Tab w' (paint c wr w' 6) 6 101 ak' ck' K') : Mem w w' (paint c wr w' 6) T G lf last t P K' F A tl tc ap ak' al aa cp ck' cl ca := by
  obtain ⟨h1, h2, h3, h4, h5, h6, h7, h8⟩ := h
  exact ⟨h1.keepx 6 hc (by decide) (by decide) (by decide) (by decide), h2.keep 6 hc (by decide) (by decide), h3.keep 6 hc (by decide) (by decide) (fun i => by omega) (fun i => by omega), hR, h5.keep 6 hc (by decide) (by decide), h6.keep 6 hc (by decide) (by decide), zero_paint h7 (Off.size hc), h8.trans (hc.under h7 (by decide) (by decide))⟩
theorem Mem.new {w wr : World} {c : Nat → Nat} {T G lf last : Nat} {t : List ByteArray} {P K : List (List ByteArray)} {F A : List ByteArray} {tl tc : Nat} {ap ak al aa : Option Addr} {cp ck cl ca : Nat} {w' : World} {lf' : Nat} (h : Mem w wr c T G lf last t P K F A tl tc ap ak al aa cp ck cl ca) (hb : Below wr.heap.size wr w') (hS : SenderAt w' wr.heap.size (From (wr.heap.size + 1)) lf' 0 []) (hz : w'.heap.size = wr.heap.size + 1) : Mem w w' (paint c wr w' 11) T wr.heap.size lf' 0 [] P K F A tl tc ap ak al aa cp ck cl ca := by
  obtain ⟨h1, h2, h3, h4, h5, h6, h7, h8⟩ := h
  have hc : Chg wr c 11 11 w' := Chg.of_below hb
  have hn : paint c wr w' 11 wr.heap.size = 11 := paint_new (Nat.le_refl _) (by omega)
  refine ⟨⟨hn, by decide, hS.mono (fun q => ?_) (fun k hk => .inr hk) (fun k hk hF => ?_)⟩, h2.keep 11 hc (by decide) (by decide), h3.keep 11 hc (by decide) (by decide) (fun i => by omega) (fun i => by omega), h4.keep 11 hc (by decide) (by decide) (fun i => by omega) (fun i => by omega), h5.keep 11 hc (by decide) (by decide), h6.keep 11 hc (by decide) (by decide), zero_paint h7 hb.size, below_call0 h8 hb⟩
  · rcases q with q | q
    · rw [hn] at q; cases q
    · omega
  · have : wr.heap.size + 1 ≤ k := hF
    omega
/-- The law's state behind k steps, as its variables have it. -/
def OnceS (w wr : World) (T k : Nat) (s3 s6 s7 s8 s9 s10 : Value) : Prop :=
  ∃ (c : Nat → Nat) (G lf gone : Nat) (P K : List (List ByteArray)) (F A : List ByteArray) (tl tc : Nat) (ap ak al aa : Option Addr) (np nk nl na cp ck cl ca : Nat),
    s3 = .pointer (some ⟨G, 0, none⟩) ∧ s6 = .int .i64 (lf : Nat) ∧ s7 = .slice ap np cp ∧ s8 = .slice ak nk ck ∧ s9 = .slice al nl cl ∧ s10 = .slice aa na ca ∧ np = P.length ∧ nk = K.length ∧ nl = F.length ∧ na = A.length ∧
    OInv lf gone P K F A tl tc k ∧ Mem w wr c T G lf (P.getD lf []).length ((P.getD lf []).drop gone) P K F A tl tc ap ak al aa cp ck cl ca
theorem OnceS.mk {w wr : World} {T k : Nat} {c : Nat → Nat} {G lf gone : Nat} {P K : List (List ByteArray)} {F A : List ByteArray} {tl tc : Nat} {ap ak al aa : Option Addr} {np nk nl na cp ck cl ca : Nat} (h1 : np = P.length) (h2 : nk = K.length) (h3 : nl = F.length) (h4 : na = A.length) (hI : OInv lf gone P K F A tl tc k) (hM : Mem w wr c T G lf (P.getD lf []).length ((P.getD lf []).drop gone) P K F A tl tc ap ak al aa cp ck cl ca) :
    OnceS w wr T k (.pointer (some ⟨G, 0, none⟩)) (.int .i64 (lf : Nat)) (.slice ap np cp) (.slice ak nk ck) (.slice al nl cl) (.slice aa na ca) :=
  ⟨c, G, lf, gone, P, K, F, A, tl, tc, ap, ak, al, aa, np, nk, nl, na, cp, ck, cl, ca, rfl, rfl, rfl, rfl, rfl, rfl, h1, h2, h3, h4, hI, hM⟩
def NetsAt (w : World) (p o n : Nat) : Prop :=
  ∀ j, j < n → ∃ (X N : Int) (s : ByteArray), w.cell? ⟨p, o + j * 3, none⟩ = some (.int .i64 X) ∧ w.cell? ⟨p, o + j * 3 + 1, none⟩ = some (.int .i64 N) ∧ w.cell? ⟨p, o + j * 3 + 2, none⟩ = some (.string s) ∧ s.size < 140737488351233 ∧ p < w.heap.size
theorem Tab.first {w w8 : World} {c : Nat → Nat} {t b : Nat} {a8 : Option Addr} {cp : Nat} (hR : Row w8 (paint c w w8 t) t a8 ([] ++ [.slice none 0 0, .slice none 0 0]) cp) : Tab w8 (paint c w w8 t) t b a8 cp [[], []] := by
  refine ⟨_, rfl, hR, fun i x hx => ?_⟩
  match i, hx with
  | 0, hx => simp at hx; subst hx; exact ⟨none, 0, rfl, RowV.nil _ _⟩
  | 1, hx => simp at hx; subst hx; exact ⟨none, 0, rfl, RowV.nil _ _⟩
  | i + 2, hx => simp at hx
end Go.Proofs.Ytadcjdffjhiniaa
