/- Curve: a point's bytes, there and back. -/
import Derived.Test.YtgmfecncfekjfaaDoorRf3X
import Derived.Test.YtgmfecncfekjfaaDoorFieldS
namespace Go.Proofs.YtgmfecncfekjfaaDoor
open Go Go.RowKit Go.Lib

theorem mul_neg2 {m : Nat} [NeZero m] (a : Fin m) : -a * -a = a * a := by grind
theorem neg_neg2 {m : Nat} [NeZero m] (a : Fin m) : - -a = a := by grind
theorem neg_sq (y : Nat) (hy : y < PP) : mM (sM 0 y) (sM 0 y) = mM y y := toF_inj (mM_lt _ _) (mM_lt _ _) (by rw [toF_mM, toF_mM, sM_neg y hy, mul_neg2])
theorem neg_neg3 (y : Nat) (hy : y < PP) : sM 0 (sM 0 y) = y := toF_inj (sM_lt _ _) hy (by rw [sM_neg _ (sM_lt _ _), sM_neg y hy, neg_neg2])
theorem par_neg (y : Nat) (h0 : y ≠ 0) (hy : y < PP) : sM 0 y % 2 ≠ y % 2 := by
  have e : sM 0 y = PP - y := by
    show subM PP 0 y = _
    rw [subM_zero PP y (by decide) hy, if_neg h0]
  have hp := PPodd
  rw [e]
  omega
theorem ok_iff (x y : Nat) : ptOk x y false = true ↔ x < PP ∧ y < PP ∧ mM y y = sqM x := decide_eq_true_iff
theorem y_ne {x y : Nat} (h : ptOk x y false = true) : y ≠ 0 := fun h0 => by
  have k := (ok_iff x y).1 h
  have e := k.2.2
  unfold sqM at e
  have on := on_iff.2 e
  exact secp.no _ _ on (by rw [h0]; exact toF_0)
theorem even_of {r : Nat} (h : r % 2 = 0) : evenR PP r = r := evenR_even PP r h
theorem odd_of {r : Nat} (h : r % 2 = 1) : evenR PP r = sM 0 r := evenR_odd PP r h
theorem root_facts {x y : Nat} (h : ptOk x y false = true) : (sqM x ^ rootE % PP) * (sqM x ^ rootE % PP) % PP = sqM x ∧ evenR PP (sqM x ^ rootE % PP) = if y % 2 = 0 then y else sM 0 y := by
  have k := (ok_iff x y).1 h
  have h0 := y_ne h
  have hq : sqM x = y * y % PP := k.2.2.symm
  have pn := par_neg y h0 k.2.1
  rw [hq]
  rcases root_of_sq y k.2.1 with e | e
  · rw [e]
    refine ⟨rfl, ?_⟩
    by_cases c : y % 2 = 0
    · rw [if_pos c, even_of c]
    · rw [if_neg c, odd_of (by omega)]
  · have e' : (y * y % PP) ^ rootE % PP = sM 0 y := e
    rw [e']
    refine ⟨neg_sq y k.2.1, ?_⟩
    by_cases c : y % 2 = 0
    · rw [if_pos c, odd_of (by omega), neg_neg3 y k.2.1]
    · rw [if_neg c, even_of (by omega)]
/-- A point's bytes. -/
def encS (a : Pts) : ByteArray := if pI a = true then z33 else encF (if pY a % 2 = 1 then 3 else 2) (pX a)
theorem encS_inf {a : Pts} (h : pI a = true) : encS a = z33 := if_pos h
theorem encS_even {a : Pts} (h : pI a = false) (p : pY a % 2 = 0) : encS a = encF 2 (pX a) := by
  unfold encS
  rw [if_neg (by rw [h]; decide), if_neg (by omega)]
theorem encS_odd {a : Pts} (h : pI a = false) (p : pY a % 2 = 1) : encS a = encF 3 (pX a) := by
  unfold encS
  rw [if_neg (by rw [h]; decide), if_pos p]
theorem enc_C (a : Pts) (w : World) (hG : GlobP w) : Calls Tryd.prog 20 #[.agg #[.int .u64 (limb (pX (a)) 0 : Nat), .int .u64 (limb (pX (a)) 1 : Nat), .int .u64 (limb (pX (a)) 2 : Nat), .int .u64 (limb (pX (a)) 3 : Nat), .int .u64 (limb (pY (a)) 0 : Nat), .int .u64 (limb (pY (a)) 1 : Nat), .int .u64 (limb (pY (a)) 2 : Nat), .int .u64 (limb (pY (a)) 3 : Nat), .bool (pI (a))]] w fun e w' => e = .returned (.tuple #[.string (encS a), .int .i64 0]) ∧ Below w.heap.size w w' := by
  have ok := pts_ok a
  have hx := lt_R (pX_lt a)
  have hy := lt_R (pY_lt a)
  cases hI : pI a with
  | true =>
    rw [hI] at ok
    rw [encS_inf hI]
    exact encode_infC _ _ hx hy ok w hG
  | false =>
    rw [hI] at ok
    rcases (show pY a % 2 = 0 ∨ pY a % 2 = 1 by omega) with p | p
    · rw [encS_even hI p]; exact encode_evenC _ _ hx hy ok p w hG
    · rw [encS_odd hI p]; exact encode_oddC _ _ hx hy ok p w hG
theorem enc_R (a : Pts) (w : World) : Calls Tryd.prog 21 #[.agg #[.int .u64 (limb (pX (a)) 0 : Nat), .int .u64 (limb (pX (a)) 1 : Nat), .int .u64 (limb (pX (a)) 2 : Nat), .int .u64 (limb (pX (a)) 3 : Nat), .int .u64 (limb (pY (a)) 0 : Nat), .int .u64 (limb (pY (a)) 1 : Nat), .int .u64 (limb (pY (a)) 2 : Nat), .int .u64 (limb (pY (a)) 3 : Nat), .bool (pI (a))]] w fun e w' => e = .returned (.tuple #[.string (encS a), .int .i64 0]) ∧ Below w.heap.size w w' := by
  have ok := pts_ok a
  have hx := lt_R (pX_lt a)
  have hy := lt_R (pY_lt a)
  cases hI : pI a with
  | true =>
    rw [hI] at ok
    rw [encS_inf hI]
    exact encode_infR _ _ hx hy ok w
  | false =>
    rw [hI] at ok
    rcases (show pY a % 2 = 0 ∨ pY a % 2 = 1 by omega) with p | p
    · rw [encS_even hI p]; exact encode_evenR _ _ hx hy ok p w
    · rw [encS_odd hI p]; exact encode_oddR _ _ hx hy ok p w
theorem bx {a b : ByteArray} (h : a.data.toList = b.data.toList) : a = b := ByteArray.ext (Array.toList_inj.1 h)
theorem encF_list (c : UInt8) (x : Nat) : (encF c x).data.toList = c :: bytesL x 32 := by
  unfold encF
  simp [ByteArray.data_append]
theorem len_list (s : ByteArray) : s.data.toList.length = s.size := by
  rw [Array.length_toList]; rfl
theorem encF_size (c : UInt8) (x : Nat) : (encF c x).size = 33 := by rw [← len_list, encF_list, List.length_cons, bytesL_length]
theorem ext1_list (s : ByteArray) : (s.extract 1 s.size).data.toList = s.data.toList.drop 1 := by
  simp only [ByteArray.data_extract, Array.toList_extract, List.extract]
  rw [List.take_of_length_le]
  rw [List.length_drop, len_list]
  exact Nat.le_refl _
theorem ext1_size (s : ByteArray) (h : s.size = 33) : (s.extract 1 s.size).size = 32 := by rw [← len_list, ext1_list, List.length_drop, len_list, h]
theorem encF_ext (c : UInt8) (x : Nat) : (encF c x).extract 1 (encF c x).size = ⟨(bytesL x 32).toArray⟩ := bx (by rw [ext1_list, encF_list]; rfl)
theorem sbyte_0 (s : ByteArray) (c : UInt8) (l : List UInt8) (h : s.data.toList = c :: l) : sbyte s 0 = c.toNat := by
  have hs : 0 < s.size := by rw [← len_list, h]; exact Nat.succ_pos _
  rw [← sbyte_eq s 0 hs]
  have e : (s[0]'hs) = c := by
    have : s.data.toList[0]? = some c := by rw [h]; rfl
    rw [Array.getElem?_toList] at this
    have h2 : 0 < s.data.size := hs
    rw [Array.getElem?_eq_getElem h2] at this
    exact Option.some.inj this
  rw [e]
theorem encF_first (c : UInt8) (x : Nat) : sbyte (encF c x) 0 = c.toNat := sbyte_0 _ c _ (encF_list c x)
theorem split33 (s : ByteArray) (h : s.size = 33) (c : UInt8) (hc : sbyte s 0 = c.toNat) : s = encF c (numB (sbyte (s.extract 1 s.size))) := by
  have ht := ext1_size s h
  have tb := text_back _ ht
  have hl : s.data.toList.length = 33 := by rw [len_list]; exact h
  match hs : s.data.toList, hl with
  | x :: l, _ =>
    have e1 := sbyte_0 s x l hs
    have ex : x = c := UInt8.toNat_inj.1 (e1.symm.trans hc)
    refine bx ?_
    rw [encF_list, hs, ex]
    congr 1
    have e2 : (s.extract 1 s.size).data.toList = l := by rw [ext1_list, hs]; rfl
    have tb2 : bytesL (numB (sbyte (s.extract 1 s.size))) 32 = (s.extract 1 s.size).data.toList := congrArg (fun b : ByteArray => b.data.toList) tb
    rw [← e2]
    exact tb2.symm
theorem z33_size : z33.size = 33 := by rw [← len_list]; rfl
theorem z33_byte (j : Nat) (hj : j < 33) : sbyte z33 j = 0 := by
  have hs : j < z33.size := by rw [z33_size]; exact hj
  rw [← sbyte_eq z33 j hs]
  have h2 : j < z33.data.size := hs
  have e : z33.data.toList[j]? = some (0 : UInt8) := by
    show (List.replicate 33 (0 : UInt8))[j]? = _
    rw [List.getElem?_replicate, if_pos hj]
  rw [Array.getElem?_toList, Array.getElem?_eq_getElem h2] at e
  have e3 : (z33[j]'hs) = 0 := Option.some.inj e
  rw [e3]; rfl
theorem all_zero (s : ByteArray) (h : s.size = 33) (hz : ∀ j, j < 33 → sbyte s j = 0) : s = z33 := by
  refine bx (List.ext_getElem? fun j => ?_)
  by_cases c : j < 33
  · have hs : j < s.size := by omega
    have h2 : j < s.data.size := hs
    have e := hz j c
    rw [← sbyte_eq s j hs] at e
    have e2 : (s.data[j]'h2) = 0 := UInt8.toNat_inj.1 e
    rw [Array.getElem?_toList, Array.getElem?_eq_getElem h2, e2]
    show _ = (List.replicate 33 (0 : UInt8))[j]?
    rw [List.getElem?_replicate, if_pos c]
  · rw [List.getElem?_eq_none (by rw [len_list, h]; omega), List.getElem?_eq_none (by rw [len_list, z33_size]; omega)]
/-- What Decode answers to a first byte of 2 or 3. -/
theorem decodeX_P {x y : Nat} (t : ByteArray) (ht : t.size = 32) (hx : x = numB (sbyte t)) (h : ptOk x y false = true) (w : World) (hR : Glob w) :
    (y % 2 = 0 → Calls Tryd.prog 53 #[.string t, .bool false] w fun e w' => e = .returned (.tuple #[.agg #[.int .u64 (limb (x) 0 : Nat), .int .u64 (limb (x) 1 : Nat), .int .u64 (limb (x) 2 : Nat), .int .u64 (limb (x) 3 : Nat), .int .u64 (limb (y) 0 : Nat), .int .u64 (limb (y) 1 : Nat), .int .u64 (limb (y) 2 : Nat), .int .u64 (limb (y) 3 : Nat), .bool (false)], .int .i64 0]) ∧ Below w.heap.size w w') ∧
    (y % 2 = 1 → Calls Tryd.prog 53 #[.string t, .bool true] w fun e w' => e = .returned (.tuple #[.agg #[.int .u64 (limb (x) 0 : Nat), .int .u64 (limb (x) 1 : Nat), .int .u64 (limb (x) 2 : Nat), .int .u64 (limb (x) 3 : Nat), .int .u64 (limb (y) 0 : Nat), .int .u64 (limb (y) 1 : Nat), .int .u64 (limb (y) 2 : Nat), .int .u64 (limb (y) 3 : Nat), .bool (false)], .int .i64 0]) ∧ Below w.heap.size w w') := by
  have k := (ok_iff x y).1 h
  have f := root_facts h
  refine ⟨fun p => ?_, fun p => ?_⟩
  · have e : y = evenR PP (sqM x ^ rootE % PP) := by rw [f.2, if_pos p]
    exact decodeX_even t ht x hx k.1 _ _ rfl rfl f.1 y e w hR
  · have e : sM 0 y = evenR PP (sqM x ^ rootE % PP) := by rw [f.2, if_neg (by omega)]
    exact decodeX_odd t ht x hx k.1 _ _ rfl rfl f.1 (sM 0 y) e (sM_lt _ _) y (neg_neg3 y k.2.1).symm w hR
theorem decC_enc (a : Pts) (w : World) (hR : Glob w) : Calls Tryd.prog 22 #[.string (encS a)] w fun e w' => e = .returned (.tuple #[.agg #[.int .u64 (limb (pX (a)) 0 : Nat), .int .u64 (limb (pX (a)) 1 : Nat), .int .u64 (limb (pX (a)) 2 : Nat), .int .u64 (limb (pX (a)) 3 : Nat), .int .u64 (limb (pY (a)) 0 : Nat), .int .u64 (limb (pY (a)) 1 : Nat), .int .u64 (limb (pY (a)) 2 : Nat), .int .u64 (limb (pY (a)) 3 : Nat), .bool (pI (a))], .int .i64 0]) ∧ Below w.heap.size w w' := by
  have ok := pts_ok a
  cases hI : pI a with
  | true =>
    rw [hI] at ok
    have z := of_decide_eq_true (show decide (pX a = 0 ∧ pY a = 0) = true from ok)
    rw [encS_inf hI, z.1, z.2, lit0.1, lit0.2.1, lit0.2.2.1, lit0.2.2.2]
    exact decode_zeroC z33 z33_size 0 (z33_byte 0 (by decide)) rfl rfl w
  | false =>
    rw [hI] at ok
    have hn : ∀ c : UInt8, pX a = numB (sbyte ((encF c (pX a)).extract 1 (encF c (pX a)).size)) := fun c => by
      rw [encF_ext]
      exact (numB_byteN (pX a) (lt_R (pX_lt a)) _ (text_byte (pX a))).symm
    rcases (show pY a % 2 = 0 ∨ pY a % 2 = 1 by omega) with p | p
    · rw [encS_even hI p]
      exact decode_2C _ (encF_size _ _) (encF_first _ _) _ _ _ _ (fun w h => (decodeX_P _ (ext1_size _ (encF_size _ _)) (hn 2) ok w h).1 p) w hR
    · rw [encS_odd hI p]
      exact decode_3C _ (encF_size _ _) (encF_first _ _) _ _ _ _ (fun w h => (decodeX_P _ (ext1_size _ (encF_size _ _)) (hn 3) ok w h).2 p) w hR
def DecB (s : ByteArray) : Prop := ∃ (X Y : Nat) (I : Bool) (E : Int), (∀ w, Glob w → Calls Tryd.prog 22 #[.string s] w fun e w' => e = .returned (.tuple #[.agg #[.int .u64 (limb (X) 0 : Nat), .int .u64 (limb (X) 1 : Nat), .int .u64 (limb (X) 2 : Nat), .int .u64 (limb (X) 3 : Nat), .int .u64 (limb (Y) 0 : Nat), .int .u64 (limb (Y) 1 : Nat), .int .u64 (limb (Y) 2 : Nat), .int .u64 (limb (Y) 3 : Nat), .bool (I)], .int .i64 E]) ∧ Below w.heap.size w w') ∧ (∀ w, Calls Tryd.prog 23 #[.string s] w fun e w' => e = .returned (.tuple #[.agg #[.int .u64 (limb (X) 0 : Nat), .int .u64 (limb (X) 1 : Nat), .int .u64 (limb (X) 2 : Nat), .int .u64 (limb (X) 3 : Nat), .int .u64 (limb (Y) 0 : Nat), .int .u64 (limb (Y) 1 : Nat), .int .u64 (limb (Y) 2 : Nat), .int .u64 (limb (Y) 3 : Nat), .bool (I)], .int .i64 E]) ∧ Below w.heap.size w w') ∧ (E = 0 → ∃ a : Pts, X = pX a ∧ Y = pY a ∧ I = pI a ∧ encS a = s)
theorem decB_err {s : ByteArray} (E : Int) (h0 : E ≠ 0) (k1 : ∀ w, Glob w → Calls Tryd.prog 22 #[.string s] w fun e w' => e = .returned (.tuple #[.agg #[.int .u64 0, .int .u64 0, .int .u64 0, .int .u64 0, .int .u64 0, .int .u64 0, .int .u64 0, .int .u64 0, .bool false], .int .i64 E]) ∧ Below w.heap.size w w') (k2 : ∀ w, Calls Tryd.prog 23 #[.string s] w fun e w' => e = .returned (.tuple #[.agg #[.int .u64 0, .int .u64 0, .int .u64 0, .int .u64 0, .int .u64 0, .int .u64 0, .int .u64 0, .int .u64 0, .bool false], .int .i64 E]) ∧ Below w.heap.size w w') : DecB s := by
  refine ⟨0, 0, false, E, fun w h => ?_, fun w => ?_, fun c => absurd c h0⟩
  · rw [lit0.1, lit0.2.1, lit0.2.2.1, lit0.2.2.2]; exact k1 w h
  · rw [lit0.1, lit0.2.1, lit0.2.2.1, lit0.2.2.2]; exact k2 w
theorem dec_x (s : ByteArray) (hs : s.size = 33) (hc : sbyte s 0 = 2 ∨ sbyte s 0 = 3) : DecB s := by
  have ht := ext1_size s hs
  obtain ⟨n, hn⟩ : ∃ n, n = numB (sbyte (s.extract 1 s.size)) := ⟨_, rfl⟩
  have lim : ∀ E : Int, E ≠ 0 → (∀ odd w, Glob w → Calls Tryd.prog 53 #[.string (s.extract 1 s.size), .bool odd] w fun e w' => e = .returned (.tuple #[.agg #[.int .u64 0, .int .u64 0, .int .u64 0, .int .u64 0, .int .u64 0, .int .u64 0, .int .u64 0, .int .u64 0, .bool false], .int .i64 E]) ∧ Below w.heap.size w w') → (∀ w, Calls Tryd.prog 23 #[.string s] w fun e w' => e = .returned (.tuple #[.agg #[.int .u64 0, .int .u64 0, .int .u64 0, .int .u64 0, .int .u64 0, .int .u64 0, .int .u64 0, .int .u64 0, .bool false], .int .i64 E]) ∧ Below w.heap.size w w') → DecB s := fun E h0 kx k2 => by
    have kx' : ∀ odd w, Glob w → Calls Tryd.prog 53 #[.string (s.extract 1 s.size), .bool odd] w fun e w' => e = .returned (.tuple #[.agg #[.int .u64 (limb (0) 0 : Nat), .int .u64 (limb (0) 1 : Nat), .int .u64 (limb (0) 2 : Nat), .int .u64 (limb (0) 3 : Nat), .int .u64 (limb (0) 0 : Nat), .int .u64 (limb (0) 1 : Nat), .int .u64 (limb (0) 2 : Nat), .int .u64 (limb (0) 3 : Nat), .bool (false)], .int .i64 E]) ∧ Below w.heap.size w w' := fun odd w h => by
      rw [lit0.1, lit0.2.1, lit0.2.2.1, lit0.2.2.2]; exact kx odd w h
    refine ⟨0, 0, false, E, fun w h => ?_, fun w => ?_, fun c => absurd c h0⟩
    · rcases hc with c | c
      · exact decode_2C s hs c 0 0 false E (kx' false) w h
      · exact decode_3C s hs c 0 0 false E (kx' true) w h
    · rw [lit0.1, lit0.2.1, lit0.2.2.1, lit0.2.2.2]; exact k2 w
  by_cases h1 : n < PP
  · by_cases h2 : (sqM n ^ rootE % PP) * (sqM n ^ rootE % PP) % PP = sqM n
    · obtain ⟨y, hy⟩ : ∃ y, y = evenR PP (sqM n ^ rootE % PP) := ⟨_, rfl⟩
      have lr : sqM n ^ rootE % PP < PP := Nat.mod_lt _ PPpos
      have ye : y % 2 = 0 := by rw [hy]; exact evenR_is_even _ lr
      have ly : y < PP := by
        rw [hy]
        rcases evenR_cases PP (sqM n ^ rootE % PP) with e | e
        · rw [e]; exact lr
        · rw [e]; exact sM_lt 0 _
      have on : mM y y = sqM n := by
        rcases evenR_cases PP (sqM n ^ rootE % PP) with e | e
        · rw [hy, e]; exact h2
        · rw [hy, e]
          exact (neg_sq _ lr).trans h2
      have ok : ptOk n y false = true := (ok_iff n y).2 ⟨h1, ly, on⟩
      rcases hc with c | c
      · obtain ⟨a, ex, ey, ei⟩ := pts_of ok
        refine ⟨n, y, false, 0, fun w h => decode_2C s hs c n y false 0 (fun w h => decodeX_even _ ht n hn h1 _ _ rfl rfl h2 y hy w h) w h, fun w => decode_2R s hs c ht n hn h1 _ _ rfl rfl h2 y hy w, fun _ => ⟨a, ex, ey, ei, ?_⟩⟩
        rw [encS_even ei.symm (by rw [← ey]; exact ye), ← ex, hn]
        exact (split33 s hs 2 c).symm
      · have oz : mM (sM 0 y) (sM 0 y) = sqM n := (neg_sq y ly).trans on
        have ok2 : ptOk n (sM 0 y) false = true := (ok_iff n _).2 ⟨h1, sM_lt _ _, oz⟩
        obtain ⟨a, ex, ey, ei⟩ := pts_of ok2
        have po := par_neg y (y_ne ok) ly
        refine ⟨n, sM 0 y, false, 0, fun w h => decode_3C s hs c n (sM 0 y) false 0 (fun w h => decodeX_odd _ ht n hn h1 _ _ rfl rfl h2 y hy ly _ rfl w h) w h, fun w => decode_3R s hs c ht n hn h1 _ _ rfl rfl h2 y hy ly _ rfl w, fun _ => ⟨a, ex, ey, ei, ?_⟩⟩
        rw [encS_odd ei.symm (by rw [← ey]; omega), ← ex, hn]
        exact (split33 s hs 3 c).symm
    · refine lim 30 (by decide) (fun odd w h => decodeX_curve _ odd ht n hn h1 _ _ rfl rfl h2 w h) (fun w => ?_)
      rcases hc with c | c
      · exact decode_curveR2 s hs c ht n hn h1 _ _ rfl rfl h2 w
      · exact decode_curveR3 s hs c ht n hn h1 _ _ rfl rfl h2 w
  · refine lim 20 (by decide) (fun odd w h => decodeX_range _ odd ht n hn h1 w h) (fun w => ?_)
    rcases hc with c | c
    · exact decode_rangeR2 s hs c ht n hn h1 w
    · exact decode_rangeR3 s hs c ht n hn h1 w
theorem dec_both (s : ByteArray) : DecB s := by
  by_cases hs : s.size = 33
  · by_cases c0 : sbyte s 0 = 0
    · by_cases hz : ∀ j, j < 33 → sbyte s j = 0
      · have e := all_zero s hs hz
        refine ⟨pX gr.z, pY gr.z, pI gr.z, 0, fun w h => ?_, fun w => ?_, fun _ => ⟨gr.z, rfl, rfl, rfl, ?_⟩⟩
        · rw [pX_none gr_z_val, pY_none gr_z_val, pI_none gr_z_val, lit0.1, lit0.2.1, lit0.2.2.1, lit0.2.2.2]
          exact decode_zeroC s hs 0 c0 rfl e w
        · rw [pX_none gr_z_val, pY_none gr_z_val, pI_none gr_z_val, lit0.1, lit0.2.1, lit0.2.2.1, lit0.2.2.2]
          exact decode_zeroR s hs hz w
        · rw [encS_inf (pI_none gr_z_val)]; exact e.symm
      · have hz' : ∃ j, j < 33 ∧ sbyte s j ≠ 0 := Classical.byContradiction fun c => hz fun j hj => Classical.byContradiction fun d => c ⟨j, hj, d⟩
        have ne : s ≠ z33 := fun e => by
          obtain ⟨j, hj, hd⟩ := hz'
          exact hd (by rw [e]; exact z33_byte j hj)
        exact decB_err 4 (by decide) (fun w _ => decode_mixC s hs 0 c0 rfl ne w) (fun w => decode_mixR s hs c0 hz' w)
    · by_cases c2 : sbyte s 0 = 2 ∨ sbyte s 0 = 3
      · exact dec_x s hs c2
      · have h : sbyte s 0 ≠ 0 ∧ sbyte s 0 ≠ 2 ∧ sbyte s 0 ≠ 3 := ⟨c0, fun c => c2 (.inl c), fun c => c2 (.inr c)⟩
        exact decB_err 4 (by decide) (fun w _ => decode_formC s hs _ rfl h w) (fun w => decode_formR s hs _ rfl h w)
  · exact decB_err 4 (by decide) (fun w _ => decode_lenC s hs w) (fun w => decode_lenR s hs w)
end Go.Proofs.YtgmfecncfekjfaaDoor
