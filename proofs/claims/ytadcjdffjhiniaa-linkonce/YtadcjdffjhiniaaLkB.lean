/- Package link: letters are packed and unpacked; an end that takes. -/
import Derived.Test.YtadcjdffjhiniaaLkA
namespace Go.Proofs.Ytadcjdffjhiniaa
open Go Go.RowKit Go.Lib

theorem run_append_none {P : Program} (w : World) (t ty e : TypeId) (i : TypeInfo) (ht : P.underlying t = some (.slice e)) (hi : P.info? e = some i) (b o n cap : Nat) (hcap : n ≤ cap) :
    (Builtin.append_ #[t, t] ty #[.slice (some ⟨b, o, none⟩) n cap, .slice none 0 0]).run P w = .ok (.slice (some ⟨b, o, none⟩) n cap) w := by
  simp [Builtin.append_, run_underlying ht, sizeOf, typeInfo, hi, Builtin.lenOf, hcap, Builtin.firstCells, Addr.add_lit, storeCells]
theorem wpList_append_none {P : Program} (w : World) {ops : Array Oper} {rest : List Oper} {o : Oper} {a : Act} {Q : Exit → Act → World → Prop} (hgd : o.guard = none)
    (sl x : Operand) (t : TypeId) (hop : o.op = Op.call { callee := Callee.builtin Builtin.append, args := #[sl, x], argTypes := #[t, t] })
    (e : TypeId) (i : TypeInfo) (ht : P.underlying t = some (.slice e)) (hi : P.info? e = some i) (b off n cap : Nat) (hs : a.eval sl = .slice (some ⟨b, off, none⟩) n cap) (hcap : n ≤ cap) (hx : a.eval x = .slice none 0 0)
    (hK : wpList P ops Q rest (a.put o.dst (.slice (some ⟨b, off, none⟩) n cap)) w) : wpList P ops Q (o :: rest) a w := by
  refine wpList_plain hgd fun K hK' => ?_
  have hr := run_append_none (P := P) w t o.type e i ht hi b off n cap hcap
  unfold Oper.wp
  simp [execOp, hop, resolve, invoke, builtin, hs, hx, hr, Result.andThen]
  exact hK' _ _ hK
theorem RowV.pair (s t : ByteArray) (w : World) (y : TypeId) (F : Nat → Prop) (hF : F w.heap.size) : RowV (w.alloc (.cells #[.string s, .string t] y)) F (some ⟨w.heap.size, 0, none⟩) [.string s, .string t] 2 := by
  refine .inr ⟨w.heap.size, 0, rfl, hF, by simp, by simp, by decide, fun j u hj => ?_, fun j hj => ?_, fun j => by simp [go_sem]⟩
  · match j, hj with
    | 0, hj => simp at hj; subst hj; simp [go_sem]
    | 1, hj => simp at hj; subst hj; simp [go_sem]
    | j + 2, hj => simp at hj
  · match j, hj with
    | 0, _ => simp [go_sem]
    | 1, _ => simp [go_sem]
theorem RowV.strs {w : World} {F : Nat → Prop} {a : Option Addr} {l : List ByteArray} {cap : Nat} (h : RowV w F a (l.map Value.string) cap) : Strs w a l := fun j s hj => by
  obtain ⟨b, o, h1, h2, h3, -⟩ := h.get (j := j) (u := .string s) (by rw [List.getElem?_map, hj]; rfl)
  exact ⟨b, o, h1, h2, h3⟩
theorem str_one (s : ByteArray) : ∀ u ∈ [Value.string s], u.oneCell' = true := fun u hu => by simp at hu; subst hu; rfl
theorem let_ok {l n : Nat} {r : List ByteArray} (hs : ∀ s ∈ r, s.size < 140737488351233) : ∀ s ∈ inS [(l : Int)] :: inS [(n : Int)] :: r, s.size < 140737488351233 := fun s hq => by
  have h1 := inS_size l
  have h2 := inS_size n
  simp only [List.mem_cons] at hq
  rcases hq with rfl | rfl | hq
  · omega
  · omega
  · exact hs s hq
set_option maxHeartbeats 1000000 in
theorem lpack_nil (k l n : Nat) (hl : l ≤ 1099511627776) (hn : n ≤ 1099511627776) (w : World) : Calls Try.prog 29 #[.int .i64 (k : Nat), .int .i64 (l : Nat), .int .i64 (n : Nat), .slice none 0 0] w fun e w' => e = .returned (.string (letS k l n [])) ∧ Below w.heap.size w w' := by
  obtain ⟨i0, hi, hz0, hz1, hz2⟩ := infoStr
  have KA : Hid _ := fun w' : World => int_any (l : Nat) (by omega) w'
  have KB : Hid _ := fun w' : World => int_any (n : Nat) (by omega) w'
  have KP : Hid (∀ (w' : World) (a : Option Addr) (cap : Nat), Strs w' a [inS [(l : Int)], inS [(n : Int)]] → Calls Try.prog 40 #[.int .i64 (k : Nat), .slice a 2 cap] w' fun e w'' => e = .returned (.tuple #[.string (letS k l n []), .int .i64 (pkE (k : Nat) [inS [(l : Int)], inS [(n : Int)]])]) ∧ Below w'.heap.size w' w'') := fun w' a cap h =>
    pack_any (k : Nat) a [inS [(l : Int)], inS [(n : Int)]] cap w' h (let_ok (r := []) (by simp))
  obtain ⟨A, hA⟩ : ∃ A, A = inS [(l : Int)] := ⟨_, rfl⟩
  obtain ⟨B, hB⟩ : ∃ B, B = inS [(n : Int)] := ⟨_, rfl⟩
  obtain ⟨L, hL⟩ : ∃ L, L = letS k l n [] := ⟨_, rfl⟩
  obtain ⟨E, hE⟩ : ∃ E, E = pkE (k : Nat) [inS [(l : Int)], inS [(n : Int)]] := ⟨_, rfl⟩
  rw [← hL, ← hE] at KP
  rw [← hL]
  rw [← hA, ← hB] at KP
  rw [← hA] at KA
  rw [← hB] at KB
  have hsz : ∀ w, (Go.sizeOf 9).run Try.prog w = .ok 1 w := fun _ => by kernel_rfl
  clear hA hB hL hE
  go_enter Try.func29, Try.ntmps29
  go_wp2_with fail
  refine (KA.out _).mono ?_
  rintro e w1 ⟨rfl, hb1⟩
  go_wp2_with fail
  refine (KB.out _).mono ?_
  rintro e w2 ⟨rfl, hb2⟩
  have H2 : Hid (Below w.heap.size w w2) := below_call0 hb1 hb2
  clear hb1 hb2 KA KB
  go_wp2_with (at_builtin; refine wpList_append_none _ rfl _ _ 29 rfl 9 i0 Try.underlying29 hi _ _ 2 2 rfl (by decide) rfl ?_)
  refine (KP.out _ _ _ (Strs.pair A B w2 _)).mono ?_
  rintro e w3 ⟨rfl, hb3⟩
  have H3 : Hid (Below w.heap.size w w3) := below_call0 (below_alloc0 H2.out _) hb3
  clear hb3 KP
  go_wp2_with fail
  go_ret
  exact ⟨rfl, H3.out⟩
set_option maxHeartbeats 1000000 in
theorem lpack_one (k l n : Nat) (hl : l ≤ 1099511627776) (hn : n ≤ 1099511627776) (t : ByteArray) (ht : t.size < 140737488351233) (p o : Nat) (w : World) (hp : p < w.heap.size) (hc : w.cell? ⟨p, o, none⟩ = some (.string t)) : Calls Try.prog 29 #[.int .i64 (k : Nat), .int .i64 (l : Nat), .int .i64 (n : Nat), .slice (some ⟨p, o, none⟩) 1 1] w fun e w' => e = .returned (.string (letS k l n [t])) ∧ Below w.heap.size w w' := by
  obtain ⟨i0, hi, hz0, hz1, hz2⟩ := infoStr
  have KA : Hid _ := fun w' : World => int_any (l : Nat) (by omega) w'
  have KB : Hid _ := fun w' : World => int_any (n : Nat) (by omega) w'
  have KP : Hid (∀ (w' : World) (a : Option Addr) (cap m : Nat), m = 2 + 1 → Strs w' a [inS [(l : Int)], inS [(n : Int)], t] → Calls Try.prog 40 #[.int .i64 (k : Nat), .slice a m cap] w' fun e w'' => e = .returned (.tuple #[.string (letS k l n [t]), .int .i64 (pkE (k : Nat) [inS [(l : Int)], inS [(n : Int)], t])]) ∧ Below w'.heap.size w' w'') := fun w' a cap m hm h => by
    subst hm
    exact pack_any (k : Nat) a [inS [(l : Int)], inS [(n : Int)], t] cap w' h (let_ok (r := [t]) (fun s hs => by simp at hs; subst hs; exact ht))
  obtain ⟨A, hA⟩ : ∃ A, A = inS [(l : Int)] := ⟨_, rfl⟩
  obtain ⟨B, hB⟩ : ∃ B, B = inS [(n : Int)] := ⟨_, rfl⟩
  obtain ⟨L, hL⟩ : ∃ L, L = letS k l n [t] := ⟨_, rfl⟩
  obtain ⟨E, hE⟩ : ∃ E, E = pkE (k : Nat) [inS [(l : Int)], inS [(n : Int)], t] := ⟨_, rfl⟩
  rw [← hL, ← hE] at KP
  rw [← hL]
  rw [← hA, ← hB] at KP
  rw [← hA] at KA
  rw [← hB] at KB
  have hsz : ∀ w, (Go.sizeOf 9).run Try.prog w = .ok 1 w := fun _ => by kernel_rfl
  clear hA hB hL hE
  go_enter Try.func29, Try.ntmps29
  go_wp2_with fail
  refine (KA.out _).mono ?_
  rintro e w1 ⟨rfl, hb1⟩
  go_wp2_with fail
  refine (KB.out _).mono ?_
  rintro e w2 ⟨rfl, hb2⟩
  have H2 : Hid (Below w.heap.size w w2) := below_call0 hb1 hb2
  have HC : Hid ((w2.alloc (.cells #[.string A, .string B] 9)).cell? ⟨p, o, none⟩ = some (.string t)) := ((below_alloc0 H2.out _).cell (p := ⟨p, o, none⟩) hp).trans hc
  have HR : Hid (RowV (w2.alloc (.cells #[.string A, .string B] 9)) (From w.heap.size) (some ⟨w2.heap.size, 0, none⟩) [.string A, .string B] 2) := RowV.pair A B w2 _ _ H2.out.size
  clear hb1 hb2 KA KB
  go_wp2_with (at_builtin; refine wpList_append_RowV _ rfl _ _ 29 rfl (From w.heap.size) 9 i0 (.string ⟨#[]⟩) 16 Try.underlying29 hi hz0 rfl hz1 hz2 _ 2 2 _ [.string t] rfl rfl HR.out (by unfold maxLen; simp) (by simp) (fun k' hk' => Nat.le_trans (Nat.le_trans H2.out.size (by simp)) hk') ⟨p, o, none⟩ 1 1 rfl rfl (fun j u hj => by
      match j, hj with
      | 0, hj => simp at hj; subst hj; rw [Addr.add_lit]; exact HC.out
      | j + 1, hj => simp at hj) (str_one t) ?_; intro a3 m3 c3 w3 hm3 hR3 hb3; have H3 : Hid (_ ∧ _ ∧ _) := ⟨hm3, hR3, hb3⟩; clear hm3 hR3 hb3)
  refine (KP.out _ _ _ _ H3.out.1 (RowV.strs (l := [A, B, t]) H3.out.2.1)).mono ?_
  rintro e w4 ⟨rfl, hb4⟩
  have H4 : Hid (Below w.heap.size w w4) := by
    have h := H3.out.2.2
    refine (below_alloc0 H2.out _).trans (Below.trans ⟨h.os, h.tape, h.output, h.size, fun k' hk' => h.block k' (not_from hk')⟩ (hb4.mono (Nat.le_trans (below_alloc0 H2.out (.cells #[.string A, .string B] 9)).size h.size)))
  clear hb4 KP
  go_wp2_with fail
  go_ret
  exact ⟨rfl, H4.out⟩
end Go.Proofs.Ytadcjdffjhiniaa
