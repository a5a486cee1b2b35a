/- Several texts laid together. -/
import Derived.Test.YtchphekaonnfeaaDoorMgH
namespace Go.Proofs.YtchphekaonnfeaaDoor
section
variable {p : Nat} [NeZero p]

set_option maxHeartbeats 4000000 in
theorem assocX (x1 y1 x2 y2 x3 y3 a b x4 y4 x5 y5 : Fin p)
    (r1 : a * (2 * y1 + a * (x2 - x1)) = x1 ^ 2 + x1 * x2 + x2 ^ 2) (ha : y2 = y1 + a * (x2 - x1)) (hb : y3 = y2 + b * (x3 - x2)) (r2 : b * (2 * y2 + b * (x3 - x2)) = x2 ^ 2 + x2 * x3 + x3 ^ 2)
    (e4 : x4 = a ^ 2 - x1 - x2) (f4 : y4 = a * (x1 - x4) - y1) (e5 : x5 = b ^ 2 - x2 - x3) (f5 : y5 = b * (x2 - x5) - y2) :
    ((y3 - y4) ^ 2 - (x4 + x3) * (x3 - x4) ^ 2) * (x5 - x1) ^ 2 = ((y5 - y1) ^ 2 - (x1 + x5) * (x5 - x1) ^ 2) * (x3 - x4) ^ 2 := by
  subst ha hb e4 f4 e5 f5
  grind
set_option maxHeartbeats 8000000 in
theorem assocY (x1 y1 x2 y2 x3 y3 a b x4 y4 x5 y5 D E N : Fin p)
    (r1 : a * (2 * y1 + a * (x2 - x1)) = x1 ^ 2 + x1 * x2 + x2 ^ 2) (ha : y2 = y1 + a * (x2 - x1)) (hb : y3 = y2 + b * (x3 - x2)) (r2 : b * (2 * y2 + b * (x3 - x2)) = x2 ^ 2 + x2 * x3 + x3 ^ 2)
    (e4 : x4 = a ^ 2 - x1 - x2) (f4 : y4 = a * (x1 - x4) - y1) (e5 : x5 = b ^ 2 - x2 - x3) (f5 : y5 = b * (x2 - x5) - y2)
    (hD : D = x3 - x4) (hE : E = x5 - x1) (hN : N = (y3 - y4) ^ 2 - (x4 + x3) * D ^ 2) :
    ((y3 - y4) * (x3 * D ^ 2 - N) - y3 * D ^ 3) * E = ((y5 - y1) * (x1 * D ^ 2 - N) - y1 * E * D ^ 2) * D := by
  subst hD hE hN ha hb e4 f4 e5 f5
  grind
theorem tanX (a b t x2 c d : Fin p) (K : a * b * t + 3 * x2 ^ 2 + 3 * x2 * t + t ^ 2 = 0) (hc : c * ((b - a) * t) = 3 * (x2 + t) ^ 2) (hd : d * (b - a) = 3 * x2 + 2 * t - a ^ 2 + a * b - b ^ 2) :
    (c ^ 2 - 2 * (x2 + t)) * ((b - a) ^ 2 * t ^ 2) = (d ^ 2 - (a ^ 2 + b ^ 2 - 4 * x2 - 2 * t)) * ((b - a) ^ 2 * t ^ 2) := by
  grind
theorem tanY (a b t x2 u m n x1 x4 y1 : Fin p) (K : a * b * t + 3 * x2 ^ 2 + 3 * x2 * t + t ^ 2 = 0)
    (hu : u = b - a) (hm : m = 3 * (x2 + t) ^ 2) (hn : n = 3 * x2 + 2 * t - a ^ 2 + a * b - b ^ 2) (h1 : x1 = a ^ 2 - 2 * x2 - t) (h4 : x4 = x2 + t) (hy : 2 * y1 = -(a + b) * t + 2 * a * (x1 - x2)) :
    2 * m * (3 * x4 * u ^ 2 * t ^ 2 - m ^ 2) - u ^ 4 * t ^ 4 = t * (2 * n * ((x1 + 2 * x4) * u ^ 2 * t ^ 2 - m ^ 2) - 2 * y1 * u ^ 3 * t ^ 2) := by
  subst hu hm hn h1 h4
  grind
/-- The field and the curve: inverses; 2 is not 0; no point has Y 0. -/
structure Cv (p : Nat) [NeZero p] where
  inv : Fin p → Fin p
  ok : ∀ a, a ≠ 0 → a * inv a = 1
  two : (2 : Fin p) ≠ 0
  B : Fin p
  no : ∀ x y : Fin p, y ^ 2 = x ^ 3 + B → y ≠ 0
theorem Cv.cancel (C : Cv p) {a x y : Fin p} (ha : a ≠ 0) (h : x * a = y * a) : x = y := by
  have h1 := C.ok a ha
  have e : ∀ z : Fin p, z * a * C.inv a = z := fun z => by
    have : z * a * C.inv a = z * (a * C.inv a) := by grind
    rw [this, h1]; grind
  rw [← e x, h, e y]
theorem Cv.zero (C : Cv p) {a b : Fin p} (h : a * b = 0) : a = 0 ∨ b = 0 := by
  by_cases ha : a = 0
  · exact .inl ha
  · refine .inr (C.cancel ha ?_)
    have : b * a = a * b := by grind
    rw [this, h]; grind
theorem Cv.ne (C : Cv p) {a b : Fin p} (ha : a ≠ 0) (hb : b ≠ 0) : a * b ≠ 0 := fun c => (C.zero c).elim ha hb
theorem Cv.sq (C : Cv p) {a : Fin p} (ha : a ≠ 0) : a ^ 2 ≠ 0 := by
  have e : a ^ 2 = a * a := by grind
  rw [e]; exact C.ne ha ha
def Cv.On (C : Cv p) (P : Fin p × Fin p) : Prop := P.2 ^ 2 = P.1 ^ 3 + C.B
def Opp (P Q : Fin p × Fin p) : Prop := P.1 = Q.1 ∧ P.2 + Q.2 = 0
/-- l is the slope of the line through both, or of the tangent. -/
def Lin (P Q : Fin p × Fin p) (l : Fin p) : Prop := Q.2 = P.2 + l * (Q.1 - P.1) ∧ l * (P.2 + Q.2) = P.1 ^ 2 + P.1 * Q.1 + Q.1 ^ 2
def third (P Q : Fin p × Fin p) (l : Fin p) : Fin p × Fin p := (l ^ 2 - P.1 - Q.1, l * (P.1 - (l ^ 2 - P.1 - Q.1)) - P.2)
def Cv.slope (C : Cv p) (P Q : Fin p × Fin p) : Fin p := if P.1 = Q.1 then 3 * P.1 ^ 2 * C.inv (2 * P.2) else (Q.2 - P.2) * C.inv (Q.1 - P.1)
theorem Cv.y_ne (C : Cv p) {P : Fin p × Fin p} (h : C.On P) : P.2 ≠ 0 := C.no P.1 P.2 h
theorem Cv.y2_ne (C : Cv p) {P : Fin p × Fin p} (h : C.On P) : 2 * P.2 ≠ 0 := C.ne C.two (C.y_ne h)
theorem Cv.same (C : Cv p) {P Q : Fin p × Fin p} (hP : C.On P) (hQ : C.On Q) (hx : P.1 = Q.1) (hn : ¬ Opp P Q) : P.2 = Q.2 := by
  obtain ⟨x1, y1⟩ := P
  obtain ⟨x2, y2⟩ := Q
  simp only [Cv.On] at hP hQ hx
  have h : (y1 - y2) * (y1 + y2) = 0 := by grind
  rcases C.zero h with h | h
  · show y1 = y2; grind
  · exact absurd ⟨hx, h⟩ hn
theorem Cv.lin (C : Cv p) {P Q : Fin p × Fin p} (hP : C.On P) (hQ : C.On Q) (hn : ¬ Opp P Q) : Lin P Q (C.slope P Q) := by
  by_cases hx : P.1 = Q.1
  · have hy := C.same hP hQ hx hn
    have h2 := C.ok _ (C.y2_ne hP)
    unfold Cv.slope
    rw [if_pos hx]
    obtain ⟨x1, y1⟩ := P
    obtain ⟨x2, y2⟩ := Q
    simp only at hx hy h2
    subst hx hy
    generalize C.inv (2 * y1) = i at h2
    exact ⟨by show y1 = y1 + 3 * x1 ^ 2 * i * (x1 - x1); grind, by show 3 * x1 ^ 2 * i * (y1 + y1) = x1 ^ 2 + x1 * x1 + x1 ^ 2; grind⟩
  · have hd : Q.1 - P.1 ≠ 0 := fun c => hx (by grind)
    have h2 := C.ok _ hd
    unfold Cv.slope
    rw [if_neg hx]
    obtain ⟨x1, y1⟩ := P
    obtain ⟨x2, y2⟩ := Q
    simp only [Cv.On] at hx hd h2 hP hQ
    generalize C.inv (x2 - x1) = i at h2
    refine ⟨by show y2 = y1 + (y2 - y1) * i * (x2 - x1); grind, ?_⟩
    refine C.cancel hd ?_
    show (y2 - y1) * i * (y1 + y2) * (x2 - x1) = (x1 ^ 2 + x1 * x2 + x2 ^ 2) * (x2 - x1)
    have e : (y2 - y1) * i * (y1 + y2) * (x2 - x1) = (y2 ^ 2 - y1 ^ 2) * ((x2 - x1) * i) := by grind
    rw [e, h2, hP, hQ]
    grind
theorem Cv.uniq (C : Cv p) {P Q : Fin p × Fin p} {l k : Fin p} (h : Lin P Q l) (h' : Lin P Q k) (hn : ¬ Opp P Q) : l = k := by
  obtain ⟨x1, y1⟩ := P
  obtain ⟨x2, y2⟩ := Q
  obtain ⟨a1, a2⟩ := h
  obtain ⟨b1, b2⟩ := h'
  simp only at a1 a2 b1 b2
  by_cases hx : x1 = x2
  · have hy : y1 + y2 ≠ 0 := fun c => hn ⟨hx, c⟩
    exact C.cancel hy (a2.trans b2.symm)
  · have hd : x2 - x1 ≠ 0 := fun c => hx (by grind)
    exact C.cancel hd (by grind)
theorem Cv.third_on (C : Cv p) {P Q : Fin p × Fin p} {l : Fin p} (hP : C.On P) (h : Lin P Q l) : C.On (third P Q l) := by
  obtain ⟨x1, y1⟩ := P
  obtain ⟨x2, y2⟩ := Q
  obtain ⟨a1, a2⟩ := h
  simp only [Cv.On, third] at *
  subst a1
  grind
theorem lin_comm {P Q : Fin p × Fin p} {l : Fin p} (h : Lin P Q l) : Lin Q P l := by
  obtain ⟨x1, y1⟩ := P
  obtain ⟨x2, y2⟩ := Q
  obtain ⟨a1, a2⟩ := h
  simp only [Lin] at *
  exact ⟨by grind, by grind⟩
theorem third_comm {P Q : Fin p × Fin p} {l : Fin p} (h : Lin P Q l) : third P Q l = third Q P l := by
  obtain ⟨x1, y1⟩ := P
  obtain ⟨x2, y2⟩ := Q
  obtain ⟨a1, a2⟩ := h
  simp only [third, Prod.mk.injEq] at *
  exact ⟨by grind, by grind⟩
end
end Go.Proofs.YtchphekaonnfeaaDoor

namespace Go.Proofs.YtchphekaonnfeaaDoor
section
variable {p : Nat} [NeZero p]
def neg (P : Fin p × Fin p) : Fin p × Fin p := (P.1, -P.2)
theorem Cv.neg_on (C : Cv p) {P : Fin p × Fin p} (h : C.On P) : C.On (neg P) := by
  unfold Cv.On neg at *
  simp only
  rw [← h]; grind
theorem opp1 {l x1 y1 x2 x3 y3 : Fin p} (e1 : l ^ 2 - x1 - x2 = x3) (e2 : l * (x1 - (l ^ 2 - x1 - x2)) - y1 = -y3) : y3 = y1 + l * (x3 - x1) := by
  subst e1; grind
theorem opp2 {l x1 y1 x2 y2 x3 y3 : Fin p} (a1 : y2 = y1 + l * (x2 - x1)) (a2 : l * (y1 + y2) = x1 ^ 2 + x1 * x2 + x2 ^ 2) (e1 : l ^ 2 - x1 - x2 = x3) (e3 : y3 = y1 + l * (x3 - x1)) :
    y3 = y2 + l * (x3 - x2) ∧ l * (y2 + y3) = x2 ^ 2 + x2 * x3 + x3 ^ 2 ∧ l ^ 2 - x2 - x3 = x1 ∧ l * (x2 - x1) - y2 = -y1 := by
  subst e3 a1 e1
  exact ⟨by grind, by grind, by grind, by grind⟩
theorem opp3 {l x2 y2 x3 y3 : Fin p} (e : y3 = y2 + l * (x3 - x2)) (c1 : x2 = x3) (c2 : y2 + y3 = 0) : 2 * y2 = 0 := by
  subst c1; grind
/-- What is added to the negative of a third point. -/
theorem Cv.opp_lin (C : Cv p) {P Q R : Fin p × Fin p} {l : Fin p} (hQ : C.On Q) (h : Lin P Q l) (hR : third P Q l = neg R) : Lin Q R l ∧ ¬ Opp Q R ∧ third Q R l = neg P := by
  have hy := C.y2_ne hQ
  obtain ⟨x1, y1⟩ := P
  obtain ⟨x2, y2⟩ := Q
  obtain ⟨x3, y3⟩ := R
  obtain ⟨a1, a2⟩ := h
  simp only [third, neg, Prod.mk.injEq, Lin, Opp] at *
  obtain ⟨e1, e2⟩ := hR
  obtain ⟨g1, g2, g3, g4⟩ := opp2 a1 a2 e1 (opp1 e1 e2)
  refine ⟨⟨g1, g2⟩, fun q => hy (opp3 g1 q.1 q.2), g3, ?_⟩
  rw [g3]; exact g4
theorem algX {c d D E x4 x3 x1 x5 : Fin p} (hX : ((c * D) ^ 2 - (x4 + x3) * D ^ 2) * E ^ 2 = ((d * E) ^ 2 - (x1 + x5) * E ^ 2) * D ^ 2) : (c ^ 2 - x4 - x3) * (D ^ 2 * E ^ 2) = (d ^ 2 - x1 - x5) * (D ^ 2 * E ^ 2) := by grind
theorem algN {c D X x4 x3 : Fin p} (h : X = c ^ 2 - x4 - x3) : (c * D) ^ 2 - (x4 + x3) * D ^ 2 = X * D ^ 2 := by subst h; grind
theorem algY {c d D E X x3 x4 x1 y1 y3 y4 : Fin p} (hY : ((c * D) * (x3 * D ^ 2 - X * D ^ 2) - y3 * D ^ 3) * E = ((d * E) * (x1 * D ^ 2 - X * D ^ 2) - y1 * E * D ^ 2) * D) (k : y3 - y4 = c * D) (eD : x3 - x4 = D) : (c * (x4 - X) - y4) * (D ^ 2 * D * E) = (d * (x1 - X) - y1) * (D ^ 2 * D * E) := by
  have e1 : y4 = y3 - c * D := by rw [← k]; grind
  have e2 : x4 = x3 - D := by rw [← eD]; grind
  subst e1 e2
  clear k eD
  grind
theorem r_of {a x1 y1 x2 y2 : Fin p} (a1 : y2 = y1 + a * (x2 - x1)) (a2 : a * (y1 + y2) = x1 ^ 2 + x1 * x2 + x2 ^ 2) : a * (2 * y1 + a * (x2 - x1)) = x1 ^ 2 + x1 * x2 + x2 ^ 2 := by rw [← a2, a1]; grind
theorem sub_of {a b c : Fin p} (h : a = b + c) : a - b = c := by subst h; grind
theorem sub_ne {a b : Fin p} (h : a ≠ b) : b - a ≠ 0 := fun q => h (by
  have : b = (b - a) + a := by grind
  rw [q] at this
  rw [this]; grind)
/-- The generic case. -/
theorem Cv.gen (C : Cv p) {P Q R S T : Fin p × Fin p} {a b c d : Fin p} (ha : Lin P Q a) (hb : Lin Q R b) (hS : third P Q a = S) (hT : third Q R b = T) (hc : Lin S R c) (hd : Lin P T d)
    (h1 : S.1 ≠ R.1) (h2 : P.1 ≠ T.1) : third S R c = third P T d := by
  obtain ⟨x1, y1⟩ := P
  obtain ⟨x2, y2⟩ := Q
  obtain ⟨x3, y3⟩ := R
  obtain ⟨x4, y4⟩ := S
  obtain ⟨x5, y5⟩ := T
  obtain ⟨a1, a2⟩ := ha
  obtain ⟨b1, b2⟩ := hb
  obtain ⟨c1, _⟩ := hc
  obtain ⟨d1, _⟩ := hd
  simp only [third, Prod.mk.injEq] at *
  obtain ⟨e4, f4⟩ := hS
  obtain ⟨e5, f5⟩ := hT
  rw [e4] at f4
  rw [e5] at f5
  have hX := assocX x1 y1 x2 y2 x3 y3 a b x4 y4 x5 y5 (r_of a1 a2) a1 b1 (r_of b1 b2) e4.symm f4.symm e5.symm f5.symm
  have hY := assocY x1 y1 x2 y2 x3 y3 a b x4 y4 x5 y5 (x3 - x4) (x5 - x1) _ (r_of a1 a2) a1 b1 (r_of b1 b2) e4.symm f4.symm e5.symm f5.symm rfl rfl rfl
  have hD : x3 - x4 ≠ 0 := sub_ne h1
  have hE : x5 - x1 ≠ 0 := sub_ne h2
  have k1 := sub_of c1
  have k2 := sub_of d1
  rw [k1, k2] at hX hY
  have ex : c ^ 2 - x4 - x3 = d ^ 2 - x1 - x5 := C.cancel (C.ne (C.sq hD) (C.sq hE)) (algX hX)
  refine ⟨ex, ?_⟩
  rw [← ex]
  obtain ⟨X, hXX⟩ : ∃ X, X = c ^ 2 - x4 - x3 := ⟨_, rfl⟩
  rw [algN hXX] at hY
  rw [← hXX]
  exact C.cancel (C.ne (C.ne (C.sq hD) hD) hE) (algY hY k1 rfl)
theorem tn1 {a b x2 y2 x4 y4 : Fin p} (n4 : -y4 = y2 + a * (x4 - x2)) (b1 : y4 = y2 + b * (x4 - x2)) : 2 * y2 = -(a + b) * (x4 - x2) ∧ 2 * y4 = (b - a) * (x4 - x2) := by
  have e : y4 = -(y2 + a * (x4 - x2)) := by rw [← n4]; grind
  exact ⟨by grind, by grind⟩
theorem tn2 {a x1 y1 x2 y2 x4 y4 : Fin p} (a1 : y2 = y1 + a * (x2 - x1)) (f4 : a * (x1 - x4) - y1 = y4) : -y4 = y2 + a * (x4 - x2) := by
  subst f4 a1; grind
theorem tn3 {a b x2 y2 x4 y4 : Fin p} (n4 : -y4 = y2 + a * (x4 - x2)) (b2 : b * (y2 + y4) = x2 ^ 2 + x2 * x4 + x4 ^ 2) : a * b * (x4 - x2) + 3 * x2 ^ 2 + 3 * x2 * (x4 - x2) + (x4 - x2) ^ 2 = 0 := by
  have e : y2 + y4 = -(a * (x4 - x2)) := by
    have : y4 = -(y2 + a * (x4 - x2)) := by rw [← n4]; grind
    rw [this]; grind
  rw [e] at b2
  clear e n4
  grind
theorem tn4 {a b d t x1 y1 x2 y2 x5 y5 : Fin p} (q1 : y5 - y1 = d * (x5 - x1)) (f5 : b * (x2 - x5) - y2 = y5) (k2 : 2 * y2 = -(a + b) * t) (a1 : y2 = y1 + a * (x2 - x1)) (g1 : x1 = a ^ 2 - 2 * x2 - t) (g5 : x5 = b ^ 2 - 2 * x2 - t) :
    d * (b - a) * (a + b) = (3 * x2 + 2 * t - a ^ 2 + a * b - b ^ 2) * (a + b) := by
  have e1 : y1 = y2 - a * (x2 - x1) := by rw [a1]; grind
  have e2 : y5 - y1 = -(2 * y2) + b * (x2 - x5) + a * (x2 - x1) := by rw [← f5, e1]; grind
  rw [e2, k2] at q1
  subst g1 g5
  clear e1 e2 a1 f5 k2
  grind
theorem tn5 {a t x1 y1 x2 y2 b : Fin p} (k2 : 2 * y2 = -(a + b) * t) (a1 : y2 = y1 + a * (x2 - x1)) : 2 * y1 = -(a + b) * t + 2 * a * (x1 - x2) := by
  rw [← k2, a1]; grind
theorem tn6 {a x1 x2 x4 : Fin p} (e4 : a ^ 2 - x1 - x2 = x4) : x1 = a ^ 2 - 2 * x2 - (x4 - x2) := by subst e4; grind
theorem tn7 {c d a b t x2 x4 x1 x5 u : Fin p} (h4 : x4 = x2 + t) (g1 : x1 = a ^ 2 - 2 * x2 - t) (g5 : x5 = b ^ 2 - 2 * x2 - t) (hX : (c ^ 2 - 2 * (x2 + t)) * u = (d ^ 2 - (a ^ 2 + b ^ 2 - 4 * x2 - 2 * t)) * u) : (c ^ 2 - x4 - x4) * u = (d ^ 2 - x1 - x5) * u := by
  subst h4 g1 g5
  grind
theorem tn8 {c d t u X x1 x4 y1 y4 : Fin p} (hX : X = c ^ 2 - x4 - x4) (k4 : 2 * y4 = u * t) (hY : 2 * (c * (u * t)) * (3 * x4 * u ^ 2 * t ^ 2 - (c * (u * t)) ^ 2) - u ^ 4 * t ^ 4 = t * (2 * (d * u) * ((x1 + 2 * x4) * u ^ 2 * t ^ 2 - (c * (u * t)) ^ 2) - 2 * y1 * u ^ 3 * t ^ 2)) :
    (c * (x4 - X) - y4) * (u ^ 2 * u * (t ^ 2 * t * 2)) = (d * (x1 - X) - y1) * (u ^ 2 * u * (t ^ 2 * t * 2)) := by
  subst hX
  have e : y4 * (u ^ 2 * u * (t ^ 2 * t * 2)) = u ^ 4 * t ^ 4 := by
    have : y4 * (u ^ 2 * u * (t ^ 2 * t * 2)) = (2 * y4) * (u ^ 2 * u * (t ^ 2 * t)) := by grind
    rw [this, k4]; grind
  have e2 : (c * (x4 - (c ^ 2 - x4 - x4)) - y4) * (u ^ 2 * u * (t ^ 2 * t * 2)) = 2 * (c * (u * t)) * (3 * x4 * u ^ 2 * t ^ 2 - (c * (u * t)) ^ 2) - y4 * (u ^ 2 * u * (t ^ 2 * t * 2)) := by grind
  rw [e2, e, hY]
  clear e e2 hY k4
  grind
theorem tn9 (b x2 x4 : Fin p) : b ^ 2 - x2 - x4 = b ^ 2 - 2 * x2 - (x4 - x2) := by grind
theorem tn10 (x2 x4 : Fin p) : x4 = x2 + (x4 - x2) := by grind
theorem tn11 (c y : Fin p) : c * (2 * y) = c * (y + y) := by grind
theorem tn12 (x : Fin p) : x ^ 2 + x * x + x ^ 2 = 3 * x ^ 2 := by grind
/-- Where the sum of two is the third. -/
theorem Cv.tan (C : Cv p) {P Q R T : Fin p × Fin p} {a b c d : Fin p} (hQ : C.On Q) (hR : C.On R) (ha : Lin P Q a) (hb : Lin Q R b) (hS : third P Q a = R) (hT : third Q R b = T) (hc : Lin R R c) (hd : Lin P T d) : third R R c = third P T d := by
  have hy2 := C.y2_ne hQ
  have hy3 := C.y2_ne hR
  obtain ⟨x1, y1⟩ := P
  obtain ⟨x2, y2⟩ := Q
  obtain ⟨x4, y4⟩ := R
  obtain ⟨x5, y5⟩ := T
  obtain ⟨a1, a2⟩ := ha
  obtain ⟨b1, b2⟩ := hb
  obtain ⟨_, c2⟩ := hc
  obtain ⟨d1, _⟩ := hd
  simp only [third, Prod.mk.injEq] at *
  obtain ⟨e4, f4⟩ := hS
  obtain ⟨e5, f5⟩ := hT
  rw [e4] at f4
  rw [e5] at f5
  have n4 := tn2 a1 f4
  obtain ⟨k2, k4⟩ := tn1 n4 b1
  have K := tn3 n4 b2
  have g1 := tn6 e4
  have g5 : x5 = b ^ 2 - 2 * x2 - (x4 - x2) := by rw [← e5]; exact tn9 _ _ _
  have g4 : x4 = x2 + (x4 - x2) := tn10 _ _
  obtain ⟨t, et⟩ : ∃ t, t = x4 - x2 := ⟨_, rfl⟩
  rw [← et] at k2 k4 K g1 g5 g4
  have z0 : ∀ z : Fin p, z * 0 = 0 := fun z => by grind
  have z1 : ∀ z : Fin p, 0 * z = 0 := fun z => by grind
  have zn : -(0 : Fin p) = 0 := by grind
  have ht : t ≠ 0 := fun q => hy3 (by rw [k4, q, z0])
  have hu : b - a ≠ 0 := fun q => hy3 (by rw [k4, q, z1])
  have hs : a + b ≠ 0 := fun q => hy2 (by rw [k2, q, zn, z1])
  have hc' : c * ((b - a) * t) = 3 * (x2 + t) ^ 2 := by
    rw [← k4, ← g4]
    rw [tn11, c2]; exact tn12 _
  have hd' : d * (b - a) = 3 * x2 + 2 * t - a ^ 2 + a * b - b ^ 2 := C.cancel hs (tn4 (sub_of d1) f5 k2 a1 g1 g5)
  have hX := tanX a b t x2 c d K hc' hd'
  have hY := tanY a b t x2 _ _ _ x1 x4 y1 K rfl rfl rfl g1 g4 (tn5 k2 a1)
  have ex : c ^ 2 - x4 - x4 = d ^ 2 - x1 - x5 := C.cancel (C.ne (C.sq hu) (C.sq ht)) (tn7 g4 g1 g5 hX)
  refine ⟨ex, ?_⟩
  rw [← ex]
  obtain ⟨X, hXX⟩ : ∃ X, X = c ^ 2 - x4 - x4 := ⟨_, rfl⟩
  rw [← hXX]
  rw [← hc', ← hd'] at hY
  exact C.cancel (C.ne (C.ne (C.sq hu) hu) (C.ne (C.ne (C.sq ht) ht) C.two)) (tn8 hXX k4 hY)
end
end Go.Proofs.YtchphekaonnfeaaDoor

namespace Go.Proofs.YtchphekaonnfeaaDoor
section
variable {p : Nat} [NeZero p]
theorem opp_iff {P Q : Fin p × Fin p} : Opp P Q ↔ Q = neg P := by
  obtain ⟨x1, y1⟩ := P
  obtain ⟨x2, y2⟩ := Q
  unfold Opp neg
  simp only [Prod.mk.injEq]
  constructor
  · rintro ⟨h1, h2⟩; exact ⟨h1.symm, by clear h1; grind⟩
  · rintro ⟨h1, h2⟩; exact ⟨h1.symm, by rw [h2]; clear h1 h2; grind⟩
theorem neg_neg (P : Fin p × Fin p) : neg (neg P) = P := by
  obtain ⟨x1, y1⟩ := P
  unfold neg
  simp only [Prod.mk.injEq, true_and]
  grind
theorem opp_comm {P Q : Fin p × Fin p} (h : Opp P Q) : Opp Q P := by
  obtain ⟨h1, h2⟩ := h
  exact ⟨h1.symm, by rw [← h2]; clear h1 h2; grind⟩
theorem ln1 {l x1 y1 x2 y2 : Fin p} (a1 : y2 = y1 + l * (x2 - x1)) (a2 : l * (y1 + y2) = x1 ^ 2 + x1 * x2 + x2 ^ 2) : -y2 = -y1 + -l * (x2 - x1) ∧ -l * (-y1 + -y2) = x1 ^ 2 + x1 * x2 + x2 ^ 2 := by
  refine ⟨by subst a1; clear a2; grind, by rw [← a2]; clear a1 a2; grind⟩
theorem lin_neg {P Q : Fin p × Fin p} {l : Fin p} (h : Lin P Q l) : Lin (neg P) (neg Q) (-l) := ln1 h.1 h.2
theorem third_neg (P Q : Fin p × Fin p) (l : Fin p) : third (neg P) (neg Q) (-l) = neg (third P Q l) := by
  obtain ⟨x1, y1⟩ := P
  obtain ⟨x2, y2⟩ := Q
  unfold third neg
  simp only [Prod.mk.injEq]
  have e : (-l) ^ 2 = l ^ 2 := by grind
  rw [e]
  refine ⟨rfl, ?_⟩
  grind
theorem Cv.slope_eq (C : Cv p) {P Q : Fin p × Fin p} {l : Fin p} (hP : C.On P) (hQ : C.On Q) (hn : ¬ Opp P Q) (h : Lin P Q l) : C.slope P Q = l := C.uniq (C.lin hP hQ hn) h hn
/-- The sum of two points; none is the point at infinity. -/
def Cv.add (C : Cv p) : Option (Fin p × Fin p) → Option (Fin p × Fin p) → Option (Fin p × Fin p)
  | none, Q => Q
  | some P, none => some P
  | some P, some Q => if P.1 = Q.1 ∧ P.2 + Q.2 = 0 then none else some (third P Q (C.slope P Q))
def Cv.OnO (C : Cv p) : Option (Fin p × Fin p) → Prop
  | none => True
  | some P => C.On P
def negO : Option (Fin p × Fin p) → Option (Fin p × Fin p) := Option.map neg
theorem Cv.add_opp (C : Cv p) {P Q : Fin p × Fin p} (h : Opp P Q) : C.add (some P) (some Q) = none := if_pos h
theorem Cv.add_some (C : Cv p) {P Q : Fin p × Fin p} {l : Fin p} (hP : C.On P) (hQ : C.On Q) (hn : ¬ Opp P Q) (h : Lin P Q l) : C.add (some P) (some Q) = some (third P Q l) := by
  show (if P.1 = Q.1 ∧ P.2 + Q.2 = 0 then none else some (third P Q (C.slope P Q))) = _
  rw [if_neg (show ¬ (P.1 = Q.1 ∧ P.2 + Q.2 = 0) from hn), C.slope_eq hP hQ hn h]
theorem Cv.add_none (C : Cv p) (P : Option (Fin p × Fin p)) : C.add P none = P := by cases P <;> rfl
theorem Cv.add_on (C : Cv p) {P Q : Option (Fin p × Fin p)} (hP : C.OnO P) (hQ : C.OnO Q) : C.OnO (C.add P Q) := by
  cases P with
  | none => exact hQ
  | some P =>
    cases Q with
    | none => exact hP
    | some Q =>
      by_cases hn : Opp P Q
      · rw [C.add_opp hn]; trivial
      · rw [C.add_some hP hQ hn (C.lin hP hQ hn)]
        exact C.third_on hP (C.lin hP hQ hn)
theorem Cv.add_comm (C : Cv p) {P Q : Option (Fin p × Fin p)} (hP : C.OnO P) (hQ : C.OnO Q) : C.add P Q = C.add Q P := by
  cases P with
  | none => rw [C.add_none]; rfl
  | some P =>
    cases Q with
    | none => rfl
    | some Q =>
      by_cases hn : Opp P Q
      · rw [C.add_opp hn, C.add_opp (opp_comm hn)]
      · have h := C.lin hP hQ hn
        rw [C.add_some hP hQ hn h, C.add_some hQ hP (fun q => hn (opp_comm q)) (lin_comm h), third_comm h]
theorem Cv.add_neg (C : Cv p) {P : Option (Fin p × Fin p)} : C.add P (negO P) = none := by
  cases P with
  | none => rfl
  | some P => exact C.add_opp (opp_iff.2 rfl)
/-- A point's negative takes it away again. -/
theorem Cv.back (C : Cv p) {P Q R : Fin p × Fin p} (hP : C.On P) (hQ : C.On Q) (hR : C.On R) (h : Opp P Q) : C.add (some P) (C.add (some Q) (some R)) = some R := by
  have hPQ : P = neg Q := opp_iff.1 (opp_comm h)
  by_cases hQR : Opp Q R
  · rw [C.add_opp hQR, C.add_none, hPQ, ← opp_iff.1 hQR]
  · have hb := C.lin hQ hR hQR
    obtain ⟨b, eb⟩ : ∃ b, b = C.slope Q R := ⟨_, rfl⟩
    rw [← eb] at hb
    obtain ⟨T, hT⟩ : ∃ T, T = third Q R b := ⟨_, rfl⟩
    have oT : C.On T := by rw [hT]; exact C.third_on hQ hb
    rw [C.add_some hQ hR hQR hb, ← hT]
    have hT' : third R Q b = neg (neg T) := by rw [neg_neg, hT, third_comm hb]
    obtain ⟨g1, g2, g3⟩ := C.opp_lin hQ (lin_comm hb) hT'
    have k1 := lin_neg g1
    rw [neg_neg, ← hPQ] at k1
    have hPT : ¬ Opp P T := fun q => by
      have e : T = neg P := opp_iff.1 q
      rw [hPQ, neg_neg] at e
      exact g2 (by rw [e]; exact opp_iff.2 rfl)
    rw [C.add_some hP oT hPT k1]
    have e := third_neg Q (neg T) b
    rw [neg_neg, ← hPQ, g3, neg_neg] at e
    rw [e]
theorem bt {a b x1 x2 x3 : Fin p} (e4 : a ^ 2 - x1 - x2 = x3) (e5 : b ^ 2 - x2 - x3 = x1) : (b - a) * (a + b) = 0 := by
  have : a ^ 2 = b ^ 2 := by grind
  clear e4 e5
  grind
theorem Cv.both (C : Cv p) {P Q R : Fin p × Fin p} {a b : Fin p} (hQ : C.On Q) (hR : C.On R) (ha : Lin P Q a) (hb : Lin Q R b) (hS : third P Q a = R) (hT : third Q R b = P) : False := by
  have hy2 := C.y2_ne hQ
  have hy3 := C.y2_ne hR
  obtain ⟨x1, y1⟩ := P
  obtain ⟨x2, y2⟩ := Q
  obtain ⟨x3, y3⟩ := R
  obtain ⟨a1, a2⟩ := ha
  obtain ⟨b1, b2⟩ := hb
  simp only [third, Prod.mk.injEq] at *
  obtain ⟨e4, f4⟩ := hS
  obtain ⟨e5, f5⟩ := hT
  rw [e4] at f4
  obtain ⟨k2, k4⟩ := tn1 (tn2 a1 f4) b1
  have z1 : ∀ z : Fin p, 0 * z = 0 := fun z => by grind
  have zn : -(0 : Fin p) = 0 := by grind
  rcases C.zero (bt e4 e5) with q | q
  · exact hy3 (by rw [k4, q, z1])
  · exact hy2 (by rw [k2, q, zn, z1])
theorem Cv.assoc3 (C : Cv p) {P Q R : Fin p × Fin p} (hP : C.On P) (hQ : C.On Q) (hR : C.On R) : C.add (C.add (some P) (some Q)) (some R) = C.add (some P) (C.add (some Q) (some R)) := by
  have oP : C.OnO (some P) := hP
  have oQ : C.OnO (some Q) := hQ
  have oR : C.OnO (some R) := hR
  by_cases hPQ : Opp P Q
  · rw [C.back hP hQ hR hPQ, C.add_opp hPQ]; rfl
  by_cases hQR : Opp Q R
  · have h := C.back hR hQ hP (opp_comm hQR)
    rw [C.add_opp hQR, C.add_none, C.add_comm (C.add_on oP oQ) oR, C.add_comm oP oQ]
    exact h
  have ha := C.lin hP hQ hPQ
  have hb := C.lin hQ hR hQR
  obtain ⟨a, ea⟩ : ∃ a, a = C.slope P Q := ⟨_, rfl⟩
  obtain ⟨b, eb⟩ : ∃ b, b = C.slope Q R := ⟨_, rfl⟩
  rw [← ea] at ha
  rw [← eb] at hb
  obtain ⟨S, hS⟩ : ∃ S, S = third P Q a := ⟨_, rfl⟩
  obtain ⟨T, hT⟩ : ∃ T, T = third Q R b := ⟨_, rfl⟩
  have oS : C.On S := by rw [hS]; exact C.third_on hP ha
  have oT : C.On T := by rw [hT]; exact C.third_on hQ hb
  rw [C.add_some hP hQ hPQ ha, C.add_some hQ hR hQR hb, ← hS, ← hT]
  by_cases hSR : Opp S R
  · have e : third P Q a = neg R := by rw [← hS]; exact opp_iff.1 (opp_comm hSR)
    obtain ⟨g1, _, g3⟩ := C.opp_lin hQ ha e
    have eab := C.uniq g1 hb hQR
    rw [eab, ← hT] at g3
    rw [C.add_opp hSR, C.add_opp (opp_iff.2 g3)]
  by_cases hPT : Opp P T
  · have e : third R Q b = neg P := by rw [← third_comm hb, ← hT]; exact opp_iff.1 hPT
    obtain ⟨g1, _, g3⟩ := C.opp_lin hQ (lin_comm hb) e
    have eab := C.uniq g1 (lin_comm ha) (fun q => hPQ (opp_comm q))
    rw [eab, ← third_comm ha, ← hS] at g3
    exact absurd (opp_comm (opp_iff.2 g3)) hSR
  have hc := C.lin oS hR hSR
  have hd := C.lin hP oT hPT
  rw [C.add_some oS hR hSR hc, C.add_some hP oT hPT hd]
  congr 1
  by_cases h1 : S.1 = R.1
  · have eSR : S = R := Prod.ext h1 (C.same oS hR h1 hSR)
    by_cases h2 : P.1 = T.1
    · have ePT : P = T := Prod.ext h2 (C.same hP oT h2 hPT)
      exact (C.both hQ hR ha hb (hS.symm.trans eSR) (hT.symm.trans ePT.symm)).elim
    · rw [eSR] at hc ⊢
      exact C.tan hQ hR ha hb (hS.symm.trans eSR) hT.symm hc hd
  · by_cases h2 : P.1 = T.1
    · have ePT : P = T := Prod.ext h2 (C.same hP oT h2 hPT)
      rw [← ePT] at hd ⊢
      have h := C.tan hQ hP (lin_comm hb) (lin_comm ha) (by rw [← third_comm hb, ← hT, ← ePT]) (by rw [← third_comm ha, ← hS]) hd (lin_comm hc)
      rw [h, third_comm hc]
    · exact C.gen ha hb hS.symm hT.symm hc hd h1 h2
/-- It is a group. -/
theorem Cv.assoc (C : Cv p) {P Q R : Option (Fin p × Fin p)} (hP : C.OnO P) (hQ : C.OnO Q) (hR : C.OnO R) : C.add (C.add P Q) R = C.add P (C.add Q R) := by
  cases P with
  | none => rfl
  | some P =>
    cases Q with
    | none => rfl
    | some Q =>
      cases R with
      | none => rw [C.add_none, C.add_none]
      | some R => exact C.assoc3 hP hQ hR
end
end Go.Proofs.YtchphekaonnfeaaDoor

namespace Go.Proofs.YtchphekaonnfeaaDoor
/-- No more different numbers below m than m. -/
theorem pigeon : ∀ (m n : Nat) (f : Nat → Nat), (∀ i, i < n → f i < m) → (∀ i j, i < n → j < n → f i = f j → i = j) → n ≤ m
  | 0, n, f, h, _ => by
    cases n with
    | zero => exact Nat.le_refl _
    | succ n => exact absurd (h 0 (by omega)) (Nat.not_lt_zero _)
  | m + 1, n, f, h, hi => by
    cases n with
    | zero => exact Nat.zero_le _
    | succ k =>
      have := pigeon m k (fun i => if f i = m then f k else f i) (fun i hik => by
        have h1 := h i (by omega)
        have h2 := h k (by omega)
        show (if f i = m then f k else f i) < m
        by_cases c : f i = m
        · rw [if_pos c]
          have : f k ≠ m := fun q => absurd (hi i k (by omega) (by omega) (c.trans q.symm)) (by omega)
          omega
        · rw [if_neg c]; omega) (fun i j hik hjk e => by
        have e' : (if f i = m then f k else f i) = (if f j = m then f k else f j) := e
        by_cases c : f i = m <;> by_cases d : f j = m
        · exact hi i j (by omega) (by omega) (c.trans d.symm)
        · rw [if_pos c, if_neg d] at e'
          exact absurd (hi k j (by omega) (by omega) e') (by omega)
        · rw [if_neg c, if_pos d] at e'
          exact absurd (hi i k (by omega) (by omega) e') (by omega)
        · rw [if_neg c, if_neg d] at e'
          exact hi i j (by omega) (by omega) e')
      omega
/-- A commutative group. -/
structure Gr (A : Type) where
  add : A → A → A
  z : A
  neg : A → A
  assoc : ∀ a b c, add (add a b) c = add a (add b c)
  comm : ∀ a b, add a b = add b a
  zero : ∀ a, add a z = a
  inv : ∀ a, add a (neg a) = z
section
variable {A : Type}
def Gr.mul (g : Gr A) : Nat → A → A
  | 0, _ => g.z
  | k + 1, a => g.add (g.mul k a) a
theorem Gr.zero' (g : Gr A) (a : A) : g.add g.z a = a := by rw [g.comm, g.zero]
theorem Gr.cancel (g : Gr A) {a b c : A} (h : g.add a c = g.add b c) : a = b := by
  have e : ∀ x, g.add (g.add x c) (g.neg c) = x := fun x => by rw [g.assoc, g.inv, g.zero]
  rw [← e a, h, e b]
theorem Gr.mul_add (g : Gr A) (a : A) (i : Nat) : ∀ j, g.mul (i + j) a = g.add (g.mul i a) (g.mul j a)
  | 0 => (g.zero _).symm
  | j + 1 => by
    show g.add (g.mul (i + j) a) a = g.add (g.mul i a) (g.add (g.mul j a) a)
    rw [g.mul_add a i j, g.assoc]
theorem Gr.mul_z (g : Gr A) : ∀ j, g.mul j g.z = g.z
  | 0 => rfl
  | j + 1 => by show g.add (g.mul j g.z) g.z = g.z; rw [g.zero, g.mul_z j]
theorem Gr.mul_mul (g : Gr A) (a : A) (i : Nat) : ∀ j, g.mul (j * i) a = g.mul j (g.mul i a)
  | 0 => by rw [Nat.zero_mul]; rfl
  | j + 1 => by
    rw [Nat.succ_mul, g.mul_add, g.mul_mul a i j]; rfl
theorem Gr.mul_sum (g : Gr A) (a b : A) : ∀ i, g.mul i (g.add a b) = g.add (g.mul i a) (g.mul i b)
  | 0 => (g.zero _).symm
  | i + 1 => by
    show g.add (g.mul i (g.add a b)) (g.add a b) = g.add (g.add (g.mul i a) a) (g.add (g.mul i b) b)
    rw [g.mul_sum a b i, g.assoc, g.assoc]
    congr 1
    rw [← g.assoc, g.comm (g.mul i b) a, g.assoc]
theorem Gr.one (g : Gr A) (a : A) : g.mul 1 a = a := g.zero' a
theorem Gr.low (g : Gr A) (a : A) (n : Nat) (hp : ∀ d, d ∣ n → d = 1 ∨ d = n) (hn : g.mul n a = g.z) (ha : a ≠ g.z) : ∀ d, 0 < d → d < n → g.mul d a ≠ g.z := by
  intro d
  induction d using Nat.strongRecOn with
  | _ d ih =>
    intro h1 h2 h3
    by_cases hr : n % d = 0
    · rcases hp d (Nat.dvd_of_mod_eq_zero hr) with c | c
      · rw [c, g.one] at h3; exact ha h3
      · omega
    · have e : g.mul (n % d) a = g.z := by
        have q : n = n / d * d + n % d := by rw [Nat.mul_comm]; exact (Nat.div_add_mod n d).symm
        have q2 := hn
        rw [q, g.mul_add, g.mul_mul, h3, g.mul_z, g.zero'] at q2
        exact q2
      exact ih (n % d) (Nat.mod_lt _ h1) (Nat.pos_of_ne_zero hr) (Nat.lt_trans (Nat.mod_lt _ h1) h2) e
theorem Gr.inj (g : Gr A) (a : A) (n : Nat) (hp : ∀ d, d ∣ n → d = 1 ∨ d = n) (hn : g.mul n a = g.z) (ha : a ≠ g.z) {i j : Nat} (hi : i < n) (hj : j < n) (h : g.mul i a = g.mul j a) : i = j := by
  have key : ∀ i j, i < j → j < n → g.mul i a ≠ g.mul j a := fun i j hij hj q => by
    have e : j = (j - i) + i := by omega
    rw [e, g.mul_add] at q
    have q2 : g.z = g.mul (j - i) a := g.cancel (c := g.mul i a) (by rw [g.zero']; exact q)
    exact g.low a n hp hn ha (j - i) (by omega) (by omega) q2.symm
  rcases Nat.lt_trichotomy i j with c | c | c
  · exact absurd h (key i j c hj)
  · exact c
  · exact absurd h.symm (key j i c hi)
/-- Where less than three times n elements are, and one of order n, each has n times itself z, if none but z is its own negative. -/
theorem Gr.order (g : Gr A) (a : A) (n m : Nat) (hp : ∀ d, d ∣ n → d = 1 ∨ d = n) (hn : g.mul n a = g.z) (ha : a ≠ g.z) (code : A → Nat) (hc : ∀ x, code x < m) (hi : ∀ x y, code x = code y → x = y) (hm : m < 3 * n)
    (h2 : ∀ x, g.add x x = g.z → x = g.z) (x : A) : g.mul n x = g.z := by
  have n0 : 0 < n := by omega
  by_cases h0 : ∃ i, i < n ∧ x = g.mul i a
  · obtain ⟨i, _, rfl⟩ := h0
    rw [← g.mul_mul, Nat.mul_comm, g.mul_mul, hn, g.mul_z]
  by_cases h1 : ∃ i, i < n ∧ g.add x x = g.mul i a
  · obtain ⟨i, _, e⟩ := h1
    apply h2
    rw [← g.mul_sum, e, ← g.mul_mul, Nat.mul_comm, g.mul_mul, hn, g.mul_z]
  · exfalso
    -- what is k times x is no multiple of a
    have wrap : ∀ i, ∃ j, j < n ∧ g.mul i a = g.mul j a := fun i => ⟨i % n, Nat.mod_lt _ n0, by
      have q : i = i / n * n + i % n := by rw [Nat.mul_comm]; exact (Nat.div_add_mod i n).symm
      have e := g.mul_add a (i / n * n) (i % n)
      rw [← q, g.mul_mul, hn, g.mul_z, g.zero'] at e
      exact e⟩
    have diff : ∀ (y : A) (i j : Nat), i < n → g.add y (g.mul i a) = g.mul j a → ∃ k, k < n ∧ y = g.mul k a := fun y i j hi' e => by
      obtain ⟨k, k1, k2⟩ := wrap (j + (n - i))
      refine ⟨k, k1, ?_⟩
      rw [← k2, g.mul_add, ← e, g.assoc, ← g.mul_add, Nat.add_sub_cancel' (Nat.le_of_lt hi'), hn, g.zero]
    have hbig := pigeon m (3 * n) (fun k => code (g.add (g.mul (k / n) x) (g.mul (k % n) a))) (fun k _ => hc _) (fun k l hk hl e => by
      have e' := hi _ _ e
      have k3 : k / n < 3 := (Nat.div_lt_iff_lt_mul n0).2 hk
      have l3 : l / n < 3 := (Nat.div_lt_iff_lt_mul n0).2 hl
      have km := Nat.mod_lt k n0
      have lm := Nat.mod_lt l n0
      have no : ∀ (d i j : Nat), d = 1 ∨ d = 2 → i < n → g.add (g.mul d x) (g.mul i a) ≠ g.mul j a := fun d i j hd hi' q => by
        obtain ⟨k, k1, k2⟩ := diff _ i j hi' q
        rcases hd with rfl | rfl
        · rw [g.one] at k2; exact h0 ⟨k, k1, k2⟩
        · have : g.mul 2 x = g.add x x := by show g.add (g.add g.z x) x = _; rw [g.zero']
          rw [this] at k2; exact h1 ⟨k, k1, k2⟩
      have main : ∀ u v i j, u < v → v < 3 → i < n → j < n → g.add (g.mul u x) (g.mul i a) ≠ g.add (g.mul v x) (g.mul j a) := fun u v i j huv hv hi' hj' q => by
        have e : v = (v - u) + u := by omega
        rw [e, g.mul_add, g.comm (g.mul (v - u) x), g.assoc] at q
        have q2 : g.mul i a = g.add (g.mul (v - u) x) (g.mul j a) := g.cancel (c := g.mul u x) (by rw [g.comm, q, g.comm])
        exact no (v - u) j i (by omega) hj' q2.symm
      have same : k / n = l / n := by
        rcases Nat.lt_trichotomy (k / n) (l / n) with c | c | c
        · exact absurd e' (main _ _ _ _ c l3 km lm)
        · exact c
        · exact absurd e'.symm (main _ _ _ _ c k3 lm km)
      rw [same] at e'
      have e2 : g.mul (k % n) a = g.mul (l % n) a := g.cancel (c := g.mul (l / n) x) (by rw [g.comm, e', g.comm])
      have e3 := g.inj a n hp hn ha km lm e2
      rw [← Nat.div_add_mod k n, ← Nat.div_add_mod l n, same, e3])
    omega
end
end Go.Proofs.YtchphekaonnfeaaDoor

namespace Go.Proofs.YtchphekaonnfeaaDoor

def PM : Nat := 115792089237316195423570985008687907853269984665640564039457584007908834671662
theorem PM1 : PM + 1 = PP := by kernel_rfl
theorem cube_low (c : Nat) (h : (c + 7) % PP = 0) : c % PP = PP - 7 := by unfold PP at *; omega
theorem PP3 : PP - 1 = 3 * 38597363079105398474523661669562635951089994888546854679819194669302944890554 := by kernel_rfl
theorem cube_pow : mpowF 256 PP (PP - 7) 38597363079105398474523661669562635951089994888546854679819194669302944890554 = 55594575648329892869085402983802832744385952214688224221778511981742606582254 := by kernel_rfl
theorem PP7 : 0 < PP - 7 := of_decide_eq_true (by kernel_rfl)
theorem E256 : 38597363079105398474523661669562635951089994888546854679819194669302944890554 < 2 ^ 256 := of_decide_eq_true (by kernel_rfl)
theorem cube_zero (k : Nat) : (PP * k) ^ 3 % PP = 0 := by
  generalize PP = p
  rw [Nat.pow_succ, Nat.mul_comm, Nat.mul_assoc, Nat.mul_mod_right]
theorem cube_gen (p k c x : Nat) (f : x ^ (p - 1) % p = 1) (he : p - 1 = 3 * k) (hc : x ^ 3 % p = c) (hk : k < 2 ^ 256) : mpowF 256 p c k = 1 := by
  rw [mpowF_eq p 256 c k hk, ← hc, ← Nat.pow_mod, ← Nat.pow_mul, ← he, f]
theorem cube_no (x : Nat) : (x ^ 3 + 7) % PP ≠ 0 := by
  intro h
  have e := cube_low _ h
  have hx : ¬ PP ∣ x := by
    rintro ⟨k, rfl⟩
    rw [cube_zero] at e
    exact absurd PP7 (by rw [← e]; exact Nat.lt_irrefl 0)
  have f := fermat1 prime_P x hx
  have f3 := cube_gen PP _ (PP - 7) x f PP3 e E256
  rw [cube_pow] at f3
  exact absurd f3 (of_decide_eq_true (by kernel_rfl))
theorem PPpos : 0 < PP := of_decide_eq_true (by kernel_rfl)
def invP (a : Fin (PM + 1)) : Fin (PM + 1) := ⟨a.val ^ (PP - 2) % PP, Nat.lt_of_lt_of_eq (Nat.mod_lt _ PPpos) PM1.symm⟩
theorem PP21 : (PP - 2) + 1 = PP - 1 := by kernel_rfl
theorem pow_back (a e d p : Nat) (h : e + 1 = d) : a * (a ^ e % p) % p = a ^ d % p := by
  rw [← h, Nat.mul_mod_mod, Nat.pow_succ, Nat.mul_comm]
theorem one_val : (1 : Fin (PM + 1)).val = 1 := by kernel_rfl
theorem modPM (k : Nat) : k % (PM + 1) = k % PP := by rw [PM1]
theorem invP_ok (a : Fin (PM + 1)) (h : a ≠ 0) : a * invP a = 1 := by
  have hd : ¬ PP ∣ a.val := fun c => by
    have h1 : a.val < PP := Nat.lt_of_lt_of_eq a.isLt PM1
    have h2 : a.val = 0 := Nat.eq_zero_of_dvd_of_lt c h1
    exact h (Fin.ext h2)
  have f := fermat1 prime_P a.val hd
  refine Fin.ext ?_
  rw [Fin.val_mul, one_val]
  exact (modPM _).trans ((pow_back a.val _ _ PP PP21).trans f)
theorem two_val : (2 : Fin (PM + 1)).val = 2 := by kernel_rfl
theorem zero_val : (0 : Fin (PM + 1)).val = 0 := by kernel_rfl
theorem seven_val : (7 : Fin (PM + 1)).val = 7 := by kernel_rfl
theorem two_ne : (2 : Fin (PM + 1)) ≠ 0 := fun c => by
  have e := congrArg Fin.val c
  rw [two_val, zero_val] at e
  exact absurd e (Nat.succ_ne_zero 1)
theorem cube_steps (x p : Nat) : (x * x % p * x % p + 7) % p = (x ^ 3 + 7) % p := by
  rw [Nat.pow_succ, Nat.pow_succ, Nat.pow_succ, Nat.pow_zero, Nat.one_mul, Nat.mod_mul_mod, Nat.mod_add_mod]
theorem cube_ring {m : Nat} [NeZero m] (x y : Fin m) (h : y ^ 2 = x ^ 3 + 7) (c : y = 0) : x * x * x + 7 = 0 := by
  subst c; grind
theorem y_no (x y : Fin (PM + 1)) (h : y ^ 2 = x ^ 3 + 7) : y ≠ 0 := by
  intro c
  have e2 := congrArg Fin.val (cube_ring x y h c)
  rw [Fin.val_add, Fin.val_mul, Fin.val_mul, seven_val, zero_val] at e2
  have e3 : (x.val * x.val % PP * x.val % PP + 7) % PP = 0 := by
    rw [modPM, modPM, modPM] at e2; exact e2
  exact cube_no x.val ((cube_steps x.val PP).symm.trans e3)
/-- The curve. -/
def secp : Cv (PM + 1) := ⟨invP, invP_ok, two_ne, 7, y_no⟩
end Go.Proofs.YtchphekaonnfeaaDoor

namespace Go.Proofs.YtchphekaonnfeaaDoor
abbrev FP := Fin (PM + 1)
def toF (a : Nat) : FP := Fin.ofNat (PM + 1) a
theorem toF_val (a : Nat) : (toF a).val = a % PP := modPM a
theorem toF_eq {a b : Nat} : toF a = toF b ↔ a % PP = b % PP := by
  constructor
  · intro h; have := congrArg Fin.val h; rwa [toF_val, toF_val] at this
  · intro h; exact Fin.ext (by rw [toF_val, toF_val, h])
theorem add_modP (a b p : Nat) : (a + b) % p = (a % p + b % p) % p := Nat.add_mod a b p
theorem toF_add (a b : Nat) : toF (a + b) = toF a + toF b := Fin.ext (by rw [toF_val, Fin.val_add, modPM, toF_val, toF_val]; exact add_modP a b PP)
theorem toF_mul (a b : Nat) : toF (a * b) = toF a * toF b := Fin.ext (by rw [toF_val, Fin.val_mul, modPM, toF_val, toF_val]; exact Nat.mul_mod a b PP)
theorem toF_mod (a : Nat) : toF (a % PP) = toF a := toF_eq.2 (Nat.mod_mod a PP)
theorem toF_PP : toF PP = 0 := Fin.ext (by rw [toF_val, zero_val, Nat.mod_self])
def negN (a : Nat) : Nat := PP - a % PP
theorem negN_ok {p : Nat} (a : Nat) (h : 0 < p) : p - a % p + a % p = p := Nat.sub_add_cancel (Nat.le_of_lt (Nat.mod_lt a h))
theorem neg_of {m : Nat} [NeZero m] {a b : Fin m} (h : b + a = 0) : b = -a := by
  have e : b = (b + a) - a := by clear h; grind
  rw [e, h]; clear e h; grind
theorem toF_neg (a : Nat) : toF (negN a) = - toF a := by
  apply neg_of
  rw [← toF_mod a, ← toF_add]
  exact (congrArg toF (negN_ok a PPpos)).trans toF_PP
def pt (x y : Nat) : FP × FP := (toF x, toF y)
def linB (x1 y1 x2 y2 l : Nat) : Bool := Nat.beq ((y1 + l * (x2 + negN x1)) % PP) (y2 % PP) && (Nat.beq (l * (y1 + y2) % PP) ((x1 * x1 + x1 * x2 + x2 * x2) % PP) && not (Nat.beq (x1 % PP) (x2 % PP) && Nat.beq ((y1 + y2) % PP) 0))
theorem sub_neg {m : Nat} [NeZero m] (a b : Fin m) : a + -b = a - b := by grind
theorem sqs {m : Nat} [NeZero m] (a b : Fin m) : a * a + a * b + b * b = a ^ 2 + a * b + b ^ 2 := by grind
theorem linB_lin {x1 y1 x2 y2 l : Nat} (h : linB x1 y1 x2 y2 l = true) : Lin (pt x1 y1) (pt x2 y2) (toF l) ∧ ¬ Opp (pt x1 y1) (pt x2 y2) := by
  unfold linB at h
  rw [Bool.and_eq_true, Bool.and_eq_true] at h
  obtain ⟨h1, h2, h3⟩ := h
  have e1 := toF_eq.2 (Nat.eq_of_beq_eq_true h1)
  have e2 := toF_eq.2 (Nat.eq_of_beq_eq_true h2)
  rw [toF_add, toF_mul, toF_add, toF_neg, sub_neg] at e1
  rw [toF_mul, toF_add, toF_add, toF_add, toF_mul, toF_mul, toF_mul, sqs] at e2
  refine ⟨⟨e1.symm, e2⟩, fun q => ?_⟩
  have q1 := toF_eq.1 q.1
  have q2 : (y1 + y2) % PP = 0 := by
    have := congrArg Fin.val ((toF_add y1 y2).trans q.2)
    rwa [toF_val, zero_val] at this
  rw [q1, q2, Nat.beq_refl, Nat.beq_refl] at h3
  exact absurd h3 Bool.false_ne_true
def nx (x1 x2 l : Nat) : Nat := (l * l + negN x1 + negN x2) % PP
def ny (x1 y1 l x3 : Nat) : Nat := (l * (x1 + negN x3) + negN y1) % PP
theorem sq_sub {m : Nat} [NeZero m] (a b c : Fin m) : a * a + -b + -c = a ^ 2 - b - c := by grind
theorem nx_ok (x1 x2 l : Nat) : toF (nx x1 x2 l) = toF l ^ 2 - toF x1 - toF x2 := by
  unfold nx
  rw [toF_mod, toF_add, toF_add, toF_mul, toF_neg, toF_neg, sq_sub]
theorem third_pt (x1 y1 x2 y2 l : Nat) : third (pt x1 y1) (pt x2 y2) (toF l) = pt (nx x1 x2 l) (ny x1 y1 l (nx x1 x2 l)) := by
  unfold third pt
  rw [nx_ok]
  refine Prod.ext rfl ?_
  show _ = toF (ny x1 y1 l (nx x1 x2 l))
  unfold ny
  rw [toF_mod, toF_add, toF_mul, toF_add, toF_neg, toF_neg, nx_ok, sub_neg, sub_neg]
/-- The points of the curve, as a group. -/
def Pts := {X : Option (FP × FP) // secp.OnO X}
def gr : Gr Pts where
  add a b := ⟨secp.add a.1 b.1, secp.add_on a.2 b.2⟩
  z := ⟨none, trivial⟩
  neg a := ⟨negO a.1, by
    obtain ⟨a, ha⟩ := a
    cases a with
    | none => exact trivial
    | some X => exact secp.neg_on ha⟩
  assoc a b c := Subtype.ext (secp.assoc a.2 b.2 c.2)
  comm a b := Subtype.ext (secp.add_comm a.2 b.2)
  zero a := Subtype.ext (secp.add_none a.1)
  inv a := Subtype.ext secp.add_neg
def GX : Nat := 55066263022277343669578718895168534326250603453777594175500187360389116729240
def GY : Nat := 32670510020758816978083085130507043184471273380659243275938904335757337482424
theorem G_onN : GY * GY % PP = (GX * GX * GX + 7) % PP := by kernel_rfl
theorem on_of {m : Nat} [NeZero m] {x y b : Fin m} (h : y * y = x * x * x + b) : y ^ 2 = x ^ 3 + b := by grind
theorem toF7 : toF 7 = 7 := Fin.ext (by rw [toF_val, seven_val]; kernel_rfl)
theorem G_on : secp.On (pt GX GY) := by
  have e := toF_eq.2 G_onN
  rw [toF_mul, toF_add, toF_mul, toF_mul, toF7] at e
  exact on_of e
def gG : Pts := ⟨some (pt GX GY), G_on⟩
def At (k x y : Nat) : Prop := (gr.mul k gG).1 = some (pt x y)
theorem add_at {a b : Pts} {x1 y1 x2 y2 l : Nat} (ha : a.1 = some (pt x1 y1)) (hb : b.1 = some (pt x2 y2)) (h : linB x1 y1 x2 y2 l = true) : (gr.add a b).1 = some (pt (nx x1 x2 l) (ny x1 y1 l (nx x1 x2 l))) := by
  obtain ⟨h1, h2⟩ := linB_lin h
  have oa := a.2
  have ob := b.2
  rw [ha] at oa
  rw [hb] at ob
  show secp.add a.1 b.1 = _
  rw [ha, hb, secp.add_some oa ob h2 h1, third_pt]
def addB (x1 y1 x2 y2 l : Nat) (K : Nat → Nat → Bool) : Bool := linB x1 y1 x2 y2 l && K (nx x1 x2 l) (ny x1 y1 l (nx x1 x2 l))
def dl (x y : Nat) : Nat := 3 * (x * x) * mpowF 256 PP (2 * y % PP) (PP - 2) % PP
def al (x y : Nat) : Nat := (GY + negN y) * mpowF 256 PP ((GX + negN x) % PP) (PP - 2) % PP
def run : Nat → Nat → Nat → Nat → Nat → Nat → Bool
  | 0, _, x, y, X, Y => Nat.beq x X && Nat.beq y Y
  | f + 1, b, x, y, X, Y => addB x y x y (dl x y) fun x2 y2 => cond (Nat.beq (b / 2 ^ f % 2) 1) (addB x2 y2 GX GY (al x2 y2) fun x3 y3 => run f b x3 y3 X Y) (run f b x2 y2 X Y)
theorem bits (k b f : Nat) : (k + k + b / 2 ^ f % 2) * 2 ^ f + b % 2 ^ f = k * 2 ^ (f + 1) + b % 2 ^ (f + 1) := by
  have e : b % 2 ^ (f + 1) = b % 2 ^ f + 2 ^ f * (b / 2 ^ f % 2) := Nat.mod_mul
  rw [e, Nat.pow_succ, Nat.add_mul, Nat.mul_comm (b / 2 ^ f % 2), Nat.add_mul]
  have : k * (2 ^ f * 2) = k * 2 ^ f + k * 2 ^ f := by rw [← Nat.mul_assoc, Nat.mul_two]
  omega
theorem run_ok : ∀ (f b k x y X Y : Nat), At k x y → run f b x y X Y = true → At (k * 2 ^ f + b % 2 ^ f) X Y
  | 0, b, k, x, y, X, Y, h, hr => by
    unfold run at hr
    rw [Bool.and_eq_true] at hr
    rw [Nat.pow_zero, Nat.mul_one, Nat.mod_one, Nat.add_zero, ← Nat.eq_of_beq_eq_true hr.1, ← Nat.eq_of_beq_eq_true hr.2]
    exact h
  | f + 1, b, k, x, y, X, Y, h, hr => by
    unfold run addB at hr
    rw [Bool.and_eq_true] at hr
    obtain ⟨h1, h2⟩ := hr
    have d : At (k + k) (nx x x (dl x y)) (ny x y (dl x y) (nx x x (dl x y))) := by
      unfold At
      rw [gr.mul_add]
      exact add_at h h h1
    rw [← bits k b f]
    cases c : Nat.beq (b / 2 ^ f % 2) 1 with
    | false =>
      rw [c] at h2
      have e : b / 2 ^ f % 2 = 0 := by
        have := Nat.ne_of_beq_eq_false c
        omega
      rw [e, Nat.add_zero]
      exact run_ok f b _ _ _ X Y d h2
    | true =>
      rw [c] at h2
      have h3 : (linB _ _ GX GY _ && run f b _ _ X Y) = true := h2
      rw [Bool.and_eq_true] at h3
      rw [Nat.eq_of_beq_eq_true c]
      exact run_ok f b _ _ _ X Y (add_at (a := gr.mul (k + k) gG) (b := gG) d rfl h3.1) h3.2
theorem leg {k b x y X Y K : Nat} (h : At k x y) (hr : run 16 b x y X Y = true) (hk : K = k * 2 ^ 16 + b % 2 ^ 16) : At K X Y := hk ▸ run_ok 16 b k x y X Y h hr
theorem at_one : At 1 GX GY := congrArg Subtype.val (gr.one gG)
theorem at0 : At 65535 99577865136541581272716647070755930256937866979919505697200229537979796287440 114265960071829761056315993662300488440859353008900857147698204927759003357952 := have e : 65535 = 1 * 2 ^ 15 + 32767 % 2 ^ 15 := by kernel_rfl
  e ▸ run_ok 15 32767 1 GX GY _ _ at_one (by kernel_rfl)
theorem at1 : At 4294967295 84353664740444228439011026249523093615980163880775352006601710044671436206174 70086162059883113165357350924185928534033735369058967403519437240021815150764 := leg (b := 65535) at0 (by kernel_rfl) (by kernel_rfl)
theorem at2 : At 281474976710655 47119192025632717632907581858528586457442080615549196722885994194867158565269 29898981333524044590423333584147941655821162762817868116860386379872252316369 := leg (b := 65535) at1 (by kernel_rfl) (by kernel_rfl)
theorem at3 : At 18446744073709551615 22103564225080446607870885038642619297116411945151334988292469497259080155623 87221748030493249802157529909219195243606877670052731797952720158686957464281 := leg (b := 65535) at2 (by kernel_rfl) (by kernel_rfl)
theorem at4 : At 1208925819614629174706175 72377952735338845254336429394882820024390462803578547242704692126200452442878 107718924346953345005121608508382869193128446322347507670229170755489356619013 := leg (b := 65535) at3 (by kernel_rfl) (by kernel_rfl)
theorem at5 : At 79228162514264337593543950335 5183438368247823987934399863722173059875496618660569865721429870666379617877 115067447288329648966706540646687111117073724853801414676526903346642653874806 := leg (b := 65535) at4 (by kernel_rfl) (by kernel_rfl)
theorem at6 : At 5192296858534827628530496329220095 17094445843246388782807047934495131951550157610276045715606318194015767473870 86381763383078582546737772157888348651468922085198088917854629613501820706960 := leg (b := 65535) at5 (by kernel_rfl) (by kernel_rfl)
theorem at7 : At 340282366920938463463374607431768211454 68692142850392660802015396329039649451204381635119853432798177972246951304803 102365750941148103039035143763801997307773149029056103307434350881605350249461 := leg (b := 65534) at6 (by kernel_rfl) (by kernel_rfl)
theorem at8 : At 22300745198530623141535718272648361505897134 28586767670040456310616221907251914343795286723356100715307541993043500323658 809373935437983616643794809700215623393373564677226761370754602900314325594 := leg (b := 47790) at7 (by kernel_rfl) (by kernel_rfl)
theorem at9 : At 1461501637330902918203684832716283019650474630374 47247763451531799463065668430463609483975236849127794879763225805652470995583 2686146893585238506563017278856286586815519206823040860534813853656267894574 := leg (b := 56550) at8 (by kernel_rfl) (by kernel_rfl)
theorem at10 : At 95780971304118053647396689196894323975813505376235336 86936594602655074841329372854774354479873320102130302695213907660541031074033 59620323792767926642593146223605433394866633981945797121167552459715955977527 := leg (b := 44872) at9 (by kernel_rfl) (by kernel_rfl)
theorem at11 : At 6277101735386680763835789423207666416078913888336959021115 18462507725042716807979103445085429593496376249583542325522822244689471872519 37465934278057643432886868738220694055075490840727191692633083132563294258897 := leg (b := 41019) at10 (by kernel_rfl) (by kernel_rfl)
theorem at12 : At 411376139330301510538742295639337626244147700586050946407841746 111981189532162353124821108747812109249789867368555539885752276725523994523838 104942328410533545697194267087618539634370377516224339825365724418906779069353 := leg (b := 49106) at11 (by kernel_rfl) (by kernel_rfl)
theorem at13 : At 26959946667150639794667015087019630673536463705607434823784316690060 52950113734379978834285708195116877708433501691498224564508740991752088246881 107755904324268202193378651250843500936777087902814227553908609307377266828915 := leg (b := 24204) at12 (by kernel_rfl) (by kernel_rfl)
theorem at14 : At 1766847064778384329583297500742918515820885685410688848611528978599825462 59391522668249385334376009645687768472252124611035097846394708269882073284523 106808109526191560568067197676741812315022724890485712949545067320012236917940 := leg (b := 53302) at13 (by kernel_rfl) (by kernel_rfl)
theorem at15 : At 115792089237316195423570985008687907852837564279074904382605163141518161494336 GX 83121579216557378445487899878180864668798711284981320763518679672151497189239 := leg (b := 16704) at14 (by kernel_rfl) (by kernel_rfl)
theorem last_nat : 115792089237316195423570985008687907852837564279074904382605163141518161494336 + 1 = QQ := by kernel_rfl
theorem last_neg : (83121579216557378445487899878180864668798711284981320763518679672151497189239 + GY) % PP = 0 := by kernel_rfl
theorem order_of {k n Y : Nat} (h : At k GX Y) (hn : k + 1 = n) (hY : (Y + GY) % PP = 0) : gr.mul n gG = gr.z := by
  subst hn
  apply Subtype.ext
  show secp.add (gr.mul k gG).1 (some (pt GX GY)) = none
  rw [show (gr.mul k gG).1 = some (pt GX Y) from h]
  refine secp.add_opp ⟨rfl, ?_⟩
  refine (toF_add _ _).symm.trans (Fin.ext ?_)
  rw [toF_val, zero_val]
  exact hY
theorem G_order : gr.mul QQ gG = gr.z := order_of at15 last_nat last_neg
end Go.Proofs.YtchphekaonnfeaaDoor

namespace Go.Proofs.YtchphekaonnfeaaDoor
/-- A number for each point. -/
def codeP (a : Pts) : Nat := match a.1 with
  | none => 2 * PP
  | some X => 2 * X.1.val + X.2.val % 2
theorem PPodd : PP % 2 = 1 := by kernel_rfl
theorem lim3 : 2 * PP + 1 < 3 * QQ := of_decide_eq_true (by kernel_rfl)
theorem val_lt (a : FP) : a.val < PP := Nat.lt_of_lt_of_eq a.isLt PM1
theorem code_lt {x y p : Nat} (h : x < p) : 2 * x + y % 2 < 2 * p := by omega
theorem codeP_lt (a : Pts) : codeP a < 2 * PP + 1 := by
  unfold codeP
  split
  · exact Nat.lt_succ_self _
  · next X _ => exact Nat.lt_succ_of_lt (code_lt (val_lt X.1))
theorem code_x {x x' y y' : Nat} (h : 2 * x + y % 2 = 2 * x' + y' % 2) : x = x' ∧ y % 2 = y' % 2 := by omega
theorem sq_diff {m : Nat} [NeZero m] {y y' z : Fin m} (h : y ^ 2 = z) (h' : y' ^ 2 = z) : (y - y') * (y + y') = 0 := by
  have e : (y - y') * (y + y') = y ^ 2 - y' ^ 2 := by clear h h'; grind
  rw [e, h, h']; clear e h h'; grind
theorem of_sub {m : Nat} [NeZero m] {y y' : Fin m} (h : y - y' = 0) : y = y' := by
  have e : y = (y - y') + y' := by clear h; grind
  rw [e, h]; clear e h; grind
theorem par {p y y' : Nat} (hp : p % 2 = 1) (hy : y < p) (hy' : y' < p) (h0 : y ≠ 0) (h : (y + y') % p = 0) : y % 2 ≠ y' % 2 := by
  have : y + y' = p := by
    rcases Nat.lt_or_ge (y + y') p with c | c
    · rw [Nat.mod_eq_of_lt c] at h; omega
    · rw [Nat.mod_eq_sub_mod c, Nat.mod_eq_of_lt (by omega)] at h; omega
  omega
theorem same_y {x y y' : FP} (h : secp.On (x, y)) (h' : secp.On (x, y')) (hp : y.val % 2 = y'.val % 2) : y = y' := by
  have e : (y - y') * (y + y') = 0 := sq_diff (z := x ^ 3 + secp.B) h h'
  rcases secp.zero e with c | c
  · exact of_sub c
  · exfalso
    have n0 : y ≠ 0 := secp.y_ne h
    have v := congrArg Fin.val c
    rw [Fin.val_add, zero_val, modPM] at v
    exact par PPodd (val_lt y) (val_lt y') (fun q => n0 (Fin.ext (q.trans zero_val.symm))) v hp
theorem codeP_inj (a b : Pts) (h : codeP a = codeP b) : a = b := by
  obtain ⟨a, ha⟩ := a
  obtain ⟨b, hb⟩ := b
  apply Subtype.ext
  show a = b
  cases a with
  | none =>
    cases b with
    | none => rfl
    | some Y =>
      have h' : 2 * PP = 2 * Y.1.val + Y.2.val % 2 := h
      exact absurd (code_lt (y := Y.2.val) (val_lt Y.1)) (by rw [← h']; exact Nat.lt_irrefl _)
  | some X =>
    cases b with
    | none =>
      have h' : 2 * X.1.val + X.2.val % 2 = 2 * PP := h
      exact absurd (code_lt (y := X.2.val) (val_lt X.1)) (by rw [h']; exact Nat.lt_irrefl _)
    | some Y =>
      obtain ⟨x, y⟩ := X
      obtain ⟨x', y'⟩ := Y
      have h' : 2 * x.val + y.val % 2 = 2 * x'.val + y'.val % 2 := h
      obtain ⟨h1, h2⟩ := code_x h'
      have e : x = x' := Fin.ext h1
      subst e
      rw [same_y ha hb h2]
theorem two_y {m : Nat} [NeZero m] {y : Fin m} (h : y + y = 0) : 2 * y = 0 := by
  rw [← h]; clear h; grind
theorem self_neg (a : Pts) (h : gr.add a a = gr.z) : a = gr.z := by
  obtain ⟨a, ha⟩ := a
  apply Subtype.ext
  have h' : secp.add a a = none := congrArg Subtype.val h
  cases a with
  | none => rfl
  | some X =>
    exfalso
    by_cases c : Opp X X
    · exact secp.y2_ne ha (two_y c.2)
    · rw [secp.add_some ha ha c (secp.lin ha ha c)] at h'
      exact absurd h' (by intro q; cases q)
theorem gG_ne : gG ≠ gr.z := fun h => by
  have h' : some (pt GX GY) = none := congrArg Subtype.val h
  cases h'
/-- Q times any point is the point at infinity. -/
theorem order_any (a : Pts) : gr.mul QQ a = gr.z :=
  gr.order gG QQ (2 * PP + 1) prime_Q.2 G_order gG_ne codeP codeP_lt codeP_inj lim3 self_neg a
end Go.Proofs.YtchphekaonnfeaaDoor

namespace Go.Proofs.YtchphekaonnfeaaDoor
section
variable {p : Nat} [NeZero p]
def Spot (X Y Z : Fin p) (o : Option (Fin p × Fin p)) : Prop := (Z = 0 ∧ o = none) ∨ (Z ≠ 0 ∧ ∃ x y, o = some (x, y) ∧ X = x * Z ^ 2 ∧ Y = y * Z ^ 3)
theorem spot_none (X Y : Fin p) : Spot X Y 0 none := .inl ⟨rfl, rfl⟩
theorem one_two (h : (1 : Fin p) = 0) : (2 : Fin p) = 0 := by
  have e : (2 : Fin p) = 1 + 1 := by clear h; grind
  rw [e, h]; clear e h; grind
theorem Cv.one_ne (C : Cv p) : (1 : Fin p) ≠ 0 := fun h => C.two (one_two h)
theorem at_x (x : Fin p) : x = x * 1 ^ 2 := by grind
theorem at_y (y : Fin p) : y = y * 1 ^ 3 := by grind
theorem Cv.spot_at (C : Cv p) (x y : Fin p) : Spot x y 1 (some (x, y)) := .inr ⟨C.one_ne, x, y, rfl, at_x x, at_y y⟩
theorem pt_x {x Z i : Fin p} (h : Z * i = 1) : x * Z ^ 2 * (i * i) = x := by
  have e : x * Z ^ 2 * (i * i) = x * (Z * i) * (Z * i) := by clear h; grind
  rw [e, h]; clear e h; grind
theorem pt_y {y Z i : Fin p} (h : Z * i = 1) : y * Z ^ 3 * (i * i * i) = y := by
  have e : y * Z ^ 3 * (i * i * i) = y * (Z * i) * (Z * i) * (Z * i) := by clear h; grind
  rw [e, h]; clear e h; grind
/-- What point a spot is at. -/
theorem Spot.point {X Y Z i : Fin p} {o : Option (Fin p × Fin p)} (h : Spot X Y Z o) (hZ : Z ≠ 0) (hi : Z * i = 1) : o = some (X * (i * i), Y * (i * i * i)) := by
  rcases h with h | ⟨_, x, y, rfl, rfl, rfl⟩
  · exact absurd h.1 hZ
  · rw [pt_x hi, pt_y hi]
theorem Spot.none {X Y : Fin p} {o : Option (Fin p × Fin p)} (h : Spot X Y 0 o) : o = .none := by
  rcases h with h | h
  · exact h.2
  · exact absurd rfl h.1
theorem half_slope {l x y t : Fin p} (ht : 2 * t = 3) (h : l * (y + y) = x ^ 2 + x * x + x ^ 2) : (t * x ^ 2) * 2 = (l * y) * 2 := by
  have e : (t * x ^ 2) * 2 = (2 * t) * x ^ 2 := by clear h ht; grind
  have e2 : l * y * 2 = l * (y + y) := by clear h ht e; grind
  rw [e, e2, h, ht]; clear h ht e e2; grind
theorem dbl_x {l x y t Z : Fin p} (h : t * x ^ 2 = l * y) : (x * Z ^ 2 * (x * Z ^ 2) * t) * (x * Z ^ 2 * (x * Z ^ 2) * t) - (x * Z ^ 2 * (y * Z ^ 3 * (y * Z ^ 3)) + x * Z ^ 2 * (y * Z ^ 3 * (y * Z ^ 3))) = (l ^ 2 - x - x) * (y * Z ^ 3 * Z) ^ 2 := by
  have e : x * Z ^ 2 * (x * Z ^ 2) * t = (t * x ^ 2) * Z ^ 4 := by clear h; grind
  rw [e, h]; clear e h; grind
theorem dbl_y {l x y t Z x3 X3 : Fin p} (h : t * x ^ 2 = l * y) (hX : X3 = x3 * (y * Z ^ 3 * Z) ^ 2) : (x * Z ^ 2 * (x * Z ^ 2) * t) * (x * Z ^ 2 * (y * Z ^ 3 * (y * Z ^ 3)) - X3) - y * Z ^ 3 * (y * Z ^ 3) * (y * Z ^ 3 * (y * Z ^ 3)) = (l * (x - x3) - y) * (y * Z ^ 3 * Z) ^ 3 := by
  have e : x * Z ^ 2 * (x * Z ^ 2) * t = (t * x ^ 2) * Z ^ 4 := by clear h hX; grind
  rw [e, h, hX]; clear e h hX; grind
theorem Cv.not_opp (C : Cv p) {P : Fin p × Fin p} (h : C.On P) : ¬ Opp P P := fun q => C.y2_ne h (by
  have e : 2 * P.2 = P.2 + P.2 := by clear q h; grind
  rw [e]; exact q.2)
theorem Cv.cube (C : Cv p) {a : Fin p} (ha : a ≠ 0) : a ^ 3 ≠ 0 := by
  have e : a ^ 3 = a ^ 2 * a := by clear ha; grind
  rw [e]; exact C.ne (C.sq ha) ha
/-- A spot doubled. -/
theorem Cv.spot_double (C : Cv p) {X Y Z t X3 : Fin p} {o : Option (Fin p × Fin p)} (h : Spot X Y Z o) (on : C.OnO o) (hZ : Z ≠ 0) (ht : 2 * t = 3)
    (hX : X3 = (X * X * t) * (X * X * t) - (X * (Y * Y) + X * (Y * Y))) : Spot X3 ((X * X * t) * (X * (Y * Y) - X3) - Y * Y * (Y * Y)) (Y * Z) (C.add o o) := by
  rcases h with h | ⟨_, x, y, rfl, rfl, rfl⟩
  · exact absurd h.1 hZ
  · have on' : C.On (x, y) := on
    have hn := C.not_opp on'
    have L := C.lin on' on' hn
    rw [C.add_some on' on' hn L]
    have hl : t * x ^ 2 = C.slope (x, y) (x, y) * y := C.cancel C.two (half_slope ht L.2)
    have hx := hX.trans (dbl_x (Z := Z) hl)
    exact .inr ⟨C.ne (C.ne (C.y_ne on') (C.cube hZ)) hZ, _, _, rfl, hx, dbl_y hl hx⟩
theorem acr {x px Z : Fin p} : px * (Z * Z) - x * Z ^ 2 = (px - x) * Z ^ 2 := by grind
theorem upp {l x y px py Z : Fin p} (h : py = y + l * (px - x)) : py * (Z * Z * Z) - y * Z ^ 3 = l * (px - x) * Z ^ 3 := by
  rw [h]; clear h; grind
theorem upq {y py Z : Fin p} : py * (Z * Z * Z) - y * Z ^ 3 = (py - y) * Z ^ 3 := by grind
theorem add_x {l x px D Z : Fin p} (hD : px = x + D) : l * D * Z ^ 3 * (l * D * Z ^ 3) - D * Z ^ 2 * (D * Z ^ 2) * (D * Z ^ 2) - (x * Z ^ 2 * (D * Z ^ 2 * (D * Z ^ 2)) + x * Z ^ 2 * (D * Z ^ 2 * (D * Z ^ 2))) = (l ^ 2 - x - px) * (Z * (D * Z ^ 2)) ^ 2 := by
  rw [hD]; clear hD; grind
theorem add_y {l x y x3 D Z X3 : Fin p} (hX : X3 = x3 * (Z * (D * Z ^ 2)) ^ 2) : l * D * Z ^ 3 * (x * Z ^ 2 * (D * Z ^ 2 * (D * Z ^ 2)) - X3) - y * Z ^ 3 * (D * Z ^ 2 * (D * Z ^ 2) * (D * Z ^ 2)) = (l * (x - x3) - y) * (Z * (D * Z ^ 2)) ^ 3 := by
  rw [hX]; clear hX; grind
theorem of_D {x px : Fin p} : px = x + (px - x) := by grind
theorem D_zero {x px : Fin p} (h : px - x = 0) : x = px := by
  have e : px = x + (px - x) := of_D
  rw [e, h]; clear e h; grind
theorem D_self {x : Fin p} : x - x = 0 := by grind
/-- A spot and a point of another X. -/
theorem Cv.spot_add (C : Cv p) {X Y Z px py A U X3 : Fin p} {o : Option (Fin p × Fin p)} (h : Spot X Y Z o) (on : C.OnO o) (hZ : Z ≠ 0) (onP : C.On (px, py))
    (hA : A = px * (Z * Z) - X) (hU : U = py * (Z * Z * Z) - Y) (h0 : A ≠ 0) (hX : X3 = U * U - A * A * A - (X * (A * A) + X * (A * A))) :
    Spot X3 (U * (X * (A * A) - X3) - Y * (A * A * A)) (Z * A) (C.add o (some (px, py))) := by
  rcases h with h | ⟨_, x, y, rfl, rfl, rfl⟩
  · exact absurd h.1 hZ
  · have on' : C.On (x, y) := on
    rw [acr] at hA
    have hx : px - x ≠ 0 := fun q => h0 (by rw [hA, q]; clear hA hU h0 hX q; grind)
    have hn : ¬ Opp (x, y) (px, py) := fun q => hx (by rw [show px = x from q.1.symm]; exact D_self)
    have L := C.lin on' onP hn
    rw [C.add_some on' onP hn L]
    rw [upp L.1] at hU
    subst hA hU
    have e3 := hX.trans (add_x (of_D (x := x)))
    exact .inr ⟨C.ne hZ h0, _, _, rfl, e3, add_y e3⟩
/-- A spot and a point of the same X: the same, or its negative. -/
theorem Cv.spot_meet (C : Cv p) {X Y Z px py A U : Fin p} {o : Option (Fin p × Fin p)} (h : Spot X Y Z o) (on : C.OnO o) (hZ : Z ≠ 0) (onP : C.On (px, py))
    (hA : A = px * (Z * Z) - X) (hU : U = py * (Z * Z * Z) - Y) (h0 : A = 0) : (U = 0 → o = some (px, py)) ∧ (U ≠ 0 → C.add o (some (px, py)) = none) := by
  rcases h with h | ⟨_, x, y, rfl, rfl, rfl⟩
  · exact absurd h.1 hZ
  · have on' : C.On (x, y) := on
    rw [acr, h0] at hA
    have hx : x = px := by
      rcases C.zero hA.symm with c | c
      · exact D_zero c
      · exact absurd c (C.sq hZ)
    subst hx
    rw [upq] at hU
    constructor
    · intro q
      rw [q] at hU
      rcases C.zero hU.symm with c | c
      · rw [D_zero c]
      · exact absurd c (C.cube hZ)
    · intro q
      by_cases hn : Opp (x, y) (x, py)
      · exact C.add_opp hn
      · exfalso
        have e : y = py := C.same on' onP rfl hn
        apply q
        rw [hU, ← e, D_self]; clear hU hA h0 q e; grind
end
end Go.Proofs.YtchphekaonnfeaaDoor

namespace Go.Proofs.YtchphekaonnfeaaDoor
section
variable {p : Nat} [NeZero p]
def Ovr (X Y Z : Fin p) (o : Option (Fin p × Fin p)) : Prop := (Z = 0 ∧ o = none) ∨ (Z ≠ 0 ∧ ∃ x y, o = some (x, y) ∧ X = x * Z ∧ Y = y * Z)
theorem ov_r {x Z i : Fin p} (h : Z * i = 1) : x * Z * i = x := by
  have e : x * Z * i = x * (Z * i) := by clear h; grind
  rw [e, h]; clear e h; grind
theorem Ovr.point {X Y Z i : Fin p} {o : Option (Fin p × Fin p)} (h : Ovr X Y Z o) (hZ : Z ≠ 0) (hi : Z * i = 1) : o = some (X * i, Y * i) := by
  rcases h with h | ⟨_, x, y, rfl, rfl, rfl⟩
  · exact absurd h.1 hZ
  · rw [ov_r hi, ov_r hi]
theorem Ovr.none {X Y : Fin p} {o : Option (Fin p × Fin p)} (h : Ovr X Y 0 o) : o = .none := by
  rcases h with h | h
  · exact h.2
  · exact absurd rfl h.1
theorem eight (a : Fin p) : 8 * a = 2 * (2 * (2 * a)) := by grind
end
end Go.Proofs.YtchphekaonnfeaaDoor

namespace Go.Proofs.YtchphekaonnfeaaDoor
section
variable {A : Type}
/-- The sum of what is made of each number and its point. -/
def Gr.tot (g : Gr A) (c : Nat → A → A) : List (Nat × A) → A
  | [] => g.z
  | x :: l => g.add (c x.1 x.2) (g.tot c l)
theorem Gr.swap (g : Gr A) (a b c d : A) : g.add (g.add a b) (g.add c d) = g.add (g.add a c) (g.add b d) := by
  rw [g.assoc, g.assoc]
  congr 1
  rw [← g.assoc, g.comm b c, g.assoc]
theorem Gr.tot_add (g : Gr A) (c c' : Nat → A → A) : ∀ l, g.tot (fun k a => g.add (c k a) (c' k a)) l = g.add (g.tot c l) (g.tot c' l)
  | [] => (g.zero _).symm
  | x :: l => by
    show g.add (g.add (c x.1 x.2) (c' x.1 x.2)) (g.tot _ l) = g.add (g.add _ _) (g.add _ _)
    rw [g.tot_add c c' l, g.swap]
theorem Gr.tot_snoc (g : Gr A) (c : Nat → A → A) (x : Nat × A) : ∀ (l : List (Nat × A)), g.tot c (l ++ [x]) = g.add (g.tot c l) (c x.1 x.2)
  | [] => by show g.add (c x.1 x.2) g.z = g.add g.z (c x.1 x.2); rw [g.zero, g.zero']
  | y :: l => by
    show g.add (c y.1 y.2) (g.tot c (l ++ [x])) = g.add (g.add (c y.1 y.2) (g.tot c l)) (c x.1 x.2)
    rw [g.tot_snoc c x l, g.assoc]
theorem Gr.tot_congr (g : Gr A) (c c' : Nat → A → A) : ∀ (l : List (Nat × A)), (∀ x ∈ l, c x.1 x.2 = c' x.1 x.2) → g.tot c l = g.tot c' l
  | [], _ => rfl
  | x :: l, h => by
    show g.add (c x.1 x.2) (g.tot c l) = g.add (c' x.1 x.2) (g.tot c' l)
    rw [h x List.mem_cons_self, g.tot_congr c c' l fun y hy => h y (List.mem_cons_of_mem x hy)]
/-- What has come of k behind the places down to i. -/
def clN (i k : Nat) : Nat := 3 * k / 2 ^ i - k / 2 ^ i
/-- What is added at the place i. -/
def Gr.dig (g : Gr A) (i k : Nat) (a : A) : A := if k / 2 ^ i % 2 < 3 * k / 2 ^ i % 2 then a else if 3 * k / 2 ^ i % 2 < k / 2 ^ i % 2 then g.neg a else g.z
theorem cl_start {k : Nat} (h : k < 2 ^ 256) : clN 258 k = 0 := by
  unfold clN
  rw [Nat.div_eq_of_lt (by omega : 3 * k < 2 ^ 258), Nat.zero_sub]
theorem cl_end (k : Nat) : clN 1 k = k := by unfold clN; omega
theorem halves (n i : Nat) : n / 2 ^ i = 2 * (n / 2 ^ (i + 1)) + n / 2 ^ i % 2 := by
  rw [Nat.pow_succ, ← Nat.div_div_eq_div_mul]; omega
theorem Gr.back (g : Gr A) (a b : A) : g.add (g.add a b) (g.neg b) = a := by rw [g.assoc, g.inv, g.zero]
theorem Gr.mul_two (g : Gr A) (n : Nat) (a : A) : g.mul (2 * n) a = g.add (g.mul n a) (g.mul n a) := by rw [Nat.two_mul, g.mul_add]
theorem Gr.cl_step (g : Gr A) (i k : Nat) (a : A) : g.mul (clN i k) a = g.add (g.add (g.mul (clN (i + 1) k) a) (g.mul (clN (i + 1) k) a)) (g.dig i k a) := by
  rw [← g.mul_two]
  have h3 := halves (3 * k) i
  have h1 := halves k i
  have m1 : k / 2 ^ (i + 1) ≤ 3 * k / 2 ^ (i + 1) := Nat.div_le_div_right (by omega)
  have m0 : k / 2 ^ i ≤ 3 * k / 2 ^ i := Nat.div_le_div_right (by omega)
  unfold clN Gr.dig
  generalize 3 * k / 2 ^ (i + 1) = a3 at *
  generalize k / 2 ^ (i + 1) = a1 at *
  generalize 3 * k / 2 ^ i = b3 at *
  generalize k / 2 ^ i = b1 at *
  by_cases c : b1 % 2 < b3 % 2
  · rw [if_pos c, show b3 - b1 = 2 * (a3 - a1) + 1 from by omega]; rfl
  · rw [if_neg c]
    by_cases d : b3 % 2 < b1 % 2
    · rw [if_pos d, show 2 * (a3 - a1) = (b3 - b1) + 1 from by omega]
      exact (g.back _ a).symm
    · rw [if_neg d, show b3 - b1 = 2 * (a3 - a1) from by omega, g.zero]
/-- One place of the climb: double, and add each point's digit. -/
theorem Gr.climb (g : Gr A) (i : Nat) (l : List (Nat × A)) : g.tot (fun k a => g.mul (clN i k) a) l = g.add (g.add (g.tot (fun k a => g.mul (clN (i + 1) k) a) l) (g.tot (fun k a => g.mul (clN (i + 1) k) a) l)) (g.tot (fun k a => g.dig i k a) l) := by
  rw [← g.tot_add, ← g.tot_add]
  exact g.tot_congr _ _ l fun x _ => g.cl_step i x.1 x.2
theorem Gr.tot_z (g : Gr A) (c : Nat → A → A) : ∀ (l : List (Nat × A)), (∀ x ∈ l, c x.1 x.2 = g.z) → g.tot c l = g.z
  | [], _ => rfl
  | x :: l, h => by
    show g.add (c x.1 x.2) (g.tot c l) = g.z
    rw [h x List.mem_cons_self, g.zero', g.tot_z c l fun y hy => h y (List.mem_cons_of_mem x hy)]
theorem Gr.climb_start (g : Gr A) (l : List (Nat × A)) (h : ∀ x ∈ l, x.1 < 2 ^ 256) : g.tot (fun k a => g.mul (clN 258 k) a) l = g.z :=
  g.tot_z _ l fun x hx => by show g.mul (clN 258 x.1) x.2 = g.z; rw [cl_start (h x hx)]; rfl
theorem Gr.climb_end (g : Gr A) (l : List (Nat × A)) : g.tot (fun k a => g.mul (clN 1 k) a) l = g.tot g.mul l :=
  g.tot_congr _ _ l fun x _ => by show g.mul (clN 1 x.1) x.2 = _; rw [cl_end]
/-- One bit of k times a point. -/
theorem Gr.times (g : Gr A) (i k : Nat) (a : A) : g.mul (k / 2 ^ i) a = g.add (g.add (g.mul (k / 2 ^ (i + 1)) a) (g.mul (k / 2 ^ (i + 1)) a)) (if k / 2 ^ i % 2 = 1 then a else g.z) := by
  rw [← g.mul_two]
  have h1 := halves k i
  by_cases c : k / 2 ^ i % 2 = 1
  · rw [if_pos c]
    rw [c] at h1
    rw [h1]; rfl
  · rw [if_neg c, g.zero]
    rw [show k / 2 ^ i % 2 = 0 from by omega, Nat.add_zero] at h1
    rw [h1]
end
end Go.Proofs.YtchphekaonnfeaaDoor

namespace Go.Proofs.YtchphekaonnfeaaDoor
abbrev mM (a b : Nat) : Nat := a * b % PP
abbrev aM (a b : Nat) : Nat := (a + b) % PP
abbrev sM (a b : Nat) : Nat := (a + PP - b) % PP
theorem mM_lt (a b : Nat) : mM a b < PP := Nat.mod_lt _ PPpos
theorem aM_lt (a b : Nat) : aM a b < PP := Nat.mod_lt _ PPpos
theorem sM_lt (a b : Nat) : sM a b < PP := Nat.mod_lt _ PPpos
theorem toF_mM (a b : Nat) : toF (mM a b) = toF a * toF b := (toF_mod _).trans (toF_mul a b)
theorem toF_aM (a b : Nat) : toF (aM a b) = toF a + toF b := (toF_mod _).trans (toF_add a b)
theorem sub_from {m : Nat} [NeZero m] {a b c : Fin m} (h : c + b = a) : c = a - b := by
  rw [← h]; clear h; grind
theorem plus_zero {m : Nat} [NeZero m] (a : Fin m) : a + 0 = a := by grind
theorem sub_cancel_le {a b p : Nat} (h : b < p) : a + p - b + b = a + p := by omega
theorem toF_sM {a b : Nat} (hb : b < PP) : toF (sM a b) = toF a - toF b := by
  refine (toF_mod _).trans (sub_from ?_)
  rw [← toF_add, sub_cancel_le hb, toF_add, toF_PP, plus_zero]
theorem toF_inj {a b : Nat} (ha : a < PP) (hb : b < PP) (h : toF a = toF b) : a = b := by
  have e := toF_eq.1 h
  rwa [Nat.mod_eq_of_lt ha, Nat.mod_eq_of_lt hb] at e
theorem toF_0 : toF 0 = 0 := Fin.ext (by rw [toF_val, zero_val, Nat.zero_mod])
theorem toF_1 : toF 1 = 1 := Fin.ext (by rw [toF_val, one_val]; kernel_rfl)
theorem toF_zero {a : Nat} (ha : a < PP) : toF a = 0 ↔ a = 0 := ⟨fun h => toF_inj ha PPpos (h.trans toF_0.symm), fun h => h ▸ toF_0⟩
theorem toF_inv {a : Nat} (ha : a < PP) (h0 : a ≠ 0) : toF a * toF (a ^ (PP - 2) % PP) = 1 := by
  have e : toF (a ^ (PP - 2) % PP) = invP (toF a) := by
    refine Fin.ext ?_
    rw [toF_val, Nat.mod_mod]
    show _ = (toF a).val ^ (PP - 2) % PP
    rw [toF_val, Nat.mod_eq_of_lt ha]
  rw [e]
  exact invP_ok _ fun q => h0 ((toF_zero ha).1 q)
/-- The code's test of a point. -/
theorem on_iff {x y : Nat} : secp.On (pt x y) ↔ mM y y = aM (mM (mM x x) x) 7 := by
  have e : toF y ^ 2 = toF x ^ 3 + 7 ↔ toF y * toF y = toF x * toF x * toF x + toF 7 := by
    rw [toF7]
    constructor
    · intro h; have := h; clear h; grind
    · exact on_of
  refine Iff.trans e ?_
  rw [← toF_mM y y, ← toF_mM x x, ← toF_mM _ x, ← toF_aM]
  exact ⟨toF_inj (mM_lt _ _) (aM_lt _ _), fun h => congrArg toF h⟩
def TH : Nat := 57896044618658097711785492504343953926634992332820282019728792003954417335833
theorem TH2 : (2 * TH) % PP = 3 % PP := by kernel_rfl
theorem toF2 : toF 2 = 2 := Fin.ext (by rw [toF_val, two_val]; kernel_rfl)
theorem three_val : (3 : FP).val = 3 := by kernel_rfl
theorem toF3 : toF 3 = 3 := Fin.ext (by rw [toF_val, three_val]; kernel_rfl)
theorem TH_ok : 2 * toF TH = 3 := by
  have e := toF_eq.2 TH2
  rwa [toF_mul, toF2, toF3] at e
/-- A spot of numbers below P. -/
structure SpotN (x y z : Nat) (o : Option (FP × FP)) : Prop where
  lx : x < PP
  ly : y < PP
  lz : z < PP
  is : Spot (toF x) (toF y) (toF z) o
theorem spotN_none : SpotN 0 0 0 none := ⟨PPpos, PPpos, PPpos, by rw [toF_0]; exact spot_none _ _⟩
theorem one_lt : 1 < PP := of_decide_eq_true (by kernel_rfl)
theorem spotN_at {x y : Nat} (hx : x < PP) (hy : y < PP) : SpotN x y 1 (some (pt x y)) := ⟨hx, hy, one_lt, by rw [toF_1]; exact secp.spot_at _ _⟩
theorem spotN_double {x y z sl sq mid X : Nat} {o : Option (FP × FP)} (h : SpotN x y z o) (on : secp.OnO o) (hz : z ≠ 0) (hsl : sl = mM (mM x x) TH) (hsq : sq = mM y y) (hmid : mid = mM x sq) (hX : X = sM (mM sl sl) (aM mid mid)) :
    SpotN X (sM (mM sl (sM mid X)) (mM sq sq)) (mM y z) (secp.add o o) := by
  have lX : X < PP := by rw [hX]; exact sM_lt _ _
  refine ⟨lX, sM_lt _ _, mM_lt _ _, ?_⟩
  have esl : toF sl = toF x * toF x * toF TH := by rw [hsl, toF_mM, toF_mM]
  have esq : toF sq = toF y * toF y := by rw [hsq, toF_mM]
  have emid : toF mid = toF x * (toF y * toF y) := by rw [hmid, toF_mM, esq]
  have eX : toF X = toF x * toF x * toF TH * (toF x * toF x * toF TH) - (toF x * (toF y * toF y) + toF x * (toF y * toF y)) := by
    rw [hX, toF_sM (aM_lt _ _), toF_mM, toF_aM, esl, emid]
  have k := secp.spot_double (t := toF TH) (X3 := toF X) h.is on (fun q => hz ((toF_zero h.lz).1 q)) TH_ok eX
  rw [toF_sM (mM_lt _ _), toF_mM, toF_mM, toF_mM, toF_sM lX, esl, esq, emid]
  exact k
theorem spotN_add {x y z px py sq A U a2 a3 mid X : Nat} {o : Option (FP × FP)} (h : SpotN x y z o) (on : secp.OnO o) (hz : z ≠ 0) (onP : secp.On (pt px py))
    (hsq : sq = mM z z) (hA : A = sM (mM px sq) x) (hU : U = sM (mM py (mM sq z)) y) (h0 : A ≠ 0) (h2 : a2 = mM A A) (h3 : a3 = mM a2 A) (hmid : mid = mM x a2) (hX : X = sM (sM (mM U U) a3) (aM mid mid)) :
    SpotN X (sM (mM U (sM mid X)) (mM y a3)) (mM z A) (secp.add o (some (pt px py))) := by
  have lX : X < PP := by rw [hX]; exact sM_lt _ _
  have lA : A < PP := by rw [hA]; exact sM_lt _ _
  have l3 : a3 < PP := by rw [h3]; exact mM_lt _ _
  refine ⟨lX, sM_lt _ _, mM_lt _ _, ?_⟩
  have esq : toF sq = toF z * toF z := by rw [hsq, toF_mM]
  have eA : toF A = toF px * (toF z * toF z) - toF x := by rw [hA, toF_sM h.lx, toF_mM, esq]
  have eU : toF U = toF py * (toF z * toF z * toF z) - toF y := by rw [hU, toF_sM h.ly, toF_mM, toF_mM, esq]
  have e2 : toF a2 = toF A * toF A := by rw [h2, toF_mM]
  have e3 : toF a3 = toF A * toF A * toF A := by rw [h3, toF_mM, e2]
  have emid : toF mid = toF x * (toF A * toF A) := by rw [hmid, toF_mM, e2]
  have eX : toF X = toF U * toF U - toF A * toF A * toF A - (toF x * (toF A * toF A) + toF x * (toF A * toF A)) := by
    rw [hX, toF_sM (aM_lt _ _), toF_sM l3, toF_mM, toF_aM, e3, emid]
  have k := secp.spot_add (A := toF A) (U := toF U) (X3 := toF X) h.is on (fun q => hz ((toF_zero h.lz).1 q)) onP eA eU (fun q => h0 ((toF_zero lA).1 q)) eX
  rw [toF_sM (mM_lt _ _), toF_mM, toF_mM, toF_mM, toF_sM lX, e3, emid]
  exact k
theorem spotN_meet {x y z px py sq A U : Nat} {o : Option (FP × FP)} (h : SpotN x y z o) (on : secp.OnO o) (hz : z ≠ 0) (onP : secp.On (pt px py))
    (hsq : sq = mM z z) (hA : A = sM (mM px sq) x) (hU : U = sM (mM py (mM sq z)) y) (h0 : A = 0) : (U = 0 → o = some (pt px py)) ∧ (U ≠ 0 → secp.add o (some (pt px py)) = none) := by
  have lU : U < PP := by rw [hU]; exact sM_lt _ _
  have esq : toF sq = toF z * toF z := by rw [hsq, toF_mM]
  have eA : toF A = toF px * (toF z * toF z) - toF x := by rw [hA, toF_sM h.lx, toF_mM, esq]
  have eU : toF U = toF py * (toF z * toF z * toF z) - toF y := by rw [hU, toF_sM h.ly, toF_mM, toF_mM, esq]
  have k := secp.spot_meet (A := toF A) (U := toF U) h.is on (fun q => hz ((toF_zero h.lz).1 q)) onP eA eU (by rw [h0, toF_0])
  exact ⟨fun q => k.1 ((toF_zero lU).2 q), fun q => k.2 fun c => q ((toF_zero lU).1 c)⟩
theorem spotN_point {x y z i sq : Nat} {o : Option (FP × FP)} (h : SpotN x y z o) (hz : z ≠ 0) (hi : i = z ^ (PP - 2) % PP) (hsq : sq = mM i i) : o = some (pt (mM x sq) (mM y (mM sq i))) := by
  have e : toF z * toF i = 1 := by rw [hi]; exact toF_inv h.lz hz
  have k := h.is.point (fun q => hz ((toF_zero h.lz).1 q)) e
  rw [k, hsq]
  unfold pt
  rw [toF_mM, toF_mM, toF_mM, toF_mM, toF_mM]
theorem spotN_zero {x y : Nat} {o : Option (FP × FP)} (h : SpotN x y 0 o) : o = none := by
  have k := h.is
  rw [toF_0] at k
  exact k.none
end Go.Proofs.YtchphekaonnfeaaDoor

namespace Go.Proofs.YtchphekaonnfeaaDoor
end Go.Proofs.YtchphekaonnfeaaDoor
