/- Montgomery's ladder goes through the multiples of a point of the curve. No program. -/
import Derived.Test.YtchojbhmfjibmaaEdwB
namespace Go.Proofs.Ytchojbhmfjibmaa

/-- One double, one sum of two whose difference has the u given; a step of the ladder; the ladder by the upper i of N bits of k; what it tells. -/
def ladD {n : Nat} [NeZero n] (a X Z : Fin n) : Fin n × Fin n :=
  (((X + Z) * (X + Z)) * ((X - Z) * (X - Z)), ((X + Z) * (X + Z) - (X - Z) * (X - Z)) * ((X + Z) * (X + Z) + a * ((X + Z) * (X + Z) - (X - Z) * (X - Z))))
def ladA {n : Nat} [NeZero n] (u X Z X' Z' : Fin n) : Fin n × Fin n :=
  (((X - Z) * (X' + Z') + (X + Z) * (X' - Z')) * ((X - Z) * (X' + Z') + (X + Z) * (X' - Z')),
   u * (((X - Z) * (X' + Z') - (X + Z) * (X' - Z')) * ((X - Z) * (X' + Z') - (X + Z) * (X' - Z'))))
def ladStep {n : Nat} [NeZero n] (a u : Fin n) (bit : Bool) (S : (Fin n × Fin n) × (Fin n × Fin n)) : (Fin n × Fin n) × (Fin n × Fin n) :=
  if bit then (ladA u S.2.1 S.2.2 S.1.1 S.1.2, ladD a S.2.1 S.2.2) else (ladD a S.1.1 S.1.2, ladA u S.1.1 S.1.2 S.2.1 S.2.2)
def ladTo {n : Nat} [NeZero n] (a u : Fin n) (N k : Nat) : Nat → (Fin n × Fin n) × (Fin n × Fin n)
  | 0 => ((1, 0), (u, 1))
  | i + 1 => ladStep a u (k / 2 ^ (N - (i + 1)) % 2 == 1) (ladTo a u N k i)
def ladOut {n : Nat} [NeZero n] (iv : Fin n → Fin n) (a u : Fin n) (N k : Nat) : Fin n := (ladTo a u N k N).1.1 * iv (ladTo a u N k N).1.2

def uOf {n : Nat} [NeZero n] (iv : Fin n → Fin n) (P : Fin n × Fin n) : Fin n := (1 + P.2) * iv (1 - P.2)
/-- (X : Z) is a point's u. -/
def RelE {n : Nat} [NeZero n] (S P : Fin n × Fin n) : Prop := S.1 + S.2 ≠ 0 ∧ S.1 - S.2 = P.2 * (S.1 + S.2)

section
variable {n : Nat} [NeZero n] {d : Fin n} {iv : Fin n → Fin n}

theorem Edw.one_nz (E : Edw d iv) : (1 : Fin n) ≠ 0 := by intro h; apply E.two; grind
theorem Edw.d1 (E : Edw d iv) : 1 - d ≠ 0 := by
  intro h
  exact E.one_nz (E.nsq 1 1 (by grind))
theorem Edw.dsq (E : Edw d iv) (y : Fin n) : 1 - d * (y * y) ≠ 0 := by
  intro h
  have := E.nsq 1 y (by grind)
  subst this
  exact E.one_nz (by grind)

theorem dbl_key (d x y Y : Fin n) (hP : x * x + y * y = 1 + d * (x * x) * (y * y)) (hY : Y * (1 - d * x * x * y * y) = y * y - x * x) :
    (1 - d * x * x * y * y) * (1 - d * (y * y)) * (Y * (y * y * (1 - d) + (1 - y * y) * (1 - d * (y * y))) - (y * y * (1 - d) - (1 - y * y) * (1 - d * (y * y)))) = 0 := by
  grind
theorem dbl_key2 (d x y : Fin n) (hP : x * x + y * y = 1 + d * (x * x) * (y * y)) :
    y * y * (1 - d) + (1 - y * y) * (1 - d * (y * y)) = (1 - d * x * x * y * y) * (1 - d * (y * y)) := by
  grind
theorem dbl_alg (a d s y Y : Fin n) (ha : a * (1 - d) = d) (h : Y * (y * y * (1 - d) + (1 - y * y) * (1 - d * (y * y))) = y * y * (1 - d) - (1 - y * y) * (1 - d * (y * y))) :
    ((s * s) * ((y * s) * (y * s)) - (s * s - (y * s) * (y * s)) * (s * s + a * (s * s - (y * s) * (y * s)))) * (1 - d)
      = Y * ((s * s) * ((y * s) * (y * s)) + (s * s - (y * s) * (y * s)) * (s * s + a * (s * s - (y * s) * (y * s)))) * (1 - d) := by
  have e1 : ((s * s) * ((y * s) * (y * s)) - (s * s - (y * s) * (y * s)) * (s * s + a * (s * s - (y * s) * (y * s)))) * (1 - d) = s * s * s * s * (y * y * (1 - d) - (1 - y * y) * (1 - d * (y * y))) := by grind
  have e2 : ((s * s) * ((y * s) * (y * s)) + (s * s - (y * s) * (y * s)) * (s * s + a * (s * s - (y * s) * (y * s)))) * (1 - d) = s * s * s * s * (y * y * (1 - d) + (1 - y * y) * (1 - d * (y * y))) := by grind
  grind
theorem Edw.double (E : Edw d iv) {a : Fin n} (ha : a * (1 - d) = d) {P S : Fin n × Fin n} (hP : OnE d P) (h : RelE S P) : RelE (ladD a S.1 S.2) (addE d iv P P) := by
  obtain ⟨h1, h2⟩ := h
  have hy := E.sum_y hP hP
  have n2 := E.minus_nz hP hP
  unfold tE at hy n2
  have n3 := E.dsq P.2
  have k := dbl_key d P.1 P.2 _ hP hy
  have k2 := dbl_key2 d P.1 P.2 hP
  have hk : (addE d iv P P).2 * (P.2 * P.2 * (1 - d) + (1 - P.2 * P.2) * (1 - d * (P.2 * P.2))) = P.2 * P.2 * (1 - d) - (1 - P.2 * P.2) * (1 - d * (P.2 * P.2)) := by
    rcases E.dom _ _ k with h | h
    · exact absurd h (E.nz2 n2 n3)
    · generalize (addE d iv P P).2 * (P.2 * P.2 * (1 - d) + (1 - P.2 * P.2) * (1 - d * (P.2 * P.2))) = l at *
      clear k k2 hy n2 n3 hP
      grind
  have al := dbl_alg a d (S.1 + S.2) P.2 _ ha hk
  rw [← h2] at al
  refine ⟨?_, E.cancel E.d1 al⟩
  intro h0
  have h0' : ((S.1 + S.2) * (S.1 + S.2)) * ((S.1 - S.2) * (S.1 - S.2)) + ((S.1 + S.2) * (S.1 + S.2) - (S.1 - S.2) * (S.1 - S.2)) * ((S.1 + S.2) * (S.1 + S.2) + a * ((S.1 + S.2) * (S.1 + S.2) - (S.1 - S.2) * (S.1 - S.2))) = 0 := h0
  rw [h2] at h0'
  have nz := E.nz2 (E.nz2 (E.nz2 h1 h1) (E.nz2 h1 h1)) (E.nz2 n2 n3)
  rw [← k2] at nz
  apply nz
  generalize S.1 + S.2 = s at *
  generalize P.2 = y at *
  clear al hk k k2 hy n2 n3 h2 h0 nz
  grind

/-! ### The sum of two whose difference is known -/
def negE (P : Fin n × Fin n) : Fin n × Fin n := (-P.1, P.2)
theorem neg_on {P : Fin n × Fin n} (h : OnE d P) : OnE d (negE P) := by
  unfold OnE at *
  show (-P.1) * (-P.1) + P.2 * P.2 = 1 + d * ((-P.1) * (-P.1)) * (P.2 * P.2)
  grind
theorem Edw.add_neg (E : Edw d iv) {P : Fin n × Fin n} (h : OnE d P) : addE d iv P (negE P) = zeroE := by
  have hx := E.sum_x h (neg_on h)
  have hy := E.sum_y h (neg_on h)
  have n1 := E.plus_nz h (neg_on h)
  have n2 := E.minus_nz h (neg_on h)
  unfold OnE at h
  unfold tE negE at *
  refine Prod.ext (E.cancel n1 ?_) (E.cancel n2 ?_)
  · rw [hx]; show P.1 * P.2 + (-P.1) * P.2 = 0 * _; grind
  · rw [hy]; show P.2 * P.2 - P.1 * (-P.1) = 1 * _; grind
/-- What is left, if one is taken away. -/
theorem Edw.less (E : Edw d iv) {P Q g : Fin n × Fin n} (hP : OnE d P) (hg : OnE d g) (h : Q = addE d iv P g) : addE d iv Q (negE P) = g := by
  rw [h, addE_comm P g, E.assoc hg hP (neg_on hP), E.add_neg hP, E.add_zero]

theorem diff_key (d x1 y1 x2 y2 S G : Fin n) (h1 : x1 * x1 + y1 * y1 = 1 + d * (x1 * x1) * (y1 * y1)) (h2 : x2 * x2 + y2 * y2 = 1 + d * (x2 * x2) * (y2 * y2))
    (hS : S * (1 - d * x1 * x2 * y1 * y2) = y1 * y2 - x1 * x2) (hG : G * (1 + d * x1 * x2 * y1 * y2) = y1 * y2 + x1 * x2) :
    ((1 + S) * (1 + G) * ((y1 - y2) * (y1 - y2))) * ((1 - d * x1 * x2 * y1 * y2) * (1 + d * x1 * x2 * y1 * y2))
      = ((1 - S) * (1 - G) * ((y1 + y2) * (y1 + y2))) * ((1 - d * x1 * x2 * y1 * y2) * (1 + d * x1 * x2 * y1 * y2)) := by
  have e1 : ((1 + S) * (1 + G) * ((y1 - y2) * (y1 - y2))) * ((1 - d * x1 * x2 * y1 * y2) * (1 + d * x1 * x2 * y1 * y2))
      = ((1 - d * x1 * x2 * y1 * y2) + (y1 * y2 - x1 * x2)) * ((1 + d * x1 * x2 * y1 * y2) + (y1 * y2 + x1 * x2)) * ((y1 - y2) * (y1 - y2)) := by
    rw [← hS, ← hG]; clear h1 h2 hS hG; grind
  have e2 : ((1 - S) * (1 - G) * ((y1 + y2) * (y1 + y2))) * ((1 - d * x1 * x2 * y1 * y2) * (1 + d * x1 * x2 * y1 * y2))
      = ((1 - d * x1 * x2 * y1 * y2) - (y1 * y2 - x1 * x2)) * ((1 + d * x1 * x2 * y1 * y2) - (y1 * y2 + x1 * x2)) * ((y1 + y2) * (y1 + y2)) := by
    rw [← hS, ← hG]; clear h1 h2 hS hG; grind
  rw [e1, e2]
  clear e1 e2 hS hG
  grind
theorem diff_alg (u y1 y2 k S G : Fin n) (hu : u * (1 - G) = 1 + G) (h : (1 + S) * (1 + G) * ((y1 - y2) * (y1 - y2)) = (1 - S) * (1 - G) * ((y1 + y2) * (y1 + y2))) :
    (((y1 * k + y2 * k) * (y1 * k + y2 * k)) - u * ((y1 * k - y2 * k) * (y1 * k - y2 * k))) * (1 - G)
      = S * (((y1 * k + y2 * k) * (y1 * k + y2 * k)) + u * ((y1 * k - y2 * k) * (y1 * k - y2 * k))) * (1 - G) := by
  have e : u * ((y1 * k - y2 * k) * (y1 * k - y2 * k)) * (1 - G) = k * k * ((1 + G) * ((y1 - y2) * (y1 - y2))) := by rw [← hu]; grind
  grind

theorem Edw.diffadd (E : Edw d iv) {u : Fin n} {P Q g S T : Fin n × Fin n} (hP : OnE d P) (hQ : OnE d Q) (hg : OnE d g) (hd : Q = addE d iv P g ∨ P = addE d iv Q g)
    (hu : u * (1 - g.2) = 1 + g.2) (hu0 : u ≠ 0) (hS : RelE S P) (hT : RelE T Q) : RelE (ladA u S.1 S.2 T.1 T.2) (addE d iv P Q) := by
  have n1 := E.plus_nz hP hQ
  have n2 := E.minus_nz hP hQ
  have hs := E.sum_y hP hQ
  have hG : g.2 * (1 + d * P.1 * Q.1 * P.2 * Q.2) = P.2 * Q.2 + P.1 * Q.1 := by
    rcases hd with h | h
    · have := E.sum_y hQ (neg_on hP)
      rw [E.less hP hg h] at this
      unfold tE negE at this
      clear hs n1 n2 hS hT hu hu0 h
      have e : g.2 * (1 - d * Q.1 * (-P.1) * Q.2 * P.2) = Q.2 * P.2 - Q.1 * (-P.1) := this
      clear this
      grind
    · have := E.sum_y hP (neg_on hQ)
      rw [E.less hQ hg h] at this
      unfold tE negE at this
      clear hs n1 n2 hS hT hu hu0 h
      have e : g.2 * (1 - d * P.1 * (-Q.1) * P.2 * Q.2) = P.2 * Q.2 - P.1 * (-Q.1) := this
      clear this
      grind
  have hg1 : 1 - g.2 ≠ 0 := by
    intro h
    have : (1 : Fin n) + 1 = 0 := by clear hs n1 n2 hS hT hG; grind
    exact E.two this
  unfold tE at n1 n2 hs
  have key := E.cancel (E.nz2 n2 n1) (diff_key d P.1 P.2 Q.1 Q.2 _ _ hP hQ hs hG)
  obtain ⟨s1, s2⟩ := hS
  obtain ⟨t1, t2⟩ := hT
  have al := E.cancel hg1 (diff_alg u P.2 Q.2 ((S.1 + S.2) * (T.1 + T.2)) _ _ hu key)
  have ev : P.2 * ((S.1 + S.2) * (T.1 + T.2)) = (S.1 - S.2) * (T.1 + T.2) := by rw [s2]; clear al key hs hG; grind
  have ew : Q.2 * ((S.1 + S.2) * (T.1 + T.2)) = (S.1 + S.2) * (T.1 - T.2) := by rw [t2]; clear al key hs hG; grind
  have al' := al
  rw [ev, ew] at al'
  refine ⟨?_, al'⟩
  intro h0
  have h0' : ((S.1 - S.2) * (T.1 + T.2) + (S.1 + S.2) * (T.1 - T.2)) * ((S.1 - S.2) * (T.1 + T.2) + (S.1 + S.2) * (T.1 - T.2)) + u * (((S.1 - S.2) * (T.1 + T.2) - (S.1 + S.2) * (T.1 - T.2)) * ((S.1 - S.2) * (T.1 + T.2) - (S.1 + S.2) * (T.1 - T.2))) = 0 := h0
  rw [← ev, ← ew] at h0'
  have nk := E.nz2 s1 t1
  generalize (S.1 + S.2) * (T.1 + T.2) = k at *
  have hxy : ∀ x : Fin n, x * x = 0 → x = 0 := fun x hx => by rcases E.dom x x hx with h | h <;> exact h
  have htw : ∀ x : Fin n, (1 + 1) * x = 0 → x = 0 := fun x hx => by
    rcases E.dom _ x hx with h | h
    · exact absurd h E.two
    · exact h
  generalize hyP : P.2 = y1 at *
  generalize hyQ : Q.2 = y2 at *
  have z1 : (y1 * k + y2 * k) * (y1 * k + y2 * k) = 0 := by
    apply htw
    rw [h0'] at al
    generalize (y1 * k + y2 * k) * (y1 * k + y2 * k) = m at *
    generalize u * ((y1 * k - y2 * k) * (y1 * k - y2 * k)) = l at *
    clear hG hs key al' ev ew n1 n2 hu
    grind
  have z2 : u * ((y1 * k - y2 * k) * (y1 * k - y2 * k)) = 0 := by
    rw [z1] at h0'
    generalize u * ((y1 * k - y2 * k) * (y1 * k - y2 * k)) = l at *
    clear hG hs key al al' ev ew n1 n2 hu
    grind
  have z3 : k * (y1 + y2) = 0 := by
    have := hxy _ z1
    clear hG hs key al al' ev ew n1 n2 hu h0 h0' z1 z2
    grind
  have z4 : k * (y1 - y2) = 0 := by
    rcases E.dom _ _ z2 with h | h
    · exact absurd h hu0
    · have := hxy _ h
      clear hG hs key al al' ev ew n1 n2 hu h0 h0' z1 z2 z3
      grind
  have z5 : y1 + y2 = 0 := by
    rcases E.dom _ _ z3 with h | h
    · exact absurd h nk
    · exact h
  have z6 : y1 - y2 = 0 := by
    rcases E.dom _ _ z4 with h | h
    · exact absurd h nk
    · exact h
  have z7 : y1 = 0 := by
    apply htw
    clear hG hs key al al' ev ew n1 n2 hu h0 h0' z1 z2 z3 z4
    grind
  have z8 : y2 = 0 := by
    clear hG hs key al al' ev ew n1 n2 hu h0 h0' z1 z2 z3 z4 z6
    grind
  have hP' : P.1 * P.1 = 1 := by
    unfold OnE at hP
    rw [hyP, z7] at hP
    clear hG hs key al al' ev ew n1 n2 hu h0 h0' z1 z2 z3 z4
    grind
  have hQ' : Q.1 * Q.1 = 1 := by
    unfold OnE at hQ
    rw [hyQ, z8] at hQ
    clear hG hs key al al' ev ew n1 n2 hu h0 h0' z1 z2 z3 z4
    grind
  have hG' : g.2 = P.1 * Q.1 := by
    rw [z7, z8] at hG
    clear hs key al al' ev ew n1 n2 hu h0 h0' z1 z2 z3 z4
    grind
  have hgg : (1 - g.2) * (1 + g.2) = 0 := by
    rw [hG']
    clear hG hG' hs key al al' ev ew n1 n2 hu h0 h0' z1 z2 z3 z4
    grind
  rcases E.dom _ _ hgg with h | h
  · exact hg1 h
  · rw [h] at hu
    rcases E.dom _ _ hu with h | h
    · exact hu0 h
    · exact hg1 h
end
end Go.Proofs.Ytchojbhmfjibmaa
