/- The curve's sums are associative; multiples of a point. No program. -/
import Derived.Test.YtchojbhmfjibmaaEdw
namespace Go.Proofs.Ytchojbhmfjibmaa
section
variable {n : Nat} [NeZero n] {d : Fin n} {iv : Fin n → Fin n}

theorem zero_on : OnE d (zeroE : Fin n × Fin n) := by
  show (0 : Fin n) * 0 + 1 * 1 = 1 + d * (0 * 0) * (1 * 1)
  grind
theorem Edw.iv1 (E : Edw d iv) : iv 1 = 1 := by
  have h : (1 : Fin n) ≠ 0 := by intro h; apply E.two; grind
  have := E.inv 1 h
  grind
theorem addE_comm (P Q : Fin n × Fin n) : addE d iv P Q = addE d iv Q P := by
  have h : tE d P Q = tE d Q P := by unfold tE; grind
  have h1 : P.1 * Q.2 + Q.1 * P.2 = Q.1 * P.2 + P.1 * Q.2 := by grind
  have h2 : P.2 * Q.2 - P.1 * Q.1 = Q.2 * P.2 - Q.1 * P.1 := by grind
  show ((P.1 * Q.2 + Q.1 * P.2) * iv (1 + tE d P Q), (P.2 * Q.2 - P.1 * Q.1) * iv (1 - tE d P Q)) = ((Q.1 * P.2 + P.1 * Q.2) * iv (1 + tE d Q P), (Q.2 * P.2 - Q.1 * P.1) * iv (1 - tE d Q P))
  rw [h, h1, h2]
theorem Edw.zero_add (E : Edw d iv) (P : Fin n × Fin n) : addE d iv zeroE P = P := by
  have h : tE d zeroE P = 0 := by unfold tE zeroE; grind
  show (((0 : Fin n) * P.2 + P.1 * 1) * iv (1 + tE d zeroE P), ((1 : Fin n) * P.2 - 0 * P.1) * iv (1 - tE d zeroE P)) = P
  rw [h]
  have h1 : (1 : Fin n) + 0 = 1 := by grind
  have h2 : (1 : Fin n) - 0 = 1 := by grind
  rw [h1, h2, E.iv1]
  have h3 : ((0 : Fin n) * P.2 + P.1 * 1) * 1 = P.1 := by grind
  have h4 : ((1 : Fin n) * P.2 - 0 * P.1) * 1 = P.2 := by grind
  rw [h3, h4]
theorem Edw.add_zero (E : Edw d iv) (P : Fin n × Fin n) : addE d iv P zeroE = P := by rw [addE_comm, E.zero_add]

/-- The two ways of three points: the equations of one way. -/
theorem three_x {x t1 a b y3 x3 X Y d : Fin n} (hX : X * (1 + t1) = a) (hY : Y * (1 - t1) = b) (hx : x * (1 + d * X * x3 * Y * y3) = X * y3 + x3 * Y) :
    x * ((1 - t1 * t1) + d * (a * b * x3 * y3)) = a * y3 * (1 - t1) + x3 * b * (1 + t1) := by
  subst hX; subst hY
  grind
theorem three_y {y t1 a b y3 x3 X Y d : Fin n} (hX : X * (1 + t1) = a) (hY : Y * (1 - t1) = b) (hy : y * (1 - d * X * x3 * Y * y3) = Y * y3 - X * x3) :
    y * ((1 - t1 * t1) - d * (a * b * x3 * y3)) = b * y3 * (1 + t1) - x3 * a * (1 - t1) := by
  subst hX; subst hY
  grind
theorem Edw.three_nzp (E : Edw d iv) {P Q R : Fin n × Fin n} (hP : OnE d P) (hQ : OnE d Q) (hR : OnE d R) :
    (1 - tE d P Q * tE d P Q) + d * ((P.1 * Q.2 + Q.1 * P.2) * (P.2 * Q.2 - P.1 * Q.1) * R.1 * R.2) ≠ 0 := by
  have hx := E.sum_x hP hQ
  have hy := E.sum_y hP hQ
  have n1 := E.plus_nz hP hQ
  have n2 := E.minus_nz hP hQ
  have n3 := E.plus_nz (E.closed hP hQ) hR
  unfold tE at n3
  generalize (addE d iv P Q).1 = X at *
  generalize (addE d iv P Q).2 = Y at *
  generalize tE d P Q = t at *
  rw [← hx, ← hy]
  have := E.nz2 (E.nz2 n1 n2) n3
  intro h; apply this
  clear hx hy n1 n2 n3 this
  grind
theorem Edw.three_nzm (E : Edw d iv) {P Q R : Fin n × Fin n} (hP : OnE d P) (hQ : OnE d Q) (hR : OnE d R) :
    (1 - tE d P Q * tE d P Q) - d * ((P.1 * Q.2 + Q.1 * P.2) * (P.2 * Q.2 - P.1 * Q.1) * R.1 * R.2) ≠ 0 := by
  have hx := E.sum_x hP hQ
  have hy := E.sum_y hP hQ
  have n1 := E.plus_nz hP hQ
  have n2 := E.minus_nz hP hQ
  have n3 := E.minus_nz (E.closed hP hQ) hR
  unfold tE at n3
  generalize (addE d iv P Q).1 = X at *
  generalize (addE d iv P Q).2 = Y at *
  generalize tE d P Q = t at *
  rw [← hx, ← hy]
  have := E.nz2 (E.nz2 n1 n2) n3
  intro h; apply this
  clear hx hy n1 n2 n3 this
  grind
theorem crossed {L R A B NL NR : Fin n} (h1 : L * A = NL) (h2 : R * B = NR) (h3 : NL * B = NR * A) : L * (A * B) = R * (A * B) := by
  subst h1; subst h2
  grind

theorem Edw.assoc (E : Edw d iv) {P Q R : Fin n × Fin n} (hP : OnE d P) (hQ : OnE d Q) (hR : OnE d R) :
    addE d iv (addE d iv P Q) R = addE d iv P (addE d iv Q R) := by
  have hPQ := E.closed hP hQ
  have hQR := E.closed hQ hR
  have l := E.sum_x hPQ hR
  have l' := E.sum_y hPQ hR
  have r := E.sum_x hQR hP
  have r' := E.sum_y hQR hP
  unfold tE at l l' r r'
  have lx := three_x (E.sum_x hP hQ) (E.sum_y hP hQ) l
  have ly := three_y (E.sum_x hP hQ) (E.sum_y hP hQ) l'
  have rx := three_x (E.sum_x hQ hR) (E.sum_y hQ hR) r
  have ry := three_y (E.sum_x hQ hR) (E.sum_y hQ hR) r'
  have ax := assoc_x d P.1 P.2 Q.1 Q.2 R.1 R.2 hP hQ hR
  have ay := assoc_y d P.1 P.2 Q.1 Q.2 R.1 R.2 hP hQ hR
  have nl := E.three_nzp hP hQ hR
  have nl' := E.three_nzm hP hQ hR
  have nr := E.three_nzp hQ hR hP
  have nr' := E.three_nzm hQ hR hP
  rw [addE_comm P (addE d iv Q R)]
  unfold tE at lx ly rx ry nl nl' nr nr'
  have e1 := E.cancel (E.nz2 nl nr) (crossed lx rx ax)
  have e2 := E.cancel (E.nz2 nl' nr') (crossed ly ry ay)
  exact Prod.ext e1 e2

/-! ### Multiples -/
theorem Edw.mul_on (E : Edw d iv) {P : Fin n × Fin n} (hP : OnE d P) : ∀ k, OnE d (mulE d iv P k)
  | 0 => zero_on
  | k + 1 => E.closed (E.mul_on hP k) hP
theorem Edw.mul_one (E : Edw d iv) (P : Fin n × Fin n) : mulE d iv P 1 = P := E.zero_add P
theorem Edw.mul_add (E : Edw d iv) {P : Fin n × Fin n} (hP : OnE d P) (a : Nat) : ∀ b, mulE d iv P (a + b) = addE d iv (mulE d iv P a) (mulE d iv P b)
  | 0 => (E.add_zero _).symm
  | b + 1 => by
    show addE d iv (mulE d iv P (a + b)) P = addE d iv (mulE d iv P a) (addE d iv (mulE d iv P b) P)
    rw [E.mul_add hP a b, E.assoc (E.mul_on hP a) (E.mul_on hP b) hP]
theorem Edw.mul_mul (E : Edw d iv) {P : Fin n × Fin n} (hP : OnE d P) (a : Nat) : ∀ b, mulE d iv (mulE d iv P a) b = mulE d iv P (a * b)
  | 0 => rfl
  | b + 1 => by
    show addE d iv (mulE d iv (mulE d iv P a) b) (mulE d iv P a) = _
    rw [E.mul_mul hP a b, ← E.mul_add hP, Nat.mul_succ]
end
end Go.Proofs.Ytchojbhmfjibmaa
