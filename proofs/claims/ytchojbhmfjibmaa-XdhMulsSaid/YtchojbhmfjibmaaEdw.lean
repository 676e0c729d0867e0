/- The curve x^2 + y^2 = 1 + d x^2 y^2 over a field, d no square: its points are a group. No program. -/
namespace Go.Proofs.Ytchojbhmfjibmaa

/-- Numbers modulo n are a field in which 2 isn't 0, iv tells inverses, and d times a square is a square only at 0. -/
structure Edw {n : Nat} [NeZero n] (d : Fin n) (iv : Fin n → Fin n) : Prop where
  dom : ∀ x y : Fin n, x * y = 0 → x = 0 ∨ y = 0
  two : (1 : Fin n) + 1 ≠ 0
  inv : ∀ x : Fin n, x ≠ 0 → x * iv x = 1
  nsq : ∀ s t : Fin n, s * s = d * (t * t) → t = 0

/-- The curve's points; the sum. -/
def OnE {n : Nat} [NeZero n] (d : Fin n) (P : Fin n × Fin n) : Prop := P.1 * P.1 + P.2 * P.2 = 1 + d * (P.1 * P.1) * (P.2 * P.2)
def tE {n : Nat} [NeZero n] (d : Fin n) (P Q : Fin n × Fin n) : Fin n := d * P.1 * Q.1 * P.2 * Q.2
def addE {n : Nat} [NeZero n] (d : Fin n) (iv : Fin n → Fin n) (P Q : Fin n × Fin n) : Fin n × Fin n :=
  ((P.1 * Q.2 + Q.1 * P.2) * iv (1 + tE d P Q), (P.2 * Q.2 - P.1 * Q.1) * iv (1 - tE d P Q))
def zeroE {n : Nat} [NeZero n] : Fin n × Fin n := (0, 1)
def mulE {n : Nat} [NeZero n] (d : Fin n) (iv : Fin n → Fin n) (P : Fin n × Fin n) : Nat → Fin n × Fin n
  | 0 => zeroE
  | k + 1 => addE d iv (mulE d iv P k) P

section
variable {n : Nat} [NeZero n] {d : Fin n} {iv : Fin n → Fin n}

theorem Edw.cancel (E : Edw d iv) {a x y : Fin n} (ha : a ≠ 0) (h : x * a = y * a) : x = y := by
  have h1 : a * (x - y) = 0 := by grind
  rcases E.dom a (x - y) h1 with h2 | h2
  · exact absurd h2 ha
  · grind
theorem Edw.nz2 (E : Edw d iv) {a b : Fin n} (ha : a ≠ 0) (hb : b ≠ 0) : a * b ≠ 0 := by
  intro h
  rcases E.dom a b h with h | h
  · exact ha h
  · exact hb h

/-- What would be a divisor 0: never. -/
theorem Edw.ne_aux (E : Edw d iv) {x1 y1 x2 y2 e : Fin n} (h1 : x1 * x1 + y1 * y1 = 1 + d * (x1 * x1) * (y1 * y1)) (h2 : x2 * x2 + y2 * y2 = 1 + d * (x2 * x2) * (y2 * y2))
    (he : e * e = 1) (ht : d * x1 * x2 * y1 * y2 = e) : False := by
  have e0 : e ≠ 0 := by rintro rfl; have := E.two; apply this; grind
  have key : ∀ s : Fin n, s * s = 1 → (x1 + s * e * y1) * (x1 + s * e * y1) = d * ((x1 * y1 * (x2 + s * y2)) * (x1 * y1 * (x2 + s * y2))) := by
    intro s hs
    grind
  have k1 := E.nsq _ _ (key 1 (by grind))
  have k2 := E.nsq _ _ (key (-1) (by grind))
  have hx1 : x1 ≠ 0 := by rintro rfl; apply e0; grind
  have hy1 : y1 ≠ 0 := by rintro rfl; apply e0; grind
  have hx2 : x2 ≠ 0 := by rintro rfl; apply e0; grind
  have hxy := E.nz2 hx1 hy1
  have z1 : x2 + y2 = 0 := by
    rcases E.dom _ _ k1 with h | h
    · exact absurd h hxy
    · grind
  have z2 : x2 - y2 = 0 := by
    rcases E.dom _ _ k2 with h | h
    · exact absurd h hxy
    · grind
  have z3 : (1 + 1) * x2 = 0 := by grind
  rcases E.dom _ _ z3 with h | h
  · exact E.two h
  · exact hx2 h
theorem Edw.plus_nz (E : Edw d iv) {P Q : Fin n × Fin n} (hP : OnE d P) (hQ : OnE d Q) : 1 + tE d P Q ≠ 0 := by
  intro h
  exact E.ne_aux (e := -1) hP hQ (by grind) (by unfold tE at h; grind)
theorem Edw.minus_nz (E : Edw d iv) {P Q : Fin n × Fin n} (hP : OnE d P) (hQ : OnE d Q) : 1 - tE d P Q ≠ 0 := by
  intro h
  exact E.ne_aux (e := 1) hP hQ (by grind) (by unfold tE at h; grind)

/-- A sum, by its two equations. -/
theorem Edw.sum_x (E : Edw d iv) {P Q : Fin n × Fin n} (hP : OnE d P) (hQ : OnE d Q) : (addE d iv P Q).1 * (1 + tE d P Q) = P.1 * Q.2 + Q.1 * P.2 := by
  have h := E.inv _ (E.plus_nz hP hQ)
  show (P.1 * Q.2 + Q.1 * P.2) * iv (1 + tE d P Q) * (1 + tE d P Q) = _
  grind
theorem Edw.sum_y (E : Edw d iv) {P Q : Fin n × Fin n} (hP : OnE d P) (hQ : OnE d Q) : (addE d iv P Q).2 * (1 - tE d P Q) = P.2 * Q.2 - P.1 * Q.1 := by
  have h := E.inv _ (E.minus_nz hP hQ)
  show (P.2 * Q.2 - P.1 * Q.1) * iv (1 - tE d P Q) * (1 - tE d P Q) = _
  grind

theorem closed_key (d x1 y1 x2 y2 : Fin n) (h1 : x1 * x1 + y1 * y1 = 1 + d * (x1 * x1) * (y1 * y1)) (h2 : x2 * x2 + y2 * y2 = 1 + d * (x2 * x2) * (y2 * y2)) :
    ((x1 * y2 + x2 * y1) * (1 - d * x1 * x2 * y1 * y2)) * ((x1 * y2 + x2 * y1) * (1 - d * x1 * x2 * y1 * y2)) + ((y1 * y2 - x1 * x2) * (1 + d * x1 * x2 * y1 * y2)) * ((y1 * y2 - x1 * x2) * (1 + d * x1 * x2 * y1 * y2))
    = ((1 + d * x1 * x2 * y1 * y2) * (1 - d * x1 * x2 * y1 * y2)) * ((1 + d * x1 * x2 * y1 * y2) * (1 - d * x1 * x2 * y1 * y2)) + d * (((x1 * y2 + x2 * y1) * (y1 * y2 - x1 * x2)) * ((x1 * y2 + x2 * y1) * (y1 * y2 - x1 * x2))) := by
  grind
theorem Edw.closed (E : Edw d iv) {P Q : Fin n × Fin n} (hP : OnE d P) (hQ : OnE d Q) : OnE d (addE d iv P Q) := by
  have hx := E.sum_x hP hQ
  have hy := E.sum_y hP hQ
  have n1 := E.plus_nz hP hQ
  have n2 := E.minus_nz hP hQ
  unfold OnE
  generalize (addE d iv P Q).1 = x at *
  generalize (addE d iv P Q).2 = y at *
  have key := closed_key d P.1 P.2 Q.1 Q.2 hP hQ
  unfold tE at *
  generalize P.1 * Q.2 + Q.1 * P.2 = a at *
  generalize P.2 * Q.2 - P.1 * Q.1 = b at *
  generalize d * P.1 * Q.1 * P.2 * Q.2 = t at *
  have nz := E.nz2 (E.nz2 n1 n2) (E.nz2 n1 n2)
  refine E.cancel nz ?_
  subst hx; subst hy
  grind

theorem assoc_x (d x1 y1 x2 y2 x3 y3 : Fin n) (h1 : x1 * x1 + y1 * y1 = 1 + d * (x1 * x1) * (y1 * y1)) (h2 : x2 * x2 + y2 * y2 = 1 + d * (x2 * x2) * (y2 * y2)) (h3 : x3 * x3 + y3 * y3 = 1 + d * (x3 * x3) * (y3 * y3)) :
    ((x1 * y2 + x2 * y1) * y3 * (1 - d * x1 * x2 * y1 * y2) + x3 * (y1 * y2 - x1 * x2) * (1 + d * x1 * x2 * y1 * y2)) *
      ((1 - (d * x2 * x3 * y2 * y3) * (d * x2 * x3 * y2 * y3)) + d * ((x2 * y3 + x3 * y2) * (y2 * y3 - x2 * x3) * x1 * y1)) =
    ((x2 * y3 + x3 * y2) * y1 * (1 - d * x2 * x3 * y2 * y3) + x1 * (y2 * y3 - x2 * x3) * (1 + d * x2 * x3 * y2 * y3)) *
      ((1 - (d * x1 * x2 * y1 * y2) * (d * x1 * x2 * y1 * y2)) + d * ((x1 * y2 + x2 * y1) * (y1 * y2 - x1 * x2) * x3 * y3)) := by
  grind
theorem assoc_y (d x1 y1 x2 y2 x3 y3 : Fin n) (h1 : x1 * x1 + y1 * y1 = 1 + d * (x1 * x1) * (y1 * y1)) (h2 : x2 * x2 + y2 * y2 = 1 + d * (x2 * x2) * (y2 * y2)) (h3 : x3 * x3 + y3 * y3 = 1 + d * (x3 * x3) * (y3 * y3)) :
    ((y1 * y2 - x1 * x2) * y3 * (1 + d * x1 * x2 * y1 * y2) - x3 * (x1 * y2 + x2 * y1) * (1 - d * x1 * x2 * y1 * y2)) *
      ((1 - (d * x2 * x3 * y2 * y3) * (d * x2 * x3 * y2 * y3)) - d * ((x2 * y3 + x3 * y2) * (y2 * y3 - x2 * x3) * x1 * y1)) =
    ((y2 * y3 - x2 * x3) * y1 * (1 + d * x2 * x3 * y2 * y3) - x1 * (x2 * y3 + x3 * y2) * (1 - d * x2 * x3 * y2 * y3)) *
      ((1 - (d * x1 * x2 * y1 * y2) * (d * x1 * x2 * y1 * y2)) - d * ((x1 * y2 + x2 * y1) * (y1 * y2 - x1 * x2) * x3 * y3)) := by
  grind
end
end Go.Proofs.Ytchojbhmfjibmaa
