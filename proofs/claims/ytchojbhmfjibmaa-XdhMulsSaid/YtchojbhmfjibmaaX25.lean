/- Modulo 2^255 - 19: a field; the curve of X25519 and its twist; products with products; the order of 9. No program. -/
import Derived.Test.YtchojbhmfjibmaaLadB
import Derived.Test.YtchojbhmfjibmaaPrimes
namespace Go.Proofs.Ytchojbhmfjibmaa

theorem pF_pos : 0 < pF := by decide +kernel
instance : NeZero pF := ⟨by decide +kernel⟩
/-- Powers, one factor at a time. -/
def pw {n : Nat} [NeZero n] (x : Fin n) : Nat → Fin n
  | 0 => 1
  | e + 1 => pw x e * x
theorem pw_val {n : Nat} [NeZero n] (x : Fin n) : ∀ e, (pw x e).val = x.val ^ e % n
  | 0 => by
    show (1 : Fin n).val = _
    rw [Nat.pow_zero]; rfl
  | e + 1 => by
    show (pw x e * x).val = _
    rw [Fin.val_mul, pw_val x e, Nat.pow_succ, Nat.mod_mul_mod]
theorem pw_add {n : Nat} [NeZero n] (x : Fin n) (a : Nat) : ∀ b, pw x (a + b) = pw x a * pw x b
  | 0 => by show pw x a = pw x a * 1; grind
  | b + 1 => by
    show pw x (a + b) * x = pw x a * (pw x b * x)
    rw [pw_add x a b]; grind
theorem pw_mul {n : Nat} [NeZero n] (x y : Fin n) : ∀ b, pw (x * y) b = pw x b * pw y b
  | 0 => by show (1 : Fin n) = 1 * 1; grind
  | b + 1 => by
    show pw (x * y) b * (x * y) = (pw x b * x) * (pw y b * y)
    rw [pw_mul x y b]; grind
theorem pw_pw {n : Nat} [NeZero n] (x : Fin n) (a : Nat) : ∀ b, pw (pw x a) b = pw x (a * b)
  | 0 => rfl
  | b + 1 => by
    show pw (pw x a) b * pw x a = _
    rw [pw_pw x a b, Nat.mul_succ, pw_add]
theorem pw_one {n : Nat} [NeZero n] : ∀ b, pw (1 : Fin n) b = 1
  | 0 => rfl
  | b + 1 => by show pw (1 : Fin n) b * 1 = 1; rw [pw_one b]; grind

def ivF (x : Fin pF) : Fin pF := pw x (pF - 2)
theorem fin_eq {x y : Fin pF} (h : x.val = y.val) : x = y := Fin.ext h
theorem fermatF {x : Fin pF} (h : x ≠ 0) : pw x (pF - 1) = 1 := by
  refine fin_eq ?_
  rw [pw_val]
  have := pF_prime.2 x.val (by
    rw [Nat.mod_eq_of_lt x.isLt]
    intro h0; exact h (fin_eq h0))
  rw [this]; decide +kernel
theorem ivF_inv (x : Fin pF) (h : x ≠ 0) : x * ivF x = 1 := by
  have := fermatF h
  rw [show pF - 1 = (pF - 2) + 1 by decide +kernel] at this
  have e : pw x ((pF - 2) + 1) = pw x (pF - 2) * x := rfl
  rw [e] at this
  unfold ivF; grind
theorem pw_zero {n : Nat} [NeZero n] (e : Nat) (h : 0 < e) : pw (0 : Fin n) e = 0 := by
  obtain ⟨k, rfl⟩ : ∃ k, e = k + 1 := ⟨e - 1, by omega⟩
  show pw (0 : Fin n) k * 0 = 0
  grind
theorem ivF_0 : ivF 0 = 0 := pw_zero _ (by decide +kernel)
theorem domF (x y : Fin pF) (h : x * y = 0) : x = 0 ∨ y = 0 := by
  have hv : (x.val * y.val) % pF = 0 := by rw [← Fin.val_mul, h]; rfl
  rcases irr_mul pF_prime.1 (Nat.dvd_of_mod_eq_zero hv) with h1 | h1
  · left; refine fin_eq ?_; have := Nat.mod_eq_zero_of_dvd h1; rw [Nat.mod_eq_of_lt x.isLt] at this; exact this
  · right; refine fin_eq ?_; have := Nat.mod_eq_zero_of_dvd h1; rw [Nat.mod_eq_of_lt y.isLt] at this; exact this

/-- Half of p - 1: of a square it tells 1. -/
def hF : Nat := (pF - 1) / 2
theorem pw_val_N (x : Fin pF) (e : Nat) (h : e < 2 ^ 600) : (pw x e).val = powN pF x.val e := by rw [pw_val, powN_eq _ _ _ h]
theorem no_square {d : Fin pF} (hd : powN pF d.val hF = pF - 1) (s t : Fin pF) (h : s * s = d * (t * t)) : t = 0 := by
  apply Classical.byContradiction
  intro ht
  have h1 : pw (s * s) hF = pw (d * (t * t)) hF := by rw [h]
  rw [pw_mul, pw_mul, pw_mul, ← pw_add, ← pw_add, show hF + hF = pF - 1 by decide +kernel, fermatF ht] at h1
  have h2 : pw d hF = -1 := by
    refine fin_eq ?_
    rw [pw_val_N d hF (by decide +kernel), hd]; decide +kernel
  rw [h2] at h1
  have h4 : (-1 * 1 : Fin pF) ≠ 0 := by decide +kernel
  have h5 : (-1 * 1 : Fin pF) ≠ 1 := by decide +kernel
  by_cases hs : s = 0
  · rw [hs, pw_zero _ (by decide +kernel)] at h1
    exact h4 h1.symm
  · rw [fermatF hs] at h1
    exact h5 h1.symm

/-- The curve's number d, a = 121665 = d / (1 - d), and those of the twist. -/
def dF : Fin pF := ⟨20800338683988658368647408995589388737092878452977063003340006470870624536394, by decide +kernel⟩
def dT : Fin pF := ⟨28692721048178265397853269683490922171210976843790175684556505508326675974058, by decide +kernel⟩
def aF : Fin pF := ⟨121665, by decide +kernel⟩
theorem aF_is : aF * (1 - dF) = dF := by decide +kernel
theorem dT_is : dF * dT = 1 := by decide +kernel
theorem edwF : Edw dF ivF := ⟨domF, by decide +kernel, ivF_inv, fun s t h => no_square (by decide +kernel) s t h⟩
theorem edwT : Edw dT ivF := ⟨domF, by decide +kernel, ivF_inv, fun s t h => no_square (by decide +kernel) s t h⟩
theorem aT_is : (-1 - aF) * (1 - dT) = dT := by decide +kernel

/-- A root of -1; each number is a square, or dT times it is one. -/
def rF : Fin pF := ⟨19681161376707505956807079304988542015446066515923890162744021073123829784752, by decide +kernel⟩
theorem rF_is : rF * rF = -1 := by decide +kernel
theorem root_of {z : Fin pF} (h : pw z hF = 1) : ∃ w, w * w = z := by
  have h1 : pw z ((pF - 1) / 4) * pw z ((pF - 1) / 4) = 1 := by
    rw [← pw_add, show (pF - 1) / 4 + (pF - 1) / 4 = hF by decide +kernel, h]
  have h2 : pw z ((pF + 3) / 8) * pw z ((pF + 3) / 8) = pw z ((pF - 1) / 4) * z := by
    rw [← pw_add, show (pF + 3) / 8 + (pF + 3) / 8 = (pF - 1) / 4 + 1 by decide +kernel]
    rfl
  have h3 : (pw z ((pF - 1) / 4) - 1) * (pw z ((pF - 1) / 4) + 1) = 0 := by
    generalize pw z ((pF - 1) / 4) = q at *
    grind
  rcases domF _ _ h3 with h4 | h4
  · refine ⟨pw z ((pF + 3) / 8), ?_⟩
    rw [h2]
    generalize pw z ((pF - 1) / 4) = q at *
    clear h1 h2 h3 h
    grind
  · refine ⟨pw z ((pF + 3) / 8) * rF, ?_⟩
    have h5 : pw z ((pF + 3) / 8) * rF * (pw z ((pF + 3) / 8) * rF) = (pw z ((pF + 3) / 8) * pw z ((pF + 3) / 8)) * (rF * rF) := by
      generalize pw z ((pF + 3) / 8) = q; clear h1 h2 h3 h h4
      grind
    rw [h5, h2, rF_is]
    generalize pw z ((pF - 1) / 4) = q at *
    clear h1 h2 h3 h h5
    grind
theorem square_or (z : Fin pF) : (∃ w, w * w = z) ∨ (∃ w, w * w = dT * z) := by
  by_cases h0 : z = 0
  · left; refine ⟨0, ?_⟩; rw [h0]; decide +kernel
  · have h1 : (pw z hF - 1) * (pw z hF + 1) = 0 := by
      have : pw z hF * pw z hF = 1 := by rw [← pw_add, show hF + hF = pF - 1 by decide +kernel, fermatF h0]
      generalize pw z hF = q at *
      grind
    rcases domF _ _ h1 with h2 | h2
    · left
      refine root_of ?_
      generalize pw z hF = q at *
      grind
    · right
      refine root_of ?_
      have h3 : pw dT hF = -1 := by
        refine fin_eq ?_
        rw [pw_val_N dT hF (by decide +kernel)]; decide +kernel
      rw [pw_mul, h3]
      generalize pw z hF = q at *
      clear h1 h0 h3
      grind

/-- Where the number under the root is a square, there is a point with that u. -/
theorem Edw.lift {n : Nat} [NeZero n] {d : Fin n} {iv : Fin n → Fin n} (E : Edw d iv) {u w : Fin n} (hu : u ≠ 0) (hw : w * w = u * ((u + 1) * (u + 1) - d * ((u - 1) * (u - 1)))) :
    ∃ g, OnE d g ∧ uOf iv g = u := by
  have hc : (u + 1) * (u + 1) - d * ((u - 1) * (u - 1)) ≠ 0 := by
    intro h
    have h1 := E.nsq (u + 1) (u - 1) (by clear hw; grind)
    have h2 : (1 + 1) * ((1 : Fin n) + 1) = 0 := by clear hw; grind
    rcases E.dom _ _ h2 with h | h <;> exact E.two h
  have hu1 : u + 1 ≠ 0 := by
    intro h
    have h1 := E.nsq w (1 + 1) (by rw [hw]; clear hw hc; grind)
    exact E.two h1
  have hw0 : w ≠ 0 := by
    rintro rfl
    have : u * ((u + 1) * (u + 1) - d * ((u - 1) * (u - 1))) = 0 := by rw [← hw]; clear hw hc; grind
    rcases E.dom _ _ this with h | h
    · exact hu h
    · exact hc h
  have i1 := E.inv _ hw0
  have i2 := E.inv _ hu1
  have hy : (u - 1) * iv (u + 1) * (u + 1) = u - 1 := by
    generalize iv (u + 1) = b at *
    clear hw hc
    grind
  have hx : (1 + 1) * u * iv w * w = (1 + 1) * u := by
    generalize iv w = b at *
    clear hw hc hy i2
    grind
  refine ⟨((1 + 1) * u * iv w, (u - 1) * iv (u + 1)), ?_, ?_⟩
  · unfold OnE
    show (1 + 1) * u * iv w * ((1 + 1) * u * iv w) + (u - 1) * iv (u + 1) * ((u - 1) * iv (u + 1)) = 1 + d * ((1 + 1) * u * iv w * ((1 + 1) * u * iv w)) * ((u - 1) * iv (u + 1) * ((u - 1) * iv (u + 1)))
    generalize (1 + 1) * u * iv w = x at *
    generalize (u - 1) * iv (u + 1) = y at *
    refine E.cancel (E.nz2 (E.nz2 hw0 hw0) (E.nz2 hu1 hu1)) ?_
    have l : (x * x + y * y) * (w * w * ((u + 1) * (u + 1))) = (x * w) * (x * w) * ((u + 1) * (u + 1)) + (y * (u + 1)) * (y * (u + 1)) * (w * w) := by clear hw hc hx hy i1 i2; grind
    have r : (1 + d * (x * x) * (y * y)) * (w * w * ((u + 1) * (u + 1))) = w * w * ((u + 1) * (u + 1)) + d * ((x * w) * (x * w)) * ((y * (u + 1)) * (y * (u + 1))) := by clear hw hc hx hy i1 i2; grind
    rw [l, r, hx, hy, hw]
    clear l r hx hy hw hc i1 i2
    grind
  · unfold uOf
    show (1 + (u - 1) * iv (u + 1)) * iv (1 - (u - 1) * iv (u + 1)) = u
    generalize (u - 1) * iv (u + 1) = y at *
    have e1 : (1 - y) * (u + 1) = 1 + 1 := by clear hw hc hx i1 i2; grind
    have e2 : (1 + y) * (u + 1) = (1 + 1) * u := by clear hw hc hx i1 i2; grind
    have hn : 1 - y ≠ 0 := by
      intro h
      rw [h] at e1
      apply E.two
      clear hw hc hx i1 i2 hy e2
      grind
    have i3 := E.inv _ hn
    refine E.cancel (E.nz2 hn hu1) ?_
    generalize iv (1 - y) = c at *
    have l : (1 + y) * c * ((1 - y) * (u + 1)) = ((1 + y) * (u + 1)) * ((1 - y) * c) := by clear hw hc hx i1 i2 hy e1 e2 i3; grind
    rw [l, i3, e1, e2]
    clear hw hc hx i1 i2 hy e1 e2 i3 l
    grind

/-- Each u but 0 is a point's on the curve, or its negative one's on the twist. -/
theorem some_point (u : Fin pF) (hu : u ≠ 0) : (∃ g, OnE dF g ∧ uOf ivF g = u) ∨ (∃ g, OnE dT g ∧ uOf ivF g = -u) := by
  rcases square_or (u * ((u + 1) * (u + 1) - dF * ((u - 1) * (u - 1)))) with ⟨w, hw⟩ | ⟨w, hw⟩
  · left; exact edwF.lift hu hw
  · right
    refine edwT.lift (u := -u) (w := w) (by intro h; apply hu; grind) ?_
    rw [hw]
    have h := dT_is
    generalize dF = d at *
    generalize dT = e at *
    clear hw
    have l : e * (u * ((u + 1) * (u + 1) - d * ((u - 1) * (u - 1)))) = u * (e * ((u + 1) * (u + 1)) - (d * e) * ((u - 1) * (u - 1))) := by clear h; grind
    rw [l, h]
    clear l h
    grind

/-- X25519 on numbers: the ladder of 255 bits. -/
def xmul (k : Nat) (u : Fin pF) : Fin pF := ladOut ivF aF u 255 k
theorem out_twistF (u : Fin pF) (k : Nat) : xmul k u = -ladOut ivF (-1 - aF) (-u) 255 k := by
  have := edwF.out_twist ivF_0 aF u 255 k
  unfold xmul
  rw [this]; grind
theorem xmul_zero (k : Nat) : xmul k 0 = 0 := lad_out_zero ivF_0 aF 255 k (by decide)
theorem xmul_comm (k l : Nat) (hk : k < 2 ^ 255) (hl : l < 2 ^ 255) (u : Fin pF) : xmul k (xmul l u) = xmul l (xmul k u) := by
  by_cases hu : u = 0
  · subst hu; rw [xmul_zero, xmul_zero, xmul_zero]
  · rcases some_point u hu with ⟨g, hg, h⟩ | ⟨g, hg, h⟩
    · unfold xmul
      rw [← h, edwF.lad_comm ivF_0 aF_is hg 255 k l (by decide) hk hl, edwF.lad_comm ivF_0 aF_is hg 255 l k (by decide) hl hk, Nat.mul_comm]
    · have nn : ∀ x : Fin pF, - -x = x := fun x => by grind
      rw [out_twistF (xmul l u) k, out_twistF (xmul k u) l, out_twistF u k, out_twistF u l, nn, nn, ← h,
        edwT.lad_comm ivF_0 aT_is hg 255 k l (by decide) hk hl, edwT.lad_comm ivF_0 aT_is hg 255 l k (by decide) hl hk, Nat.mul_comm]

/-! ### What is never 0 -/
section
variable {n : Nat} [NeZero n] {d : Fin n} {iv : Fin n → Fin n}
theorem Edw.mul_gcd (E : Edw d iv) {g : Fin n × Fin n} (hg : OnE d g) : ∀ (j k : Nat), mulE d iv g j = zeroE → mulE d iv g k = zeroE → mulE d iv g (Nat.gcd j k) = zeroE := by
  intro j
  induction j using Nat.strongRecOn with
  | _ j ih =>
    intro k hj hk
    rcases Nat.eq_zero_or_pos j with h0 | h0
    · subst h0; rw [Nat.gcd_zero_left]; exact hk
    · rw [Nat.gcd_rec]
      refine ih (k % j) (Nat.mod_lt _ h0) j ?_ hj
      have h1 := hk
      have h2 : ∀ t, mulE d iv g (j * t) = zeroE := by
        intro t
        induction t with
        | zero => rfl
        | succ t iht => rw [Nat.mul_succ, E.mul_add hg, iht, hj, E.zero_add]
      rw [← Nat.div_add_mod k j, E.mul_add hg, h2, E.zero_add] at h1
      exact h1
/-- A multiple whose u is told as 0: its double is neutral. -/
theorem Edw.flat_twice (E : Edw d iv) {P : Fin n × Fin n} (hx : P.1 = 0) (hy : P.2 * P.2 = 1) : addE d iv P P = zeroE := by
  have ht : tE d P P = 0 := by unfold tE; rw [hx]; grind
  refine Prod.ext ?_ ?_
  · show (P.1 * P.2 + P.1 * P.2) * iv (1 + tE d P P) = 0
    rw [hx]; grind
  · show (P.2 * P.2 - P.1 * P.1) * iv (1 - tE d P P) = 1
    have : (1 : Fin n) - 0 = 1 := by grind
    rw [ht, hx, hy, this, E.iv1]
    grind
theorem Edw.never0 (E : Edw d iv) (iv0 : iv 0 = 0) {g : Fin n × Fin n} (hg : OnE d g) (hu : uOf iv g ≠ 0) {q : Nat} (hq : Irr q) (h2 : 2 < q) (hz : mulE d iv g q = zeroE) {m : Nat} (hm : ¬ q ∣ m) : uOf iv (mulE d iv g m) ≠ 0 := by
  intro h
  obtain ⟨fx, fy⟩ := E.u_flat (E.mul_on hg m) h
  have h2m : mulE d iv g (m + m) = zeroE := by rw [E.mul_add hg]; exact E.flat_twice fx fy
  have hgcd := E.mul_gcd hg (m + m) q h2m hz
  rcases irr_gcd (c := m + m) hq with h1 | h1
  · rw [h1, E.mul_one] at hgcd
    apply hu
    rw [hgcd]
    unfold uOf zeroE
    have : (1 : Fin n) - 1 = 0 := by grind
    show (1 + 1) * iv (1 - 1) = 0
    rw [this, iv0]; grind
  · rw [show m + m = 2 * m by omega] at h1
    rcases irr_mul hq h1 with h3 | h3
    · have := Nat.le_of_dvd (by omega) h3; omega
    · exact hm h3
end
end Go.Proofs.Ytchojbhmfjibmaa
