/- What the ladder tells is the u of the multiple; on the twist too; whichever number comes first. No program. -/
import Derived.Test.YtchojbhmfjibmaaLad
namespace Go.Proofs.Ytchojbhmfjibmaa
section
variable {n : Nat} [NeZero n] {d : Fin n} {iv : Fin n → Fin n}

theorem Edw.iv_uniq (E : Edw d iv) {x y : Fin n} (h : x * y = 1) : iv x = y := by
  have hx : x ≠ 0 := by rintro rfl; apply E.one_nz; grind
  have := E.inv x hx
  refine E.cancel hx ?_
  grind
/-- X / Z is the point's u. -/
theorem Edw.rel_out (E : Edw d iv) (iv0 : iv 0 = 0) {S P : Fin n × Fin n} (h : RelE S P) : S.1 * iv S.2 = uOf iv P := by
  obtain ⟨h1, h2⟩ := h
  unfold uOf
  have e1 : (1 + 1) * S.1 = (1 + P.2) * (S.1 + S.2) := by grind
  have e2 : (1 + 1) * S.2 = (1 - P.2) * (S.1 + S.2) := by grind
  by_cases hz : S.2 = 0
  · have : (1 - P.2) * (S.1 + S.2) = 0 := by rw [← e2, hz]; grind
    have hp : 1 - P.2 = 0 := by
      rcases E.dom _ _ this with h | h
      · exact h
      · exact absurd h h1
    rw [hz, hp, iv0]; grind
  · have hp : 1 - P.2 ≠ 0 := by
      intro hp
      rw [hp] at e2
      have : (1 + 1) * S.2 = 0 := by rw [e2]; grind
      rcases E.dom _ _ this with h | h
      · exact E.two h
      · exact hz h
    have i1 := E.inv _ hz
    have i2 := E.inv _ hp
    refine E.cancel (E.nz2 (E.nz2 hz hp) (E.nz2 E.two h1)) ?_
    generalize iv S.2 = a at *
    generalize iv (1 - P.2) = b at *
    generalize S.1 + S.2 = s at *
    generalize 1 - P.2 = q at *
    have l : S.1 * a * (S.2 * q * ((1 + 1) * s)) = S.1 * q * ((1 + 1) * s) * (S.2 * a) := by grind
    have r : (1 + P.2) * b * (S.2 * q * ((1 + 1) * s)) = (1 + P.2) * S.2 * ((1 + 1) * s) * (q * b) := by grind
    rw [l, r, i1, i2]
    have l2 : S.1 * q * ((1 + 1) * s) * 1 = ((1 + 1) * S.1) * (q * s) := by grind
    have r2 : (1 + P.2) * S.2 * ((1 + 1) * s) * 1 = ((1 + P.2) * s) * ((1 + 1) * S.2) := by grind
    rw [l2, r2, e1, e2]

theorem bit_shift (k N i : Nat) (hi : i < N) : k / 2 ^ (N - i) * 2 + k / 2 ^ (N - (i + 1)) % 2 = k / 2 ^ (N - (i + 1)) := by
  have h : k / 2 ^ (N - i) = k / 2 ^ (N - (i + 1)) / 2 := by
    rw [Nat.div_div_eq_div_mul, ← Nat.pow_succ, show (N - (i + 1)).succ = N - i by omega]
  rw [h]; omega

/-- Step by step: the two of the ladder are a multiple, and the next one. -/
theorem Edw.lad_rel (E : Edw d iv) {a u : Fin n} (ha : a * (1 - d) = d) {g : Fin n × Fin n} (hg : OnE d g) (hu : u * (1 - g.2) = 1 + g.2) (hu0 : u ≠ 0) (N k : Nat) (hk : k < 2 ^ N) :
    ∀ i, i ≤ N → RelE (ladTo a u N k i).1 (mulE d iv g (k / 2 ^ (N - i))) ∧ RelE (ladTo a u N k i).2 (mulE d iv g (k / 2 ^ (N - i) + 1))
  | 0, _ => by
    have e : k / 2 ^ (N - 0) = 0 := Nat.div_eq_of_lt hk
    rw [e]
    refine ⟨⟨?_, ?_⟩, ?_, ?_⟩
    · show (1 : Fin n) + 0 ≠ 0
      intro h; apply E.one_nz; grind
    · show (1 : Fin n) - 0 = 1 * (1 + 0)
      grind
    · show u + 1 ≠ 0
      intro h
      apply E.two
      grind
    · show u - 1 = (mulE d iv g 1).2 * (u + 1)
      rw [E.mul_one]
      grind
  | i + 1, hi => by
    obtain ⟨h1, h2⟩ := E.lad_rel ha hg hu hu0 N k hk i (by omega)
    have hb := bit_shift k N i (by omega)
    have hm := E.mul_on hg (k / 2 ^ (N - i))
    have hm1 := E.mul_on hg (k / 2 ^ (N - i) + 1)
    have hq : mulE d iv g (k / 2 ^ (N - i) + 1) = addE d iv (mulE d iv g (k / 2 ^ (N - i))) g := rfl
    show RelE (ladStep a u (k / 2 ^ (N - (i + 1)) % 2 == 1) (ladTo a u N k i)).1 _ ∧ RelE (ladStep a u (k / 2 ^ (N - (i + 1)) % 2 == 1) (ladTo a u N k i)).2 _
    unfold ladStep
    by_cases hbit : k / 2 ^ (N - (i + 1)) % 2 = 1
    · rw [if_pos (by simp [hbit])]
      rw [← hb, hbit]
      refine ⟨?_, ?_⟩
      · have := E.diffadd hm1 hm hg (.inr hq) hu hu0 h2 h1
        rw [addE_comm, ← E.mul_add hg] at this
        rw [show k / 2 ^ (N - i) * 2 + 1 = k / 2 ^ (N - i) + (k / 2 ^ (N - i) + 1) by omega]
        exact this
      · have := E.double ha hm1 h2
        rw [← E.mul_add hg] at this
        rw [show k / 2 ^ (N - i) * 2 + 1 + 1 = (k / 2 ^ (N - i) + 1) + (k / 2 ^ (N - i) + 1) by omega]
        exact this
    · rw [if_neg (by simp [hbit])]
      have h0 : k / 2 ^ (N - (i + 1)) % 2 = 0 := by omega
      rw [← hb, h0]
      refine ⟨?_, ?_⟩
      · have := E.double ha hm h1
        rw [← E.mul_add hg] at this
        rw [show k / 2 ^ (N - i) * 2 + 0 = k / 2 ^ (N - i) + k / 2 ^ (N - i) by omega]
        exact this
      · have := E.diffadd hm hm1 hg (.inl hq) hu hu0 h1 h2
        rw [← E.mul_add hg] at this
        rw [show k / 2 ^ (N - i) * 2 + 0 + 1 = k / 2 ^ (N - i) + (k / 2 ^ (N - i) + 1) by omega]
        exact this

/-- With u 0 nothing comes. -/
theorem lad_zero (a : Fin n) (N k : Nat) : ∀ i, (ladTo a 0 N k i).1.1 * (ladTo a 0 N k i).1.2 = 0 ∧ (ladTo a 0 N k i).2.1 * (ladTo a 0 N k i).2.2 = 0 ∧ (0 < i → (ladTo a 0 N k i).1.2 = 0 ∧ (ladTo a 0 N k i).2.2 = 0)
  | 0 => by
    refine ⟨?_, ?_, fun h => absurd h (by omega)⟩
    · show (1 : Fin n) * 0 = 0
      grind
    · show (0 : Fin n) * 1 = 0
      grind
  | i + 1 => by
    obtain ⟨h1, h2, _⟩ := lad_zero a N k i
    have key : ∀ X Z : Fin n, X * Z = 0 → (ladD a X Z).2 = 0 := by
      intro X Z h
      show ((X + Z) * (X + Z) - (X - Z) * (X - Z)) * ((X + Z) * (X + Z) + a * ((X + Z) * (X + Z) - (X - Z) * (X - Z))) = 0
      grind
    have key2 : ∀ X Z X' Z' : Fin n, (ladA 0 X Z X' Z').2 = 0 := by
      intro X Z X' Z'
      show (0 : Fin n) * _ = 0
      grind
    have both : (ladTo a 0 N k (i + 1)).1.2 = 0 ∧ (ladTo a 0 N k (i + 1)).2.2 = 0 := by
      show (ladStep a 0 (k / 2 ^ (N - (i + 1)) % 2 == 1) (ladTo a 0 N k i)).1.2 = 0 ∧ (ladStep a 0 (k / 2 ^ (N - (i + 1)) % 2 == 1) (ladTo a 0 N k i)).2.2 = 0
      unfold ladStep
      split
      · exact ⟨key2 _ _ _ _, key _ _ h2⟩
      · exact ⟨key _ _ h1, key2 _ _ _ _⟩
    refine ⟨?_, ?_, fun _ => both⟩
    · rw [both.1]; grind
    · rw [both.2]; grind
theorem lad_out_zero (iv0 : iv 0 = 0) (a : Fin n) (N k : Nat) (hN : 0 < N) : ladOut iv a 0 N k = 0 := by
  have := ((lad_zero a N k N).2.2 hN).1
  unfold ladOut
  rw [this, iv0]; grind

/-- A point whose u is told as 0 is neutral, or the one of order 2; and so are its multiples. -/
theorem Edw.mul_flat (E : Edw d iv) (iv0 : iv 0 = 0) {g : Fin n × Fin n} (hx : g.1 = 0) (hy : g.2 * g.2 = 1) : ∀ k, (mulE d iv g k).1 = 0 ∧ (mulE d iv g k).2 * (mulE d iv g k).2 = 1
  | 0 => ⟨rfl, by show (1 : Fin n) * 1 = 1; grind⟩
  | k + 1 => by
    obtain ⟨h1, h2⟩ := E.mul_flat iv0 hx hy k
    have ht : tE d (mulE d iv g k) g = 0 := by unfold tE; rw [hx]; grind
    refine ⟨?_, ?_⟩
    · show ((mulE d iv g k).1 * g.2 + g.1 * (mulE d iv g k).2) * iv (1 + tE d (mulE d iv g k) g) = 0
      rw [h1, hx]; grind
    · show ((mulE d iv g k).2 * g.2 - (mulE d iv g k).1 * g.1) * iv (1 - tE d (mulE d iv g k) g) * (((mulE d iv g k).2 * g.2 - (mulE d iv g k).1 * g.1) * iv (1 - tE d (mulE d iv g k) g)) = 1
      have : (1 : Fin n) - 0 = 1 := by grind
      rw [ht, this, E.iv1, h1, hx]
      generalize (mulE d iv g k).2 = z at *
      grind
theorem Edw.flat_u (E : Edw d iv) (iv0 : iv 0 = 0) {P : Fin n × Fin n} (hy : P.2 * P.2 = 1) : uOf iv P = 0 := by
  have h : (1 + P.2) * (1 - P.2) = 0 := by grind
  unfold uOf
  rcases E.dom _ _ h with h | h
  · rw [h]; grind
  · rw [h, iv0]; grind
theorem Edw.u_flat (E : Edw d iv) {P : Fin n × Fin n} (hP : OnE d P) (h : uOf iv P = 0) : P.1 = 0 ∧ P.2 * P.2 = 1 := by
  have hy : P.2 * P.2 = 1 := by
    unfold uOf at h
    rcases E.dom _ _ h with h | h
    · grind
    · have : (1 - P.2) = 0 := by
        apply Classical.byContradiction
        intro hn
        have := E.inv _ hn
        rw [h] at this
        apply E.one_nz
        grind
      grind
  refine ⟨?_, hy⟩
  unfold OnE at hP
  rw [hy] at hP
  have h2 : (1 - d) * (P.1 * P.1) = 0 := by grind
  rcases E.dom _ _ h2 with h | h
  · exact absurd h E.d1
  · rcases E.dom _ _ h with h | h <;> exact h

/-- The ladder tells the u of the multiple. -/
theorem Edw.lad_is (E : Edw d iv) (iv0 : iv 0 = 0) {a : Fin n} (ha : a * (1 - d) = d) {g : Fin n × Fin n} (hg : OnE d g) (N k : Nat) (hN : 0 < N) (hk : k < 2 ^ N) :
    ladOut iv a (uOf iv g) N k = uOf iv (mulE d iv g k) := by
  by_cases h0 : uOf iv g = 0
  · obtain ⟨hx, hy⟩ := E.u_flat hg h0
    rw [h0, lad_out_zero iv0 a N k hN, E.flat_u iv0 (E.mul_flat iv0 hx hy k).2]
  · have h1 : 1 - g.2 ≠ 0 := by
      intro h
      apply h0
      unfold uOf
      rw [h, iv0]; grind
    have hu : uOf iv g * (1 - g.2) = 1 + g.2 := by
      have := E.inv _ h1
      unfold uOf
      grind
    have := (E.lad_rel ha hg hu h0 N k hk N (by omega)).1
    rw [Nat.sub_self, Nat.pow_zero, Nat.div_one] at this
    exact E.rel_out iv0 this

/-! ### The twist -/
theorem Edw.iv_neg (E : Edw d iv) (iv0 : iv 0 = 0) (x : Fin n) : iv (-x) = -iv x := by
  by_cases h : x = 0
  · subst h
    have : (-0 : Fin n) = 0 := by grind
    rw [this, iv0, this]
  · have := E.inv x h
    refine E.iv_uniq ?_
    grind
/-- The ladder of -u with the twist's number: one state, but for signs. -/
theorem lad_twist (a u : Fin n) (N k : Nat) : ∀ i, ∃ e f : Fin n, e * e = 1 ∧ f * f = 1 ∧
    ladTo (-1 - a) (-u) N k i = ((e * (ladTo a u N k i).1.1, -(e * (ladTo a u N k i).1.2)), (f * (ladTo a u N k i).2.1, -(f * (ladTo a u N k i).2.2)))
  | 0 => by
    refine ⟨1, -1, by grind, by grind, ?_⟩
    show (((1 : Fin n), (0 : Fin n)), ((-u, (1 : Fin n)))) = ((1 * 1, -(1 * 0)), (-1 * u, -(-1 * 1)))
    have h1 : (1 : Fin n) * 1 = 1 := by grind
    have h2 : -((1 : Fin n) * 0) = 0 := by grind
    have h3 : -1 * u = -u := by grind
    have h4 : -(-1 * 1 : Fin n) = 1 := by grind
    rw [h1, h2, h3, h4]
  | i + 1 => by
    obtain ⟨e, f, he, hf, h⟩ := lad_twist a u N k i
    refine ⟨1, 1, by grind, by grind, ?_⟩
    have kD : ∀ X Z c : Fin n, c * c = 1 → ladD (-1 - a) (c * X) (-(c * Z)) = (1 * (ladD a X Z).1, -(1 * (ladD a X Z).2)) := by
      intro X Z c hc
      unfold ladD
      have s1 : (c * X + -(c * Z)) * (c * X + -(c * Z)) = (X - Z) * (X - Z) := by grind
      have s2 : (c * X - -(c * Z)) * (c * X - -(c * Z)) = (X + Z) * (X + Z) := by grind
      refine Prod.ext ?_ ?_
      · show (c * X + -(c * Z)) * (c * X + -(c * Z)) * ((c * X - -(c * Z)) * (c * X - -(c * Z))) = 1 * ((X + Z) * (X + Z) * ((X - Z) * (X - Z)))
        rw [s1, s2]; generalize (X + Z) * (X + Z) = p; generalize (X - Z) * (X - Z) = q; grind
      · show ((c * X + -(c * Z)) * (c * X + -(c * Z)) - (c * X - -(c * Z)) * (c * X - -(c * Z))) * ((c * X + -(c * Z)) * (c * X + -(c * Z)) + (-1 - a) * ((c * X + -(c * Z)) * (c * X + -(c * Z)) - (c * X - -(c * Z)) * (c * X - -(c * Z)))) = -(1 * (((X + Z) * (X + Z) - (X - Z) * (X - Z)) * ((X + Z) * (X + Z) + a * ((X + Z) * (X + Z) - (X - Z) * (X - Z)))))
        rw [s1, s2]; generalize (X + Z) * (X + Z) = p; generalize (X - Z) * (X - Z) = q; grind
    have kA : ∀ X Z X' Z' c c' : Fin n, c * c = 1 → c' * c' = 1 → ladA (-u) (c * X) (-(c * Z)) (c' * X') (-(c' * Z')) = (1 * (ladA u X Z X' Z').1, -(1 * (ladA u X Z X' Z').2)) := by
      intro X Z X' Z' c c' hc hc'
      unfold ladA
      have s1 : (c * X - -(c * Z)) * (c' * X' + -(c' * Z')) = (c * c') * ((X + Z) * (X' - Z')) := by grind
      have s2 : (c * X + -(c * Z)) * (c' * X' - -(c' * Z')) = (c * c') * ((X - Z) * (X' + Z')) := by grind
      have s3 : (c * c') * (c * c') = 1 := by grind
      refine Prod.ext ?_ ?_
      · show ((c * X - -(c * Z)) * (c' * X' + -(c' * Z')) + (c * X + -(c * Z)) * (c' * X' - -(c' * Z'))) * ((c * X - -(c * Z)) * (c' * X' + -(c' * Z')) + (c * X + -(c * Z)) * (c' * X' - -(c' * Z'))) = 1 * (((X - Z) * (X' + Z') + (X + Z) * (X' - Z')) * ((X - Z) * (X' + Z') + (X + Z) * (X' - Z')))
        rw [s1, s2]
        generalize (X + Z) * (X' - Z') = p; generalize (X - Z) * (X' + Z') = q; generalize c * c' = r at *; clear s1 s2 hc hc' kD h; grind
      · show -u * (((c * X - -(c * Z)) * (c' * X' + -(c' * Z')) - (c * X + -(c * Z)) * (c' * X' - -(c' * Z'))) * ((c * X - -(c * Z)) * (c' * X' + -(c' * Z')) - (c * X + -(c * Z)) * (c' * X' - -(c' * Z')))) = -(1 * (u * (((X - Z) * (X' + Z') - (X + Z) * (X' - Z')) * ((X - Z) * (X' + Z') - (X + Z) * (X' - Z')))))
        rw [s1, s2]
        generalize (X + Z) * (X' - Z') = p; generalize (X - Z) * (X' + Z') = q; generalize c * c' = r at *; clear s1 s2 hc hc' kD h; grind
    show ladStep (-1 - a) (-u) (k / 2 ^ (N - (i + 1)) % 2 == 1) (ladTo (-1 - a) (-u) N k i) = ((1 * (ladStep a u (k / 2 ^ (N - (i + 1)) % 2 == 1) (ladTo a u N k i)).1.1, -(1 * (ladStep a u (k / 2 ^ (N - (i + 1)) % 2 == 1) (ladTo a u N k i)).1.2)), (1 * (ladStep a u (k / 2 ^ (N - (i + 1)) % 2 == 1) (ladTo a u N k i)).2.1, -(1 * (ladStep a u (k / 2 ^ (N - (i + 1)) % 2 == 1) (ladTo a u N k i)).2.2)))
    rw [h]
    generalize ladTo a u N k i = S
    generalize (k / 2 ^ (N - (i + 1)) % 2 == 1) = b
    cases b
    · show (ladD (-1 - a) (e * S.1.1) (-(e * S.1.2)), ladA (-u) (e * S.1.1) (-(e * S.1.2)) (f * S.2.1) (-(f * S.2.2))) = _
      rw [kD _ _ _ he, kA _ _ _ _ _ _ he hf]
      rfl
    · show (ladA (-u) (f * S.2.1) (-(f * S.2.2)) (e * S.1.1) (-(e * S.1.2)), ladD (-1 - a) (f * S.2.1) (-(f * S.2.2))) = _
      rw [kD _ _ _ hf, kA _ _ _ _ _ _ hf he]
      rfl
theorem Edw.out_twist (E : Edw d iv) (iv0 : iv 0 = 0) (a u : Fin n) (N k : Nat) : ladOut iv (-1 - a) (-u) N k = -ladOut iv a u N k := by
  obtain ⟨e, f, he, hf, h⟩ := lad_twist a u N k N
  unfold ladOut
  rw [h]
  generalize (ladTo a u N k N).1.1 = X
  generalize (ladTo a u N k N).1.2 = Z
  show e * X * iv (-(e * Z)) = -(X * iv Z)
  rw [E.iv_neg iv0]
  have : iv (e * Z) = e * iv Z := by
    by_cases hz : Z = 0
    · subst hz
      have : e * 0 = 0 := by grind
      rw [this, iv0]; exact this.symm
    · have := E.inv Z hz
      refine E.iv_uniq ?_
      grind
  rw [this]
  grind

/-- Two numbers, one behind the other, on the curve or on its twist: a point of one of both. -/
theorem Edw.lad_comm (E : Edw d iv) (iv0 : iv 0 = 0) {a : Fin n} (ha : a * (1 - d) = d) {g : Fin n × Fin n} (hg : OnE d g) (N k l : Nat) (hN : 0 < N) (hk : k < 2 ^ N) (hl : l < 2 ^ N) :
    ladOut iv a (ladOut iv a (uOf iv g) N l) N k = uOf iv (mulE d iv g (l * k)) := by
  rw [E.lad_is iv0 ha hg N l hN hl, E.lad_is iv0 ha (E.mul_on hg l) N k hN hk, E.mul_mul hg]
end
end Go.Proofs.Ytchojbhmfjibmaa
