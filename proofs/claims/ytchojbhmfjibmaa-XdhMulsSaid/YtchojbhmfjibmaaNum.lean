/- Numbers modulo n: what fits into few places, powers reckoned by squarings, irreducible numbers by Pocklington's certificate, a prime by a primitive root. No program. -/
namespace Go.Proofs.Ytchojbhmfjibmaa

/-! ### What fits into few places -/
theorem fits : ∀ (m k : Nat) (f : Nat → Nat), (∀ i, i < k → f i < m) → (∀ i j, i < k → j < k → f i = f j → i = j) → k ≤ m := by
  intro m
  induction m with
  | zero =>
    intro k f hb _
    rcases Nat.eq_zero_or_pos k with h | h
    · omega
    · have := hb 0 h; omega
  | succ m ih =>
    intro k f hb hi
    by_cases hex : ∃ a, a < k ∧ f a = m
    · obtain ⟨a, ha, hfa⟩ := hex
      have : k - 1 ≤ m := by
        refine ih (k - 1) (fun i => f (if i < a then i else i + 1)) (fun i hik => ?_) (fun i j hik hjk hij => ?_)
        · have hlt : (if i < a then i else i + 1) < k := by split <;> omega
          have h1 := hb _ hlt
          have h2 : f (if i < a then i else i + 1) ≠ m := by
            intro he
            have := hi _ _ hlt ha (he.trans hfa.symm)
            split at this <;> omega
          show f (if i < a then i else i + 1) < m
          omega
        · have h1 : (if i < a then i else i + 1) < k := by split <;> omega
          have h2 : (if j < a then j else j + 1) < k := by split <;> omega
          have := hi _ _ h1 h2 hij
          split at this <;> split at this <;> omega
      omega
    · have : k ≤ m := ih k f (fun i hik => by
        have h1 := hb i hik
        have h2 : f i ≠ m := fun he => hex ⟨i, hik, he⟩
        omega) hi
      omega

/-- As many different numbers as there are places: each place is taken. -/
theorem filled (m : Nat) (f : Nat → Nat) (hb : ∀ i, i < m → f i < m) (hi : ∀ i j, i < m → j < m → f i = f j → i = j) (y : Nat) (hy : y < m) : ∃ i, i < m ∧ f i = y := by
  apply Classical.byContradiction
  intro hn
  have : m ≤ m - 1 := by
    refine fits (m - 1) m (fun i => if f i < y then f i else f i - 1) (fun i him => ?_) (fun i j him hjm hij => ?_)
    · have h1 := hb i him
      have h2 : f i ≠ y := fun he => hn ⟨i, him, he⟩
      show (if f i < y then f i else f i - 1) < m - 1
      split <;> omega
    · have h1 : f i ≠ y := fun he => hn ⟨i, him, he⟩
      have h2 : f j ≠ y := fun he => hn ⟨j, hjm, he⟩
      refine hi i j him hjm ?_
      have hij' : (if f i < y then f i else f i - 1) = (if f j < y then f j else f j - 1) := hij
      split at hij' <;> split at hij' <;> omega
  omega

/-! ### Powers by squarings -/
/-- The power of b, times acc, modulo n: by the exponent's bits, the lowest first. -/
def powGo (n : Nat) : Nat → Nat → Nat → Nat → Nat
  | 0, _, _, acc => acc
  | fuel + 1, b, e, acc => powGo n fuel (b * b % n) (e / 2) (if e % 2 = 1 then acc * b % n else acc)
def powN (n b e : Nat) : Nat := powGo n 600 b e 1 % n

theorem powGo_eq (n : Nat) : ∀ (fuel b e acc : Nat), e < 2 ^ fuel → powGo n fuel b e acc % n = acc * b ^ e % n
  | 0, b, e, acc, h => by
    have : e = 0 := by simp at h; omega
    subst this; simp [powGo]
  | fuel + 1, b, e, acc, h => by
    have he : e / 2 < 2 ^ fuel := by rw [Nat.pow_succ] at h; omega
    rw [powGo, powGo_eq n fuel _ _ _ he]
    have hb : (b * b % n) ^ (e / 2) % n = (b * b) ^ (e / 2) % n := by rw [← Nat.pow_mod]
    have hp : (b * b) ^ (e / 2) = b ^ (2 * (e / 2)) := by rw [Nat.pow_mul, Nat.pow_two]
    by_cases h1 : e % 2 = 1
    · rw [if_pos h1, Nat.mul_mod, hb, Nat.mod_mod, ← Nat.mul_mod, hp]
      have : e = 2 * (e / 2) + 1 := by omega
      conv => rhs; rw [this, Nat.pow_succ]
      rw [Nat.mul_assoc, Nat.mul_comm b]
    · rw [if_neg h1, Nat.mul_mod, hb, ← Nat.mul_mod, hp]
      have : e = 2 * (e / 2) := by omega
      conv => rhs; rw [this]
theorem powN_eq (n b e : Nat) (h : e < 2 ^ 600) : powN n b e = b ^ e % n := by
  rw [powN, powGo_eq n 600 b e 1 h, Nat.one_mul]

/-! ### Orders -/
/-- Two powers that are one: so is the power of the greatest common divisor. -/
theorem pow_gcd {m b : Nat} : ∀ (k j : Nat), b ^ k % m = 1 % m → b ^ j % m = 1 % m → b ^ (Nat.gcd k j) % m = 1 % m := by
  intro k
  induction k using Nat.strongRecOn with
  | _ k ih =>
    intro j hk hj
    rcases Nat.eq_zero_or_pos k with h0 | h0
    · subst h0; rw [Nat.gcd_zero_left]; exact hj
    · rw [Nat.gcd_rec]
      refine ih (j % k) (Nat.mod_lt _ h0) k ?_ hk
      have h1 : b ^ j % m = b ^ (j % k) % m := by
        conv => lhs; rw [← Nat.div_add_mod j k, Nat.pow_add, Nat.mul_mod, Nat.pow_mul, Nat.pow_mod, hk, ← Nat.pow_mod, Nat.one_pow, ← Nat.mul_mod, Nat.one_mul]
      rw [← h1]; exact hj

/-- No divisor but 1 and itself. -/
def Irr (n : Nat) : Prop := 1 < n ∧ ∀ m, m ∣ n → m = 1 ∨ m = n

theorem irr_gcd {q c : Nat} (hq : Irr q) : Nat.gcd c q = 1 ∨ q ∣ c := by
  rcases hq.2 (Nat.gcd c q) (Nat.gcd_dvd_right c q) with h | h
  · exact .inl h
  · exact .inr (h ▸ Nat.gcd_dvd_left c q)
/-- Euclid's lemma. -/
theorem irr_mul {q a b : Nat} (hq : Irr q) (h : q ∣ a * b) : q ∣ a ∨ q ∣ b := by
  rcases irr_gcd (c := a) hq with h1 | h1
  · exact .inr (Nat.Coprime.dvd_of_dvd_mul_left (show Nat.gcd q a = 1 by rw [Nat.gcd_comm]; exact h1) h)
  · exact .inl h1

/-- A number as a product. -/
def prodOf : List Nat → Nat
  | [] => 1
  | q :: r => q * prodOf r
theorem dvd_prod : ∀ (L : List Nat) (x : Nat), x ∈ L → x ∣ prodOf L
  | q :: r, x, hx => by
    rw [prodOf]
    rcases List.mem_cons.mp hx with h | h
    · subst h; exact Nat.dvd_mul_right _ _
    · exact Nat.dvd_trans (dvd_prod r x h) (Nat.dvd_mul_left _ _)
/-- What divides such a product of irreducible ones, and isn't 1, is divided by one of them. -/
theorem some_prime : ∀ (L : List Nat), (∀ x ∈ L, Irr x) → ∀ c, c ∣ prodOf L → c ≠ 1 → ∃ x ∈ L, x ∣ c
  | [], _, c, h, hc => by
    rw [prodOf] at h
    exact absurd (Nat.eq_one_of_dvd_one h) hc
  | q :: r, hL, c, h, hc => by
    have hq : Irr q := hL q (by simp)
    rcases irr_gcd (c := c) hq with h1 | h1
    · rw [prodOf] at h
      obtain ⟨x, hx, hxc⟩ := some_prime r (fun x hx => hL x (by simp [hx])) c (Nat.Coprime.dvd_of_dvd_mul_left h1 h) hc
      exact ⟨x, by simp [hx], hxc⟩
    · exact ⟨q, by simp, h1⟩

/-- The order is all of F: no smaller power is 1. -/
theorem order_all {m b F : Nat} (L : List Nat) (hL : ∀ x ∈ L, Irr x) (hp : prodOf L = F)
    (h1 : b ^ F % m = 1 % m) (hno : ∀ x ∈ L, b ^ (F / x) % m ≠ 1 % m) (k : Nat) (hk0 : 0 < k) (hkF : k < F) : b ^ k % m ≠ 1 % m := by
  intro hk
  have hg := pow_gcd k F hk h1
  have hd : Nat.gcd k F ∣ F := Nat.gcd_dvd_right k F
  have hgk : Nat.gcd k F ≤ k := Nat.le_of_dvd hk0 (Nat.gcd_dvd_left k F)
  obtain ⟨c, hc⟩ := hd
  have hc1 : c ≠ 1 := by rintro rfl; rw [Nat.mul_one] at hc; omega
  obtain ⟨x, hx, hxc⟩ := some_prime L hL c (hp ▸ ⟨Nat.gcd k F, by rw [Nat.mul_comm]; exact hc⟩) hc1
  obtain ⟨t, ht⟩ := hxc
  refine hno x hx ?_
  have hx0 : 0 < x := Nat.lt_trans Nat.zero_lt_one (hL x hx).1
  have he : F / x = Nat.gcd k F * t := by
    conv => lhs; rw [hc, ht, show Nat.gcd k F * (x * t) = x * (Nat.gcd k F * t) by ac_rfl]
    exact Nat.mul_div_cancel_left _ hx0
  rw [he, Nat.pow_mul, Nat.pow_mod, hg, ← Nat.pow_mod, Nat.one_pow]

theorem mod_cancel {m a x y : Nat} (hc : Nat.Coprime m a) (h : a * x % m = a * y % m) : x % m = y % m := by
  rcases Nat.le_total x y with hxy | hxy
  · have hd : m ∣ a * y - a * x := (Nat.dvd_iff_mod_eq_zero ..).mpr (Nat.sub_mod_eq_zero_of_mod_eq h.symm)
    rw [← Nat.mul_sub] at hd
    obtain ⟨t, ht⟩ := Nat.Coprime.dvd_of_dvd_mul_left hc hd
    rw [show y = x + m * t by omega, Nat.add_mul_mod_self_left]
  · have hd : m ∣ a * x - a * y := (Nat.dvd_iff_mod_eq_zero ..).mpr (Nat.sub_mod_eq_zero_of_mod_eq h)
    rw [← Nat.mul_sub] at hd
    obtain ⟨t, ht⟩ := Nat.Coprime.dvd_of_dvd_mul_left hc hd
    rw [show x = y + m * t by omega, Nat.add_mul_mod_self_left]

theorem pow_inj_mod {m b F : Nat} (hb : Nat.gcd b m = 1) (hno : ∀ k, 0 < k → k < F → b ^ k % m ≠ 1 % m) (i j : Nat) (hi : i < F) (hj : j < F) (h : b ^ i % m = b ^ j % m) : i = j := by
  rcases Nat.lt_trichotomy i j with hlt | heq | hgt
  · exfalso
    refine hno (j - i) (by omega) (by omega) ?_
    have : (b ^ i * b ^ (j - i)) % m = (b ^ i * 1) % m := by rw [← Nat.pow_add, Nat.mul_one, show i + (j - i) = j by omega]; exact h.symm
    have hc : Nat.Coprime m (b ^ i) := Nat.Coprime.pow_right i (by rw [Nat.Coprime, Nat.gcd_comm]; exact hb)
    exact mod_cancel hc this
  · exact heq
  · exfalso
    refine hno (i - j) (by omega) (by omega) ?_
    have : (b ^ j * b ^ (i - j)) % m = (b ^ j * 1) % m := by rw [← Nat.pow_add, Nat.mul_one, show j + (i - j) = i by omega]; exact h
    have hc : Nat.Coprime m (b ^ j) := Nat.Coprime.pow_right j (by rw [Nat.Coprime, Nat.gcd_comm]; exact hb)
    exact mod_cancel hc this
theorem gcd_of_pow {m b k : Nat} (hk : 0 < k) (h : b ^ k % m = 1 % m) : Nat.gcd b m = 1 := by
  have h1 : Nat.gcd b m ∣ b ^ k := Nat.dvd_trans (Nat.gcd_dvd_left b m) (by obtain ⟨t, rfl⟩ : ∃ t, k = t + 1 := ⟨k - 1, by omega⟩; rw [Nat.pow_succ]; exact Nat.dvd_mul_left _ _)
  have h2 : Nat.gcd b m ∣ m := Nat.gcd_dvd_right b m
  have h3 : Nat.gcd b m ∣ 1 := by
    have h4 : Nat.gcd b m ∣ b ^ k % m := (Nat.dvd_mod_iff h2).mpr h1
    rw [h] at h4
    exact (Nat.dvd_mod_iff h2).mp h4
  exact Nat.eq_one_of_dvd_one h3

/-! ### Pocklington's certificate -/
theorem pow_nz (m b i : Nat) (h1 : 1 < m) (hg : Nat.gcd b m = 1) : b ^ i % m ≠ 0 := by
  intro h
  have hd : m ∣ b ^ i := Nat.dvd_of_mod_eq_zero h
  have hc : Nat.Coprime (b ^ i) m := Nat.Coprime.pow_left i hg
  have : Nat.gcd (b ^ i) m = m := Nat.gcd_eq_right hd
  rw [Nat.Coprime] at hc
  omega

theorem pockl (N a F R : Nat) (L : List Nat) (hN : 1 < N) (hF : F * R = N - 1) (hFF : N ≤ F * F) (hL : ∀ x ∈ L, Irr x) (hp : prodOf L = F)
    (ha : a ^ (N - 1) % N = 1) (hq : ∀ x ∈ L, Nat.gcd (a ^ ((N - 1) / x) % N + (N - 1)) N = 1) : Irr N := by
  have hF0 : 0 < F := by rcases Nat.eq_zero_or_pos F with h | h; { subst h; omega }; exact h
  have small : ∀ m, m ∣ N → 1 < m → F < m := by
    intro m hm h1
    have hm0 : 0 < m := by omega
    have one : 1 % m = 1 := Nat.mod_eq_of_lt h1
    have down : ∀ x y : Nat, x % N = y % N → x % m = y % m := by
      intro x y h
      obtain ⟨c, hc⟩ := hm
      have := congrArg (· % m) h
      simp only [hc, Nat.mod_mul_right_mod] at this
      exact this
    have hb1 : (a ^ R) ^ F % m = 1 % m := by
      rw [← Nat.pow_mul, Nat.mul_comm, hF]
      exact down _ _ (by rw [ha, Nat.mod_eq_of_lt hN])
    have hg : Nat.gcd (a ^ R) m = 1 := gcd_of_pow hF0 hb1
    have hno : ∀ x ∈ L, (a ^ R) ^ (F / x) % m ≠ 1 % m := by
      intro x hx he
      have hx1 : 1 < x := (hL x hx).1
      obtain ⟨c, hc⟩ : x ∣ F := hp ▸ dvd_prod L x hx
      have e1 : F / x = c := by rw [hc]; exact Nat.mul_div_cancel_left _ (by omega)
      have e2 : (N - 1) / x = R * c := by rw [← hF, hc, show x * c * R = x * (R * c) by ac_rfl]; exact Nat.mul_div_cancel_left _ (by omega)
      rw [e1, ← Nat.pow_mul, ← e2] at he
      have h3 : m ∣ a ^ ((N - 1) / x) % N + (N - 1) := by
        have h4 : (a ^ ((N - 1) / x) % N) % m = 1 % m := by
          rw [← he]; exact down _ _ (Nat.mod_mod _ _)
        have h5 : (a ^ ((N - 1) / x) % N + (N - 1)) % m = 0 := by
          rw [Nat.add_mod, h4, ← Nat.add_mod, show 1 + (N - 1) = N by omega]
          exact Nat.mod_eq_zero_of_dvd hm
        exact Nat.dvd_of_mod_eq_zero h5
      have h6 : m ∣ 1 := hq x hx ▸ Nat.dvd_gcd h3 hm
      have := Nat.eq_one_of_dvd_one h6
      omega
    have hall := order_all L hL hp hb1 hno
    have hbound : F ≤ m - 1 := by
      refine fits (m - 1) F (fun i => (a ^ R) ^ i % m - 1) (fun i _ => ?_) (fun i j hi hj hij => ?_)
      · have h7 := pow_nz m (a ^ R) i h1 hg
        have := Nat.mod_lt ((a ^ R) ^ i) hm0
        show (a ^ R) ^ i % m - 1 < m - 1
        omega
      · refine pow_inj_mod hg hall i j hi hj ?_
        have h7 := pow_nz m (a ^ R) i h1 hg
        have h8 := pow_nz m (a ^ R) j h1 hg
        have hij' : (a ^ R) ^ i % m - 1 = (a ^ R) ^ j % m - 1 := hij
        omega
    omega
  refine ⟨hN, fun m hm => ?_⟩
  apply Classical.byContradiction
  intro hne
  have hm0 : m ≠ 0 := by rintro rfl; have := Nat.eq_zero_of_zero_dvd hm; omega
  have h1 := small m hm (by omega)
  obtain ⟨c, hc⟩ := hm
  have hc1 : 1 < c := by
    rcases Nat.lt_or_ge 1 c with h | h
    · exact h
    · exfalso
      have : c = 0 ∨ c = 1 := by omega
      rcases this with rfl | rfl
      · omega
      · rw [Nat.mul_one] at hc; omega
  have h2 := small c ⟨m, by rw [Nat.mul_comm]; exact hc⟩ hc1
  have h3 : (F + 1) * (F + 1) ≤ m * c := Nat.mul_le_mul h1 h2
  have h4 : F * F < (F + 1) * (F + 1) := by rw [Nat.add_mul, Nat.mul_add]; omega
  omega

/-! ### A primitive root: each number but 0 is a power of it -/
theorem root_powers (p g : Nat) (hp1 : 1 < p) (L : List Nat) (hL : ∀ x ∈ L, Irr x) (hp : prodOf L = p - 1)
    (h1 : g ^ (p - 1) % p = 1) (hno : ∀ x ∈ L, g ^ ((p - 1) / x) % p ≠ 1) (y : Nat) (hy0 : 0 < y) (hy : y < p) : ∃ i, i < p - 1 ∧ g ^ i % p = y := by
  have one : 1 % p = 1 := Nat.mod_eq_of_lt hp1
  have hg : Nat.gcd g p = 1 := gcd_of_pow (k := p - 1) (by omega) (by rw [h1, one])
  have hall := order_all (m := p) (b := g) L hL hp (by rw [h1, one]) (fun x hx => by rw [one]; exact hno x hx)
  obtain ⟨i, hi, he⟩ := filled (p - 1) (fun i => g ^ i % p - 1) (fun i _ => by
      have h7 := pow_nz p g i hp1 hg
      have := Nat.mod_lt (g ^ i) (show p > 0 by omega)
      show g ^ i % p - 1 < p - 1
      omega) (fun i j hi hj hij => by
      refine pow_inj_mod hg hall i j hi hj ?_
      have h7 := pow_nz p g i hp1 hg
      have h8 := pow_nz p g j hp1 hg
      have hij' : g ^ i % p - 1 = g ^ j % p - 1 := hij
      omega) (y - 1) (by omega)
  refine ⟨i, hi, ?_⟩
  have h7 := pow_nz p g i hp1 hg
  have he' : g ^ i % p - 1 = y - 1 := he
  omega
/-- Fermat. -/
theorem fermat (p g : Nat) (hp1 : 1 < p) (L : List Nat) (hL : ∀ x ∈ L, Irr x) (hp : prodOf L = p - 1)
    (h1 : g ^ (p - 1) % p = 1) (hno : ∀ x ∈ L, g ^ ((p - 1) / x) % p ≠ 1) (y : Nat) (hy : y % p ≠ 0) : y ^ (p - 1) % p = 1 := by
  obtain ⟨i, _, he⟩ := root_powers p g hp1 L hL hp h1 hno (y % p) (by omega) (Nat.mod_lt _ (by omega))
  rw [Nat.pow_mod, ← he, ← Nat.pow_mod, ← Nat.pow_mul, Nat.mul_comm, Nat.pow_mul, Nat.pow_mod, h1, Nat.one_pow, Nat.mod_eq_of_lt hp1]
theorem irr_of_root (p g : Nat) (hp1 : 1 < p) (L : List Nat) (hL : ∀ x ∈ L, Irr x) (hp : prodOf L = p - 1)
    (h1 : g ^ (p - 1) % p = 1) (hno : ∀ x ∈ L, g ^ ((p - 1) / x) % p ≠ 1) : Irr p := by
  refine ⟨hp1, fun m hm => ?_⟩
  rcases Nat.lt_or_ge m p with hlt | hge
  · left
    rcases Nat.eq_zero_or_pos m with h0 | h0
    · subst h0; have := Nat.eq_zero_of_zero_dvd hm; omega
    · have hf := fermat p g hp1 L hL hp h1 hno m (by rw [Nat.mod_eq_of_lt hlt]; omega)
      have := gcd_of_pow (m := p) (b := m) (k := p - 1) (by omega) (by rw [hf, Nat.mod_eq_of_lt hp1])
      rwa [Nat.gcd_eq_left hm] at this
  · right
    have := Nat.le_of_dvd (by omega) hm
    omega
end Go.Proofs.Ytchojbhmfjibmaa
