/- Keys of passphrases, as mathematics; what the walks lean on. Plain theorems, over any program. -/
import Derived.Test.YticflflbogdljaaDoorSx
import Derived.Lib.AppendZerosOnto
namespace Go.Proofs.YticflflbogdljaaDoor
open Go Go.RowKit

/-- A code's count. -/
def cnt (c : Nat) : Nat := (16 + c % 16) * 2 ^ (c / 16 + 6)
theorem cnt_le {c : Nat} (h : c < 256) : cnt c ≤ 65011712 := by
  have h1 : 2 ^ (c / 16 + 6) ≤ 2 ^ 21 := Nat.pow_le_pow_right (by decide) (by omega)
  have h2 : (16 + c % 16) * 2 ^ (c / 16 + 6) ≤ 31 * 2 ^ 21 := Nat.mul_le_mul (by omega) h1
  exact h2
theorem cnt_pos (c : Nat) : 1024 ≤ cnt c := by
  have h1 : 2 ^ 6 ≤ 2 ^ (c / 16 + 6) := Nat.pow_le_pow_right (by decide) (by omega)
  have h2 : 16 * 2 ^ 6 ≤ (16 + c % 16) * 2 ^ (c / 16 + 6) := Nat.mul_le_mul (by omega) h1
  exact h2
theorem cnt_rise (c : Nat) : cnt c < cnt (c + 1) := by
  unfold cnt
  by_cases h : c % 16 = 15
  · rw [h, show (c + 1) % 16 = 0 by omega, show (c + 1) / 16 + 6 = (c / 16 + 6) + 1 by omega, show 2 ^ ((c / 16 + 6) + 1) = 2 ^ (c / 16 + 6) * 2 from Nat.pow_succ ..]
    have := Nat.pow_pos (n := c / 16 + 6) (show 0 < 2 by decide)
    generalize 2 ^ (c / 16 + 6) = q at *
    omega
  · rw [show (c + 1) % 16 = c % 16 + 1 by omega, show (c + 1) / 16 = c / 16 by omega]
    exact Nat.mul_lt_mul_of_pos_right (by omega) (Nat.pow_pos (by decide))
/-- n bytes of t, again and again. -/
def cyc (t : List UInt8) (n : Nat) : List UInt8 := lst n fun j => t.getD (j % t.length) 0
theorem cyc_len (t : List UInt8) (n : Nat) : (cyc t n).length = n := lst_len _ _
theorem cyc_get {t : List UInt8} {n j : Nat} (h : j < n) : (cyc t n)[j]? = some (t.getD (j % t.length) 0) := lst_get h
theorem cyc_step {t : List UInt8} {k m : Nat} (hm : m ≤ t.length) : cyc t (k * t.length) ++ t.take m = cyc t (k * t.length + m) := by
  apply List.ext_getElem?
  intro j
  have hl := cyc_len t (k * t.length)
  by_cases h1 : j < k * t.length
  · rw [List.getElem?_append_left (by omega), cyc_get h1, cyc_get (by omega)]
  · rw [List.getElem?_append_right (by omega), hl, List.getElem?_take]
    by_cases h2 : j < k * t.length + m
    · have hj : j - k * t.length < t.length := by omega
      have hmod : j % t.length = j - k * t.length := by
        have e : j = j - k * t.length + t.length * k := by rw [Nat.mul_comm t.length k]; omega
        rw [e, Nat.add_mul_mod_self_left, Nat.mod_eq_of_lt hj]
        rw [Nat.mul_comm t.length k]; omega
      rw [if_pos (by omega), cyc_get h2, hmod, List.getD_eq_getElem?_getD, List.getElem?_eq_getElem hj]; rfl
    · rw [if_neg (by omega), List.getElem?_eq_none (by rw [cyc_len]; omega)]
theorem cyc_whole {t : List UInt8} {k : Nat} : cyc t (k * t.length) ++ t = cyc t ((k + 1) * t.length) := by
  have := cyc_step (t := t) (k := k) (m := t.length) (Nat.le_refl _)
  rw [List.take_length] at this
  rw [this, Nat.add_mul, Nat.one_mul]
theorem cyc_take {t : List UInt8} {n m : Nat} (h : m ≤ n) : (cyc t n).take m = cyc t m := by
  apply List.ext_getElem?
  intro j
  rw [List.getElem?_take]
  by_cases hj : j < m
  · rw [if_pos hj, cyc_get (by omega), cyc_get hj]
  · rw [if_neg hj, List.getElem?_eq_none (by rw [cyc_len]; omega)]
/-- The hash i. -/
def hsh (t : List UInt8) (n i : Nat) : List UInt8 := lst 32 (sha (List.replicate i 0 ++ cyc t n))
def kcat (t : List UInt8) (n : Nat) : Nat → List UInt8
  | 0 => []
  | i + 1 => kcat t n i ++ hsh t n i
theorem hsh_len (t : List UInt8) (n i : Nat) : (hsh t n i).length = 32 := lst_len _ _
theorem kcat_len (t : List UInt8) (n i : Nat) : (kcat t n i).length = 32 * i := by
  induction i with
  | zero => rfl
  | succ i ih => show (kcat t n i ++ hsh t n i).length = _; rw [List.length_append, ih, hsh_len]; omega
theorem kcat_next {t : List UInt8} {n i m : Nat} : (kcat t n i).take m ++ (hsh t n i).take (m - 32 * i) = (kcat t n (i + 1)).take m := by
  show _ = (kcat t n i ++ hsh t n i).take m
  rw [List.take_append, kcat_len]
theorem kcat_enough {t : List UInt8} {n i m : Nat} (hi : i ≤ 2) (hm : m ≤ 32 * i) : (kcat t n i).take m = (kcat t n 2).take m := by
  have h : i = 0 ∨ i = 1 ∨ i = 2 := by omega
  rcases h with rfl | rfl | rfl
  · rw [show m = 0 by omega]; simp
  · show _ = (kcat t n 1 ++ hsh t n 1).take m
    rw [List.take_append_of_le_length (by rw [kcat_len]; omega)]
  · rfl
/-- What is wrong with a specifier. -/
def kd (s : List UInt8) : Nat :=
  if s.length = 0 then 2
  else if (s.getD 0 0).toNat ≠ 3 ∨ (1 < s.length ∧ (s.getD 1 0).toNat ≠ 8) then 10
  else if s.length < 11 then 2
  else if 131072 < cnt (s.getD 10 0).toNat then 6 else 0
theorem kd_zero {s : List UInt8} (h : kd s = 0) : 11 ≤ s.length ∧ cnt (s.getD 10 0).toNat ≤ 131072 := by
  unfold kd at h
  split at h
  · cases h
  · split at h
    · cases h
    · split at h
      · cases h
      · split at h
        · cases h
        · omega
theorem kd_front {s b : List UInt8} (h : s.length = 11) : kd (s ++ b) = kd s := by
  have hg : ∀ i, i < 11 → (s ++ b).getD i 0 = s.getD i 0 := fun i hi => by
    rw [List.getD_eq_getElem?_getD, List.getD_eq_getElem?_getD, List.getElem?_append_left (by omega)]
  unfold kd
  rw [hg 0 (by decide), hg 1 (by decide), hg 10 (by decide), List.length_append, h]
  have e1 : (11 + b.length = 0) = (11 = 0) := by simp
  have e2 : (1 < 11 + b.length) = (1 < 11) := by simp; omega
  have e3 : (11 + b.length < 11) = (11 < 11) := by simp
  simp only [e1, e2, e3]
def txt (s p : List UInt8) : List UInt8 := (s.take 10).drop 2 ++ p
theorem txt_len {s p : List UInt8} (h : 11 ≤ s.length) : (txt s p).length = 8 + p.length := by
  unfold txt
  rw [List.length_append, List.length_drop, List.length_take]; omega
theorem txt_flat (s p : List UInt8) : [(s.take 10).drop 2, p].flatten = txt s p := by simp [txt]
def big (s p : List UInt8) : Nat := max (cnt (s.getD 10 0).toNat) (txt s p).length
/-- The key of n bytes. -/
def keyL (s p : List UInt8) (n : Nat) : List UInt8 := (kcat (txt s p) (big s p) 2).take n
theorem keyL_len {s p : List UInt8} {n : Nat} (h : n ≤ 64) : (keyL s p n).length = n := by
  unfold keyL
  rw [List.length_take, kcat_len]; omega
def der (s p : List UInt8) (n : Int) : List UInt8 × Nat × Nat :=
  if n < 1 ∨ 64 < n ∨ 1000 < p.length then ([], 0, 1) else if kd s ≠ 0 then ([], 0, kd s) else (keyL s p n.toNat, 11, 0)
theorem der_front {s b p : List UInt8} {n : Int} (h : s.length = 11) : der (s ++ b) p n = der s p n := by
  have hg : ∀ i, i < 11 → (s ++ b).getD i 0 = s.getD i 0 := fun i hi => by
    rw [List.getD_eq_getElem?_getD, List.getD_eq_getElem?_getD, List.getElem?_append_left (by omega)]
  have ht : txt (s ++ b) p = txt s p := by
    unfold txt
    rw [List.take_append_of_le_length (by omega)]
  unfold der keyL big
  rw [kd_front h, ht, hg 10 (by decide)]
/-! ### For the walks -/
section
variable {α : Type} {C : Cod α} {e : TypeId} {l : List α} {E : Hl} {cap : Nat} {cur : Array Value}
theorem Bk.head (h : Bk C cap cur l) (m : Nat) : Bk C cap cur (l.take m) := by
  refine ⟨by rw [List.length_take]; have := h.le; omega, h.max, h.size, ?_⟩
  apply List.ext_getElem?
  intro k
  rw [List.getElem?_take]
  by_cases hk : k < (l.take m).length * C.sz
  · rw [if_pos hk]
    have hsz : 0 < C.sz := by
      rcases Nat.eq_zero_or_pos C.sz with h0 | h0
      · rw [h0, Nat.mul_zero] at hk; omega
      · exact h0
    have hlt : k / C.sz < (l.take m).length := (Nat.div_lt_iff_lt_mul hsz).2 hk
    have hmod : k % C.sz < C.sz := Nat.mod_lt _ hsz
    obtain ⟨x, hx⟩ := get_at _ _ hlt
    have hu : (C.enc x)[k % C.sz]? = some ((C.enc x)[k % C.sz]'(by rw [C.size]; exact hmod)) := Array.getElem?_eq_getElem (by rw [C.size]; exact hmod)
    have h1 := flat_get _ _ _ _ _ hx hu
    have hx' : l[k / C.sz]? = some x := by
      rw [List.getElem?_take] at hx
      split at hx
      · exact hx
      · cases hx
    have h2 := h.cell _ _ hx' hu
    rw [Nat.div_add_mod' k C.sz] at h1 h2
    rw [h1, Array.getElem?_toList, h2]
  · rw [if_neg hk, List.getElem?_eq_none (by rw [flat_len]; omega)]
theorem OwnT.head {A : Option Addr} {n c m : Nat} (h : OwnT C e (.slice A n c) l E) (hm : m ≤ l.length) : OwnT C e (.slice A m c) (l.take m) E := by
  rcases h.cases with ⟨h1, rfl, rfl⟩ | ⟨g, cap, cur, h1, rfl, hB⟩
  · injection h1 with e1 e2 e3
    subst e1 e3
    obtain rfl : m = 0 := by simpa using hm
    exact OwnT.nil _ _
  · injection h1 with e1 e2 e3
    subst e1 e3
    exact (hB.head m).own e g (by rw [List.length_take]; omega)
theorem Off.less {A : Option Addr} {n m : Nat} {R : List Nat} (h : Off A n R) (hm : 0 < m → 0 < n) : Off A m R := fun b off hA hp => h b off hA (hm hp)
end
section
variable {α : Type} {C : Cod α} {P : Program} {a : Act} {o : Oper} {w : World} {x y : Operand} {ty tn e : TypeId}
/-- append of noughts to a nil slice. -/
theorem smAppZ {n by_ : Nat} {z : α} {kn kq : IntKind} (ho : o.op = .call { callee := .builtin .append, args := #[x, y], argTypes := #[ty, tn] })
    (hu : P.underlying ty = some (.slice e)) (hn : P.underlying tn = some (.int kn)) (hi : (P.info? e).map (fun i => (i.zero, i.size, i.bytes)) = some (some (C.val z), C.sz, by_)) (hsz : 0 < C.sz)
    (hx : a.eval x = .slice none 0 0) (hy : a.eval y = .int kq (n : Int)) (h0 : 0 < n) (hb : n * by_ ≤ 140737488355328) (h63 : n ≤ maxLen) :
    Small P a o [] (fun _ => True) (fun v' E' => ∃ g cap cur, v' = .slice (some ⟨g, 0, none⟩) n cap ∧ E' = [bl g e cur] ∧ Bk C cap cur []) := fun w _ _ => by
  obtain ⟨i, hi', h2⟩ := Option.map_eq_some_iff.1 hi
  simp only [Prod.mk.injEq] at h2
  obtain ⟨hz, hisz, rfl⟩ := h2
  have hr := Lib.run_append_grow_zeros w ty tn o.type e i (C.val z) kq kn hu hn hi' hz none 0 0 [] (run_firstCells_none w.drew i.size 0 0 0) n h0 (by omega) (by omega) (by unfold maxLen at h63; omega) (by omega) (by rw [Nat.zero_add]; exact growslice_fits (by omega) hb)
  rw [Nat.zero_add] at hr
  unfold execOp
  simp only [ho, resolve, invoke, builtin, Sem.run_bind, Sem.run_pure, Result.andThen_ok, List.map_toArray, List.map_cons, List.map_nil, hx, hy, hr]
  have hge := grownCap_ge w n 0 e
  have hcm := grownCap_le_maxLen w n 0 e h63
  have hcz : (C.val z).cells.size = C.sz := C.len z
  have hold : Hold w [] [bl w.heap.size e (#[] ++ Builtin.zeroCells (C.val z).cells n ++ Builtin.zeroCells (C.val z).cells (grownCap w n 0 e - n))] (w.drew.alloc (.cells (#[] ++ Builtin.zeroCells (C.val z).cells n ++ Builtin.zeroCells (C.val z).cells (grownCap w n 0 e - n)) e)) := by
    have := Has.new w.drew (.cells (#[] ++ Builtin.zeroCells (C.val z).cells n ++ Builtin.zeroCells (C.val z).cells (grownCap w n 0 e - n)) e)
    exact ⟨this.os, this.tape, this.output, this.size, this.blk, this.ne, fun x hx => (this.own x hx).imp id (fun h => (by cases h)), fun k hk _ => this.frame k hk (by simp)⟩
  refine ⟨_, ⟨_, grownCap w n 0 e, _, rfl, rfl, ⟨Nat.zero_le _, hcm, ?_, by simp [flat]⟩⟩, hold⟩
  simp only [Array.size_append, size_zeroCells, hcz, List.size_toArray, List.length_nil, Nat.zero_add]
  rw [← Nat.add_mul]
  congr 1
  omega
theorem opSliceAH {b off m h sz : Nat} {kh : IntKind} {jh : Int} {xh : Operand} (ho : o.op = .slice ty x none (some xh) none) (hu : P.underlying ty = some (.array m e)) (hs : (P.info? e).map (·.size) = some sz) (hx : a.eval x = .pointer (some ⟨b, off, none⟩)) (hh : a.eval xh = .int kh jh) (hjh : jh = (h : Int)) (h2 : h ≤ m) :
    (execOp a.eval o).run P w = .ok (.value (.slice (some ⟨b, off, none⟩) h m)) w := by
  subst hjh
  have he := elem_ofA hu
  have hn := len_ofA hu
  have hu' : P.underlying ty = some (.array (P.arrayLen ty) (P.elem ty)) := by rw [he, hn]; exact hu
  have hadd : (⟨b, off, none⟩ : Addr).add (0 * sz) = ⟨b, off, none⟩ := by rw [Addr.add_mid]; simp
  unfold execOp
  simp only [ho, Option.map_some, Option.map_none, hx, hh, Sem.run_bind, Sem.run_pure, run_sliceAt_array_h w ty ⟨b, off, none⟩ hu' kh (h : Int) (by omega) (by rw [hn]; omega), he, hn, run_sizeOf hs, Result.andThen_ok, slicedAt, Int.toNat_natCast, hadd, ite_self, Nat.sub_zero]
end
/-- Two slices that are read, behind a slice of their heads. -/
theorem two_views {w : World} {A0 A1 : Option Addr} {n0 c0 n1 c1 : Nat} {l0 l1 : List UInt8} (h0 : Vu cByte w A0 n0 c0 l0) (h1 : Vu cByte w A1 n1 c1 l1) : ∀ (i : Nat) (x : Option Addr × Nat × Nat), [(A0, n0, c0), (A1, n1, c1)][i]? = some x → ∃ l : List UInt8, [l0, l1][i]? = some l ∧ Vu cByte w x.1 x.2.1 x.2.2 l
  | 0, x, h => by obtain rfl := Option.some.inj h; exact ⟨l0, rfl, h0⟩
  | 1, x, h => by obtain rfl := Option.some.inj h; exact ⟨l1, rfl, h1⟩
  | i + 2, x, h => by simp at h
theorem flatten_next {ds : List (List UInt8)} {i : Nat} {l : List UInt8} (h : ds[i]? = some l) : (ds.take i).flatten ++ l = (ds.take (i + 1)).flatten := by
  rw [List.take_add_one, h]; simp
theorem flatten_le {ds : List (List UInt8)} (i : Nat) : (ds.take i).flatten.length ≤ ds.flatten.length := by
  have : ds = ds.take i ++ ds.drop i := (List.take_append_drop i ds).symm
  rw [congrArg List.flatten this, List.flatten_append, List.length_append]; omega
end Go.Proofs.YticflflbogdljaaDoor
