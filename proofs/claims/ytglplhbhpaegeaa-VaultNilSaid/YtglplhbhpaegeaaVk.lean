/- The vault, as mathematics: heads, what is kept, what keeping does, also where the power goes. -/
import Derived.Test.YtglplhbhpaegeaaDkS
import Derived.Test.YtglplhbhpaegeaaOpU
namespace Go.Proofs.Ytglplhbhpaegeaa
open Go Go.RowKit

/-- A number in k bytes, the highest first; the number that bytes are. -/
def beL (k n : Nat) : List UInt8 := (List.range k).map fun j => UInt8.ofNat (n / 2 ^ (8 * (k - 1 - j)))
def beN (l : List UInt8) : Nat := l.foldl (fun n c => n * 256 + c.toNat) 0
theorem beL_len (k n : Nat) : (beL k n).length = k := by simp [beL]
theorem beL_get {k n j : Nat} (h : j < k) : (beL k n)[j]? = some (UInt8.ofNat (n / 2 ^ (8 * (k - 1 - j)))) := by simp [beL, h]
theorem beN_from : ∀ (l : List UInt8) (a : Nat), l.foldl (fun n c => n * 256 + c.toNat) a = a * 256 ^ l.length + beN l
  | [], a => by simp [beN]
  | c :: r, a => by
    show r.foldl _ (a * 256 + c.toNat) = _
    have h2 : beN (c :: r) = r.foldl (fun n c => n * 256 + c.toNat) (0 * 256 + c.toNat) := rfl
    rw [beN_from r, h2, beN_from r, List.length_cons, Nat.pow_succ, Nat.add_mul, Nat.zero_mul, Nat.zero_add, Nat.mul_assoc, Nat.mul_comm 256, Nat.add_assoc]
theorem beN_cons (c : UInt8) (r : List UInt8) : beN (c :: r) = c.toNat * 256 ^ r.length + beN r := by
  have h2 : beN (c :: r) = r.foldl (fun n c => n * 256 + c.toNat) (0 * 256 + c.toNat) := rfl
  rw [h2, beN_from r, Nat.zero_mul, Nat.zero_add]
theorem beN_snoc (l : List UInt8) (c : UInt8) : beN (l ++ [c]) = beN l * 256 + c.toNat := by simp [beN, List.foldl_append]
theorem beN_lt : ∀ (l : List UInt8), beN l < 256 ^ l.length
  | [] => by simp [beN]
  | c :: r => by
    rw [beN_cons, List.length_cons, Nat.pow_succ]
    have h1 := beN_lt r
    have h2 := c.toNat_lt
    have h3 : c.toNat * 256 ^ r.length + 256 ^ r.length ≤ 256 ^ r.length * 256 := by
      rw [Nat.mul_comm (256 ^ r.length) 256, ← Nat.succ_mul]
      exact Nat.mul_le_mul_right _ (by omega)
    omega
theorem beN_take {l : List UInt8} {i : Nat} {c : UInt8} (h : l[i]? = some c) : beN (l.take (i + 1)) = beN (l.take i) * 256 + c.toNat := by
  rw [List.take_add_one, h]
  exact beN_snoc _ _
theorem beL_succ (k n : Nat) : beL (k + 1) n = UInt8.ofNat (n / 2 ^ (8 * k)) :: beL k n := by
  unfold beL
  rw [List.range_succ_eq_map, List.map_cons, List.map_map]
  congr 1
  refine List.map_congr_left fun j hj => ?_
  show UInt8.ofNat (n / 2 ^ (8 * (k + 1 - 1 - (j + 1)))) = _
  rw [show k + 1 - 1 - (j + 1) = k - 1 - j by omega]
theorem beN_beL : ∀ (k n : Nat), beN (beL k n) = n % 256 ^ k
  | 0, n => by simp [beL, beN, Nat.mod_one]
  | k + 1, n => by
    rw [beL_succ, beN_cons, beL_len, beN_beL k n, UInt8.toNat_ofNat']
    have e : (2 : Nat) ^ (8 * k) = 256 ^ k := by rw [Nat.pow_mul]
    have h3 : n % (256 ^ k * 256) = n % 256 ^ k + 256 ^ k * (n / 256 ^ k % 256) := Nat.mod_mul
    have e2 : (2 : Nat) ^ 8 = 256 := rfl
    have h4 : (256 : Nat) ^ (k + 1) = 256 ^ k * 256 := Nat.pow_succ ..
    rw [e, h4, h3, e2, Nat.mul_comm, Nat.add_comm]
theorem beN_be {k n : Nat} (h : n < 256 ^ k) : beN (beL k n) = n := by rw [beN_beL, Nat.mod_eq_of_lt h]

/-! ### Heads -/
def word : List UInt8 := [118, 97, 117, 108, 116, 32, 49, 0]
def hdL (number size area : Nat) : List UInt8 := word ++ (beL 8 number ++ (beL 4 size ++ (UInt8.ofNat area :: List.replicate 43 0)))
theorem hdL_len (n s a : Nat) : (hdL n s a).length = 64 := by simp [hdL, word, beL_len]
structure Hd where
  sector : Nat
  number : Nat
  size : Nat
  area : Nat
def numB (b : List UInt8) : Nat := beN ((b.take 16).drop 8)
def sizB (b : List UInt8) : Nat := beN ((b.take 20).drop 16)
def arB (b : List UInt8) : Nat := (b.getD 20 0).toNat
def okB (room : Nat) (b : List UInt8) : Prop := 0 < numB b ∧ sizB b ≤ room ∧ arB b < 2 ∧ b = hdL (numB b) (sizB b) (arB b)
instance (room : Nat) (b : List UInt8) : Decidable (okB room b) := by unfold okB; infer_instance
def stepH (room i : Nat) (b : List UInt8) (h : Hd) : Hd := if okB room b ∧ h.number < numB b then ⟨i, numB b, sizB b, arB b⟩ else h
def hd0 : Hd := ⟨1, 0, 0, 1⟩
/-- The head that counts, of the first k sectors. -/
def lastK (room : Nat) (S : List Sec) : Nat → Hd
  | 0 => hd0
  | k + 1 => stepH room k (lst 64 (S.getD k fun _ => 0)) (lastK room S k)
abbrev latestH (room : Nat) (S : List Sec) : Hd := lastK room S 2
/-- The same, of bytes. -/
def lastB (room : Nat) (b : List UInt8) : Nat → Hd
  | 0 => hd0
  | k + 1 => stepH room k ((b.take ((k + 1) * 64)).drop (k * 64)) (lastB room b k)
theorem numB_hd {n s a : Nat} (h : n < 18446744073709551616) : numB (hdL n s a) = n := by
  unfold numB hdL
  rw [show word ++ (beL 8 n ++ (beL 4 s ++ (UInt8.ofNat a :: List.replicate 43 0))) = (word ++ beL 8 n) ++ (beL 4 s ++ (UInt8.ofNat a :: List.replicate 43 0)) by rw [List.append_assoc],
    List.take_left' (by simp [word, beL_len]), List.drop_left' (by rfl)]
  exact beN_be h
theorem sizB_hd {n s a : Nat} (h : s < 4294967296) : sizB (hdL n s a) = s := by
  unfold sizB hdL
  rw [show word ++ (beL 8 n ++ (beL 4 s ++ (UInt8.ofNat a :: List.replicate 43 0))) = ((word ++ beL 8 n) ++ beL 4 s) ++ (UInt8.ofNat a :: List.replicate 43 0) by simp only [List.append_assoc],
    List.take_left' (by simp [word, beL_len]), List.drop_left' (by simp [word, beL_len])]
  exact beN_be h
theorem arB_hd {n s a : Nat} (h : a < 256) : arB (hdL n s a) = a := by
  unfold arB hdL
  rw [show word ++ (beL 8 n ++ (beL 4 s ++ (UInt8.ofNat a :: List.replicate 43 0))) = ((word ++ beL 8 n) ++ beL 4 s) ++ (UInt8.ofNat a :: List.replicate 43 0) by simp only [List.append_assoc]]
  rw [List.getD_eq_getElem?_getD, List.getElem?_append_right (by simp [word, beL_len])]
  have e : 20 - (word ++ beL 8 n ++ beL 4 s).length = 0 := by simp [word, beL_len]
  rw [e]
  show (UInt8.ofNat a).toNat = a
  rw [UInt8.toNat_ofNat', Nat.mod_eq_of_lt h]
theorem okB_hd {n s a room : Nat} (h0 : 0 < n) (hn : n < 18446744073709551616) (hs : s ≤ room) (hr : room < 4294967296) (ha : a < 2) : okB room (hdL n s a) := by
  have h2 : s < 4294967296 := by omega
  have h3 : a < 256 := by omega
  refine ⟨by rw [numB_hd hn]; exact h0, by rw [sizB_hd h2]; exact hs, by rw [arB_hd h3]; exact ha, ?_⟩
  rw [numB_hd hn, sizB_hd h2, arB_hd h3]
theorem numB_lt (b : List UInt8) : numB b < 18446744073709551616 := by
  have h := beN_lt ((b.take 16).drop 8)
  have hl : ((b.take 16).drop 8).length ≤ 8 := by rw [List.length_drop, List.length_take]; omega
  have h2 : 256 ^ ((b.take 16).drop 8).length ≤ 256 ^ 8 := Nat.pow_le_pow_right (by decide) hl
  have e : (256 : Nat) ^ 8 = 18446744073709551616 := rfl
  unfold numB; omega
theorem sizB_lt (b : List UInt8) : sizB b < 4294967296 := by
  have h := beN_lt ((b.take 20).drop 16)
  have hl : ((b.take 20).drop 16).length ≤ 4 := by rw [List.length_drop, List.length_take]; omega
  have h2 : 256 ^ ((b.take 20).drop 16).length ≤ 256 ^ 4 := Nat.pow_le_pow_right (by decide) hl
  have e : (256 : Nat) ^ 4 = 4294967296 := rfl
  unfold sizB; omega
/-- What is true of the head that counts. -/
structure Hd.Ok (h : Hd) (room : Nat) : Prop where
  sector : h.sector ≤ 1
  number : h.number < 18446744073709551616
  size : h.size ≤ room
  area : h.area ≤ 1
theorem hd0_ok (room : Nat) : hd0.Ok room := ⟨Nat.le_refl _, by decide, Nat.zero_le _, Nat.le_refl _⟩
theorem stepH_ok {room i : Nat} {b : List UInt8} {h : Hd} (hh : h.Ok room) (hi : i ≤ 1) : (stepH room i b h).Ok room := by
  unfold stepH
  split
  · rename_i ho
    exact ⟨hi, numB_lt b, ho.1.2.1, by have := ho.1.2.2.1; show arB b ≤ 1; omega⟩
  · exact hh
theorem stepH_le {room i : Nat} {b : List UInt8} {h : Hd} : h.number ≤ (stepH room i b h).number := by
  unfold stepH
  split
  · rename_i ho; exact Nat.le_of_lt ho.2
  · exact Nat.le_refl _
theorem stepH_max {room i : Nat} {b : List UInt8} {h : Hd} (hb : okB room b) : numB b ≤ (stepH room i b h).number := by
  unfold stepH
  split
  · exact Nat.le_refl _
  · rename_i ho
    have : ¬ h.number < numB b := fun h2 => ho ⟨hb, h2⟩
    omega
theorem lastK_ok (room : Nat) (S : List Sec) : ∀ k, k ≤ 2 → (lastK room S k).Ok room
  | 0, _ => hd0_ok room
  | k + 1, hk => by
    unfold lastK
    exact stepH_ok (lastK_ok room S k (by omega)) (by omega)
theorem latest_ok (room : Nat) (S : List Sec) : (latestH room S).Ok room := lastK_ok room S 2 (Nat.le_refl _)
theorem lastK_max {room i : Nat} {S : List Sec} (hb : okB room (lst 64 (S.getD i fun _ => 0))) : ∀ k, i < k → numB (lst 64 (S.getD i fun _ => 0)) ≤ (lastK room S k).number
  | 0, h => absurd h (Nat.not_lt_zero _)
  | k + 1, h => by
    unfold lastK
    by_cases e : i = k
    · subst e; exact stepH_max hb
    · exact Nat.le_trans (lastK_max hb k (by omega)) stepH_le
theorem latest_max {room i : Nat} {S : List Sec} (hi : i < 2) (hb : okB room (lst 64 (S.getD i fun _ => 0))) : numB (lst 64 (S.getD i fun _ => 0)) ≤ (latestH room S).number := lastK_max hb 2 hi
theorem latest_new {room i : Nat} {S S' : List Sec} {n s a : Nat} (hi : i < 2) (hS : S'.getD i (fun _ => 0) = cutF (hdL n s a) 0) (ho : S'.getD (1 - i) (fun _ => 0) = S.getD (1 - i) (fun _ => 0))
    (hn : (latestH room S).number < n) (h2 : n < 18446744073709551616) (hs : s ≤ room) (hr : room < 4294967296) (ha : a < 2) : latestH room S' = ⟨i, n, s, a⟩ := by
  have e : lst 64 (cutF (hdL n s a) 0) = hdL n s a := by
    rw [← lst_cutF (by rw [hdL_len]; omega), List.drop_zero, List.take_of_length_le (by rw [hdL_len]; omega)]
  have hok := okB_hd (n := n) (s := s) (a := a) (by omega) h2 hs hr ha
  have hnum : numB (hdL n s a) = n := numB_hd h2
  have hsz : sizB (hdL n s a) = s := sizB_hd (by omega)
  have har : arB (hdL n s a) = a := arB_hd (by omega)
  match i, hi with
  | 0, _ =>
    have hm := latest_max (room := room) (S := S) (i := 1) (by decide)
    show stepH room 1 (lst 64 (S'.getD 1 fun _ => 0)) (stepH room 0 (lst 64 (S'.getD 0 fun _ => 0)) hd0) = _
    rw [show S'.getD 1 (fun _ => 0) = S.getD 1 (fun _ => 0) from ho, hS, e]
    have e1 : stepH room 0 (hdL n s a) hd0 = ⟨0, n, s, a⟩ := by
      unfold stepH
      rw [if_pos ⟨hok, by rw [hnum]; show 0 < n; omega⟩, hnum, hsz, har]
    rw [e1]
    unfold stepH
    rw [if_neg (fun h => by have h1 := hm h.1; have h3 : n < numB (lst 64 (S.getD 1 fun _ => 0)) := h.2; omega)]
  | 1, _ =>
    have hm := latest_max (room := room) (S := S) (i := 0) (by decide)
    show stepH room 1 (lst 64 (S'.getD 1 fun _ => 0)) (stepH room 0 (lst 64 (S'.getD 0 fun _ => 0)) hd0) = _
    rw [show S'.getD 0 (fun _ => 0) = S.getD 0 (fun _ => 0) from ho, hS, e]
    have e1 : (stepH room 0 (lst 64 (S.getD 0 fun _ => 0)) hd0).number ≤ (latestH room S).number := stepH_le
    generalize stepH room 0 (lst 64 (S.getD 0 fun _ => 0)) hd0 = h0 at e1
    unfold stepH
    rw [if_pos ⟨hok, by rw [hnum]; omega⟩, hnum, hsz, har]
theorem latest_congr {room : Nat} {S S' : List Sec} (h : ∀ i, i < 2 → S'[i]? = S[i]?) : latestH room S' = latestH room S := by
  have e : ∀ i, i < 2 → S'.getD i (fun _ => 0) = S.getD i (fun _ => 0) := fun i hi => by rw [List.getD_eq_getElem?_getD, List.getD_eq_getElem?_getD, h i hi]
  show stepH room 1 (lst 64 (S'.getD 1 fun _ => 0)) (stepH room 0 (lst 64 (S'.getD 0 fun _ => 0)) hd0) = stepH room 1 (lst 64 (S.getD 1 fun _ => 0)) (stepH room 0 (lst 64 (S.getD 0 fun _ => 0)) hd0)
  rw [e 0 (by decide), e 1 (by decide)]
theorem part_sec {S : List Sec} {n i : Nat} (hi : i < n) (hn : n ≤ S.length) : ((unsec (S.take n)).take ((i + 1) * 64)).drop (i * 64) = lst 64 (S.getD i fun _ => 0) := by
  have hx : (S.take n)[i]? = some (S.getD i fun _ => 0) := by
    rw [List.getElem?_take, if_pos hi, List.getD_eq_getElem?_getD, List.getElem?_eq_getElem (by omega)]; rfl
  rw [show (i + 1) * 64 = 64 * i + 64 by omega, show i * 64 = 64 * i by omega]
  exact unsec_at _ _ _ hx
theorem lastB_eq {room : Nat} {S : List Sec} (hS : 2 ≤ S.length) : ∀ k, k ≤ 2 → lastB room (unsec (S.take 2)) k = lastK room S k
  | 0, _ => rfl
  | k + 1, hk => by
    show stepH room k _ (lastB room _ k) = stepH room k _ (lastK room S k)
    rw [lastB_eq hS k (by omega), part_sec (by omega) hS]

/-! ### What is kept -/
def startA (half area : Nat) : Nat := 2 + area * half
def nsec (n : Nat) : Nat := (n + 63) / 64
def halfOf (S : List Sec) : Nat := (S.length - 2) / 2
def textH (half : Nat) (h : Hd) (S : List Sec) : List UInt8 := (unsec ((S.take (startA half h.area + nsec h.size)).drop (startA half h.area))).take h.size
/-- A vault in memory. -/
structure Vt where
  gd : Nat
  half : Nat
  sector : Nat
  number : Nat
  size : Nat
  area : Nat
  kept : List UInt8
  over : Bool
abbrev headOf (S : List Sec) : Hd := latestH (halfOf S * 64) S
def vtOf (gd : Nat) (S : List Sec) : Vt := ⟨gd, halfOf S, (headOf S).sector, (headOf S).number, (headOf S).size, (headOf S).area, textH (halfOf S) (headOf S) S, false⟩
structure Vt.Ok (V : Vt) : Prop where
  half : V.half ≤ 1999
  sector : V.sector ≤ 1
  number : V.number < 18446744073709551616
  size : V.size ≤ V.half * 64
  area : V.area ≤ 1
def Vt.next (V : Vt) (size : Nat) : Hd := if V.number = 18446744073709551615 then ⟨0, V.number, size, 1 - V.area⟩ else ⟨1 - V.sector, V.number + 1, size, 1 - V.area⟩
def padB (b : List UInt8) : List UInt8 := b ++ List.replicate (nsec b.length * 64 - b.length) 0
def Dk.lay (D : Dk) (at_ : Nat) (b : List UInt8) : Nat × Dk := if (D.writes (at_ : Int) b).1 ≠ 0 then D.writes (at_ : Int) b else (D.writes (at_ : Int) b).2.sync
def Vt.write (V : Vt) (D : Dk) (h : Hd) (b : List UInt8) : Nat × Dk :=
  if (D.lay (startA V.half h.area) (padB b)).1 ≠ 0 then D.lay (startA V.half h.area) (padB b) else (D.lay (startA V.half h.area) (padB b)).2.lay h.sector (hdL h.number h.size h.area)
def Vt.set (V : Vt) (h : Hd) (b : List UInt8) : Vt := { V with sector := h.sector, number := h.number, size := h.size, area := h.area, kept := b }
def Vt.keep (V : Vt) (D : Dk) (b : List UInt8) : Nat × Dk × Vt :=
  if V.over = true then (8, D, V) else if V.half * 64 < b.length then (6, D, V)
  else if (V.write D (V.next b.length) b).1 ≠ 0 then ((V.write D (V.next b.length) b).1, (V.write D (V.next b.length) b).2, { V with over := true })
  else (0, (V.write D (V.next b.length) b).2, V.set (V.next b.length) b)
theorem next_ok {V : Vt} (h : V.Ok) {n : Nat} (hn : n ≤ V.half * 64) : (V.next n).Ok (V.half * 64) := by
  have h1 := h.sector
  have h2 := h.number
  have h3 := h.area
  unfold Vt.next
  split
  · exact ⟨Nat.zero_le _, h2, hn, by show 1 - V.area ≤ 1; omega⟩
  · exact ⟨by show 1 - V.sector ≤ 1; omega, by show V.number + 1 < _; omega, hn, by show 1 - V.area ≤ 1; omega⟩
theorem set_ok {V : Vt} (h : V.Ok) {k : Hd} (hk : k.Ok (V.half * 64)) (b : List UInt8) : (V.set k b).Ok := ⟨h.half, hk.sector, hk.number, hk.size, hk.area⟩
theorem vtOf_ok {gd : Nat} {S : List Sec} (h : S.length ≤ 4000) : (vtOf gd S).Ok := by
  have h1 := latest_ok (halfOf S * 64) S
  exact ⟨by show halfOf S ≤ 1999; unfold halfOf; omega, h1.sector, h1.number, h1.size, h1.area⟩
theorem padB_len (b : List UInt8) : (padB b).length = nsec b.length * 64 := by
  unfold padB nsec
  rw [List.length_append, List.length_replicate]; omega
theorem padB_div (b : List UInt8) : (padB b).length / 64 = nsec b.length := by rw [padB_len]; omega

/-! ### A disk at rest -/
structure AtRest (D : Dk) : Prop where
  uns : D.uns = []
  syn : D.syn = D.now
  up : D.down = false
theorem rest_new (m : Nat) : AtRest (Dk.new m) := ⟨rfl, rfl, rfl⟩
theorem rest_fuse {D : Dk} (h : AtRest D) (b : Bool) (n : Int) : AtRest { D with fused := b, left := n } := ⟨h.uns, h.syn, h.up⟩
theorem en_mem : ∀ {l : List Sec} {p : Nat} {c : Nat × Sec}, c ∈ en p l → p ≤ c.1 ∧ c.1 < p + l.length
  | [], _, _, h => by cases h
  | s :: r, p, c, h => by
    rcases List.mem_cons.1 h with rfl | h
    · exact ⟨Nat.le_refl _, by show p < p + (r.length + 1); omega⟩
    · have := en_mem h
      exact ⟨by omega, by show c.1 < p + (r.length + 1); omega⟩
theorem lasts_cases (D : Dk) : (D.lasts.1 = true ∧ ∃ z, D.lasts.2 = { D with left := z }) ∨ (D.lasts.1 = false ∧ D.fused = true ∧ D.lasts.2 = { D with down := true }) := by
  unfold Dk.lasts
  split
  · exact .inl ⟨rfl, D.left, rfl⟩
  · rename_i h
    split
    · exact .inr ⟨rfl, by simpa using h, rfl⟩
    · exact .inl ⟨rfl, _, rfl⟩
/-- What writing does, wherever the power goes. -/
theorem write_cases : ∀ (l : List Sec) (D : Dk) (p : Nat), (∃ z, D.write p l = (true, { D with now := sets (en p l) D.now, uns := D.uns ++ en p l, left := z })) ∨
    (∃ k z, k ≤ l.length ∧ D.fused = true ∧ D.write p l = (false, { D with now := sets (en p (l.take k)) D.now, uns := D.uns ++ en p (l.take k), left := z, down := true }))
  | [], D, p => .inl ⟨D.left, by simp [Dk.write, en, sets]⟩
  | s :: r, D, p => by
    show (∃ z, (if D.lasts.1 = true then (D.lasts.2.put p s).write (p + 1) r else (false, D.lasts.2)) = _) ∨ (∃ k z, _ ∧ _ ∧ (if D.lasts.1 = true then (D.lasts.2.put p s).write (p + 1) r else (false, D.lasts.2)) = _)
    rcases lasts_cases D with ⟨h1, z, h2⟩ | ⟨h1, hf, h2⟩
    · rw [if_pos h1, h2]
      rcases write_cases r (({ D with left := z } : Dk).put p s) (p + 1) with ⟨y, hy⟩ | ⟨k, y, hk, hf, hy⟩
      · exact .inl ⟨y, by rw [hy]; simp [Dk.put, en, sets]⟩
      · exact .inr ⟨k + 1, y, by simpa using hk, hf, by rw [hy]; simp [Dk.put, en, sets]⟩
    · rw [if_neg (by rw [h1]; simp), h2]
      exact .inr ⟨0, D.left, Nat.zero_le _, hf, by simp [en, sets]⟩
theorem crash_of {D : Dk} (hi : D.now = sets D.uns D.syn) (keep : List Bool) : AtRest (D.crash keep) ∧ (D.crash keep).now = synced keep 0 D.uns D.syn := by
  have e : (D.crash keep).now = synced keep 0 D.uns D.syn := by
    show back (synced (keepOf keep) 0 D.uns D.syn) D.uns D.now = _
    rw [back_synced hi, synced_keepOf]
  refine ⟨⟨rfl, ?_, rfl⟩, e⟩
  rw [e]
  show synced (keepOf keep) 0 D.uns D.syn = _
  rw [synced_keepOf]
theorem crash_rest {D : Dk} (h : AtRest D) (keep : List Bool) : AtRest (D.crash keep) ∧ (D.crash keep).now = D.now := by
  obtain ⟨h1, h2⟩ := crash_of (D := D) (by rw [h.uns, h.syn]; rfl) keep
  refine ⟨h1, ?_⟩
  rw [h2, h.uns, h.syn]; rfl
/-- Whole sectors written and synced, or the power gone between. -/
theorem lay_rest {D : Dk} (h : AtRest D) {at_ : Nat} {b : List UInt8} (hb : b.length % 64 = 0) (hat : at_ + b.length / 64 ≤ D.now.length) :
    (∃ D', D.lay at_ b = (0, D') ∧ AtRest D' ∧ D'.now = sets (en at_ (secs b)) D.now ∧ D'.fused = D.fused) ∨
    (∃ D' k, D.lay at_ b = (8, D') ∧ D.fused = true ∧ ∀ keep, AtRest (D'.crash keep) ∧ (D'.crash keep).now = synced keep 0 (en at_ ((secs b).take k)) D.now) := by
  have hw : D.writes (at_ : Int) b = (if (D.write at_ (secs b)).1 = true then 0 else 8, (D.write at_ (secs b)).2) := by
    unfold Dk.writes
    rw [if_neg (by omega), if_neg (not_not_intro (show D.has _ _ by unfold Dk.has; omega)), if_neg (by rw [h.up]; simp)]
    rfl
  unfold Dk.lay
  rcases write_cases (secs b) D at_ with ⟨z, hz⟩ | ⟨k, z, _, hf, hz⟩
  · have e : D.writes (at_ : Int) b = (0, { D with now := sets (en at_ (secs b)) D.now, uns := en at_ (secs b), left := z }) := by rw [hw, hz, h.uns]; rfl
    rw [e, if_neg (by simp)]
    generalize hD1 : ({ D with now := sets (en at_ (secs b)) D.now, uns := en at_ (secs b), left := z } : Dk) = D1
    have hi : D1.now = sets D1.uns D1.syn := by subst hD1; show _ = sets _ D.syn; rw [h.syn]
    have hu : D1.uns = en at_ (secs b) := by subst hD1; rfl
    have hs : D1.syn = D.now := by subst hD1; exact h.syn
    have hn : D1.now = sets (en at_ (secs b)) D.now := by subst hD1; rfl
    have hd : D1.down = false := by subst hD1; exact h.up
    have hfu : D1.fused = D.fused := by subst hD1; rfl
    show (∃ D', D1.sync = _ ∧ _) ∨ (∃ D' k, D1.sync = _ ∧ _)
    unfold Dk.sync
    rw [if_neg (by rw [hd]; simp)]
    rcases lasts_cases D1 with ⟨h1, y, h2⟩ | ⟨h1, hf, h2⟩
    · rw [if_pos h1, h2]
      refine .inl ⟨_, rfl, ⟨rfl, ?_, hd⟩, ?_, hfu⟩
      · show synced [true] 0 D1.uns D1.syn = back (synced [true] 0 D1.uns D1.syn) D1.uns D1.now
        rw [back_synced hi]
      · show back (synced [true] 0 D1.uns D1.syn) D1.uns D1.now = _
        rw [back_synced hi, synced_true, ← hi, hn]
    · rw [if_neg (by rw [h1]; simp), h2]
      refine .inr ⟨_, (secs b).length, rfl, by rw [← hfu]; exact hf, fun keep => ?_⟩
      have := crash_of (D := { D1 with down := true }) hi keep
      refine ⟨this.1, ?_⟩
      rw [this.2, List.take_length]
      show synced keep 0 D1.uns D1.syn = _
      rw [hu, hs]
  · have e : D.writes (at_ : Int) b = (8, { D with now := sets (en at_ ((secs b).take k)) D.now, uns := en at_ ((secs b).take k), left := z, down := true }) := by rw [hw, hz, h.uns]; rfl
    rw [e, if_pos (by simp)]
    refine .inr ⟨_, k, rfl, hf, fun keep => ?_⟩
    have := crash_of (D := { D with now := sets (en at_ ((secs b).take k)) D.now, uns := en at_ ((secs b).take k), left := z, down := true }) (by show _ = sets _ D.syn; rw [h.syn]) keep
    refine ⟨this.1, ?_⟩
    rw [this.2]
    show synced keep 0 _ D.syn = _
    rw [h.syn]
end Go.Proofs.Ytglplhbhpaegeaa
