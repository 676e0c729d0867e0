/- What the walks of the document's base64 lean on. No program. The document's Sum, Base64. The document's three bytes. The document's Unbase64. What the walk of the document's Decode leans on. No program. Armor written: its lines, and that they are an armor. Plain theorems. The document's Encode. A range over a function, its body one region; by the slots that are still read. Plain theorems, over any program. The program's Encode. -/
import Derived.Test.YtadbpmcmdcnlfaaDoorAm
import Derived.Test.YtadbpmcmdcnlfaaDoorOpN
import Derived.Test.YtadbpmcmdcnlfaaDoorBu
import Derived.Test.YtadbpmcmdcnlfaaDoorAp
import Derived.Test.YtadbpmcmdcnlfaaDoorAl
import Derived.Test.YtadbpmcmdcnlfaaDoorAd
import Derived.Test.YtadbpmcmdcnlfaaDoorArL
import Derived.Test.YtadbpmcmdcnlfaaDoorBd
import Derived.Test.YtadbpmcmdcnlfaaDoorRegIn
import Derived.Test.YtadbpmcmdcnlfaaDoorArA
import Derived.Test.YtadbpmcmdcnlfaaDoorArS
import Derived.Test.YtadbpmcmdcnlfaaDoorArK
import Derived.Test.YtadbpmcmdcnlfaaDoorChk
namespace Go.Proofs.YtadbpmcmdcnlfaaDoor

theorem orN {m c k : Nat} (h : c < 2 ^ k) : m * 2 ^ k ||| c = m * 2 ^ k + c := by
  have := Nat.shiftLeft_add_eq_or_of_lt h m
  rw [Nat.shiftLeft_eq] at this
  exact this.symm
/-- Four times six bits of three bytes. -/
def fourL (f : Nat → UInt8) : List UInt8 := [ob ((f 0).toNat / 4), ob ((f 0).toNat % 4 * 16 + (f 1).toNat / 16), ob ((f 1).toNat % 16 * 4 + (f 2).toNat / 64), ob ((f 2).toNat % 64)]
def g4 (f : Nat → UInt8) (n : Nat) : List UInt8 := [sg ((f 0).toNat / 4), sg ((f 0).toNat % 4 * 16 + (f 1).toNat / 16), if 2 ≤ n then sg ((f 1).toNat % 16 * 4 + (f 2).toNat / 64) else 61, if 3 ≤ n then sg ((f 2).toNat % 64) else 61]
theorem four_at {f : Nat → UInt8} {i : Nat} {x : UInt8} (h : (fourL f)[i]? = some x) : x.toNat < 64 := by
  have h0 := (f 0).toNat_lt; have h1 := (f 1).toNat_lt; have h2 := (f 2).toNat_lt
  have hm : x ∈ fourL f := List.mem_of_getElem? h
  simp only [fourL, List.mem_cons, List.not_mem_nil, or_false] at hm
  rcases hm with rfl | rfl | rfl | rfl <;> rw [toNat_ob] <;> omega
theorem g4_at {f : Nat → UInt8} {i n : Nat} {x : UInt8} (hn : 1 ≤ n) (h : (fourL f)[i]? = some x) : (g4 f n)[i]? = some (if i ≤ n then sg x.toNat else 61) := by
  have h0 := (f 0).toNat_lt; have h1 := (f 1).toNat_lt; have h2 := (f 2).toNat_lt
  match i, h with
  | 0, h =>
    simp only [fourL, List.getElem?_cons_zero, Option.some.injEq] at h
    subst h
    rw [if_pos (by omega), toNat_ob, Nat.mod_eq_of_lt (by omega)]; rfl
  | 1, h =>
    simp only [fourL, List.getElem?_cons_succ, List.getElem?_cons_zero, Option.some.injEq] at h
    subst h
    rw [if_pos hn, toNat_ob, Nat.mod_eq_of_lt (by omega)]; rfl
  | 2, h =>
    simp only [fourL, List.getElem?_cons_succ, List.getElem?_cons_zero, Option.some.injEq] at h
    subst h
    rw [toNat_ob, Nat.mod_eq_of_lt (by omega)]; rfl
  | 3, h =>
    simp only [fourL, List.getElem?_cons_succ, List.getElem?_cons_zero, Option.some.injEq] at h
    subst h
    rw [toNat_ob, Nat.mod_eq_of_lt (by omega)]; rfl
  | j + 4, h => simp [fourL] at h
theorem take_next {L o o2 : List UInt8} {i : Nat} {y : UInt8} (hy : L[i]? = some y) (h : o2 = o ++ L.take i) : o2 ++ [y] = o ++ L.take (i + 1) := by
  rw [h, List.take_add_one, hy, List.append_assoc]; rfl
/-- A group of the document's. -/
theorem b64_group {l : List UInt8} {k : Nat} {f : Nat → UInt8} (hl : 0 < l.length) (hk : Nat.min l.length 3 = k) (hf : ovr (l.take k) (fun _ => 0) = f) : b64 l = g4 f k ++ b64 (l.drop k) := by
  subst hf hk
  match l, hl with
  | [a], _ => simp [b64, g4, ovr]
  | [a, b], _ => simp [b64, g4, ovr]
  | a :: b :: c :: r, _ =>
    have e : Nat.min (a :: b :: c :: r).length 3 = 3 := by simp only [List.length_cons]; exact Nat.min_eq_right (by omega)
    rw [e]
    simp [b64, g4, ovr]
theorem g4_len (f : Nat → UInt8) (n : Nat) : (g4 f n).length = 4 := rfl
/-! ### Read -/
theorem ul_group {s : List UInt8} {i n p : Nat} (hi : i + 4 ≤ s.length) (h : us 0 0 ((s.drop i).take 4) = some (n, p)) : ul (s.drop i) = if 2 < p ∨ 0 < p ∧ s.drop (i + 4) ≠ [] then none else (ul (s.drop (i + 4))).map fun t => (three n).take (3 - p) ++ t := by
  have e : s.drop i = s[i] :: s[i + 1] :: s[i + 2] :: s[i + 3] :: s.drop (i + 4) := by
    rw [List.drop_eq_getElem_cons (by omega), List.drop_eq_getElem_cons (by omega), List.drop_eq_getElem_cons (by omega), List.drop_eq_getElem_cons (by omega)]
  rw [e] at h ⊢
  simp only [List.take_succ_cons, List.take_zero] at h
  rw [ul, h]
theorem ul_none {s : List UInt8} {i : Nat} (hi : i + 4 ≤ s.length) (h : us 0 0 ((s.drop i).take 4) = none) : ul (s.drop i) = none := by
  have e : s.drop i = s[i] :: s[i + 1] :: s[i + 2] :: s[i + 3] :: s.drop (i + 4) := by
    rw [List.drop_eq_getElem_cons (by omega), List.drop_eq_getElem_cons (by omega), List.drop_eq_getElem_cons (by omega), List.drop_eq_getElem_cons (by omega)]
  rw [e] at h ⊢
  simp only [List.take_succ_cons, List.take_zero] at h
  rw [ul, h]
theorem four_drop {s : List UInt8} {i k : Nat} {x : UInt8} (hk : k < 4) (hx : s[i + k]? = some x) : ((s.drop i).take 4).drop k = x :: ((s.drop i).take 4).drop (k + 1) := by
  refine drop_at ?_
  rw [List.getElem?_take, if_pos hk, List.getElem?_drop]; exact hx
theorem us_go_fill {n p : Nat} {x : UInt8} {r : List UInt8} {z : Option (Nat × Nat)} (hx : x.toNat = 61) (h : us n p (x :: r) = z) : us (n * 64) (p + 1) r = z := by
  have e : x = 61 := by rw [← UInt8.toNat_inj]; exact hx
  subst e
  rw [us_fill] at h; exact h
theorem us_no_more {n p : Nat} {x : UInt8} {r : List UInt8} {z : Option (Nat × Nat)} (hx : ¬ x.toNat = 61) (hp : p > 0) (h : us n p (x :: r) = z) : z = none := by
  have e : ¬ x = 61 := fun e => hx (by rw [e]; rfl)
  rw [us, if_neg e, if_pos hp] at h; exact h.symm
theorem us_no_sign {n p : Nat} {x : UInt8} {r : List UInt8} {z : Option (Nat × Nat)} (hx : ¬ x.toNat = 61) (hs : 64 ≤ sgI x) (h : us n p (x :: r) = z) : z = none := by
  have e : ¬ x = 61 := fun e => hx (by rw [e]; rfl)
  rw [us, if_neg e] at h
  split at h
  · exact h.symm
  · rw [if_neg (by omega)] at h; exact h.symm
theorem us_go {n p : Nat} {x : UInt8} {r : List UInt8} {z : Option (Nat × Nat)} (hx : ¬ x.toNat = 61) (hp : ¬ p > 0) (hs : sgI x < 64) (h : us n p (x :: r) = z) : us (n * 64 + sgI x) p r = z := by
  have e : ¬ x = 61 := fun e => hx (by rw [e]; rfl)
  rw [us, if_neg e, if_neg hp, if_pos hs] at h; exact h
theorem pw6 {n k v : Nat} (hk : k < 4) (hv : v < 64) (hn : n < 2 ^ (6 * k)) : n < 262144 ∧ n * 64 + v < 2 ^ (6 * (k + 1)) := by
  have h1 : 2 ^ (6 * k) ≤ 2 ^ 18 := Nat.pow_le_pow_right (by decide) (by omega)
  have h2 : (2 : Nat) ^ 18 = 262144 := by decide
  have h3 : (2 : Nat) ^ (6 * (k + 1)) = 2 ^ (6 * k) * 64 := by rw [show 6 * (k + 1) = 6 * k + 6 by omega, Nat.pow_add]
  omega
/-- The place of a sign, looked for in order. -/
def sgJ (x : UInt8) (j : Nat) : Int := if sgI x < j then ((sgI x : Nat) : Int) else -1
theorem sgJ_zero (x : UInt8) : sgJ x 0 = -1 := by unfold sgJ; rw [if_neg (by omega)]
theorem sgJ_hit {x : UInt8} {j : Nat} (hj : j < 64) (h : x.toNat = (sg j).toNat) : sgJ x (j + 1) = (j : Int) := by
  have e : x = sg j := by rw [← UInt8.toNat_inj]; exact h
  subst e
  unfold sgJ
  rw [sgI_sg j hj, if_pos (by omega)]
theorem sgJ_miss {x : UInt8} {j : Nat} (hj : j < 64) (h : ¬ x.toNat = (sg j).toNat) : sgJ x (j + 1) = sgJ x j := by
  have hne : sgI x ≠ j := fun e => h (by rw [← e, sg_sgI x (by omega)])
  unfold sgJ
  by_cases h2 : sgI x < j
  · rw [if_pos h2, if_pos (by omega)]
  · rw [if_neg h2, if_neg (by omega)]
theorem unR_len {s : List UInt8} (h : s.length % 4 ≠ 0) : unR s = none := by unfold unR; rw [if_pos h]
theorem unR_none {s : List UInt8} (h : ul s = none) : unR s = none := by
  unfold unR
  split
  · rfl
  · rw [h]
theorem unR_some {s o : List UInt8} (h0 : ¬ s.length % 4 ≠ 0) (h : ul s = some o) : unR s = if b64 o = s then some o else none := by
  unfold unR
  rw [if_neg h0, h]
theorem map_none {o : List UInt8} {a b : Option (List UInt8)} (h : a.map (o ++ ·) = b) (ha : a = none) : b = none := by rw [← h, ha]; rfl
theorem ul_go {s o : List UInt8} {i n p : Nat} {z : Option (List UInt8)} (hi : i + 4 ≤ s.length) (h : us 0 0 ((s.drop i).take 4) = some (n, p)) (hp : ¬ (2 < p ∨ 0 < p ∧ s.drop (i + 4) ≠ [])) (hz : (ul (s.drop i)).map (o ++ ·) = z) : (ul (s.drop (i + 4))).map ((o ++ (three n).take (3 - p)) ++ ·) = z := by
  rw [ul_group hi h, if_neg hp, Option.map_map] at hz
  rw [← hz]
  congr 1
  funext t
  simp
theorem ul_bad {s o : List UInt8} {i n p : Nat} {z : Option (List UInt8)} (hi : i + 4 ≤ s.length) (h : us 0 0 ((s.drop i).take 4) = some (n, p)) (hp : 2 < p ∨ 0 < p ∧ s.drop (i + 4) ≠ []) (hz : (ul (s.drop i)).map (o ++ ·) = z) : z = none := by
  rw [ul_group hi h, if_pos hp] at hz
  exact hz.symm
theorem drop_ne {s : List UInt8} {i : Nat} : s.drop i ≠ [] ↔ i < s.length := by
  rw [ne_eq, List.drop_eq_nil_iff]; omega
theorem ul_start (s : List UInt8) : (ul (s.drop 0)).map (([] : List UInt8) ++ ·) = ul s := by simp
theorem ul_end {s o : List UInt8} {z : Option (List UInt8)} (h : (ul (s.drop s.length)).map (o ++ ·) = z) : z = some o := by
  rw [← h, List.drop_length, ul]; simp
theorem us_end {s : List UInt8} {i n p : Nat} {z : Option (Nat × Nat)} (h : us n p (((s.drop i).take 4).drop 4) = z) : z = some (n, p) := by
  rw [← h, List.drop_eq_nil_of_le (by rw [List.length_take]; omega), us]
theorem min3 {n k : Nat} (h : Nat.min n 3 = k) (h0 : 0 < n) : k ≤ 3 ∧ k ≤ n ∧ 1 ≤ k := by
  have : min n 3 = k := h
  omega
end Go.Proofs.YtadbpmcmdcnlfaaDoor

namespace Go.Proofs.YtadbpmcmdcnlfaaDoor
open Go Go.RowKit
set_option maxRecDepth 100000
set_option maxRecDepth 100000

set_option maxHeartbeats 8000000 in
theorem rsum_c (l : List UInt8) (A : Option Addr) (c : Nat) (hl : l.length ≤ 9223372036854775807) : Pure Tryd.prog 14 #[(.slice A l.length c)] (fun w => Vu cByte w A l.length c l) (.int .u32 ((crc l : Nat) : Int)) := by
  refine pure_of (fn := Tryd.f14) Tryd.func14 rfl Tryd.ntmps14 (Nat.le_of_ble_eq_true rfl) rfl ?_
  intro w0 hH hR
  have hcl := hR.len
  have hcc := hR.cap
  refine cxSeq ?_
  refine cxReg ?_
  refine pxV (v := (.int .u32 0)) (fun _ _ hF => opAssign rfl rfl) rfl (fun _ _ => rfl) (kA rfl) (by decide) ?_
  refine pxEnd ?_
  refine qxThen ?_
  refine cxSeq ?_
  refine cxReg ?_
  refine pxV (v := (.int .u32 11994318)) (fun _ _ hF => opAssign rfl rfl) rfl (fun _ _ => rfl) (kM [false, true] rfl rfl) (by decide) ?_
  refine pxEnd ?_
  refine qxThen ?_
  refine cxSeq ?_
  refine cxSeq ?_
  refine cxReg ?_
  refine pxV (v := (.slice A l.length c)) (fun _ _ hF => opMove rfl (hF.ev 1 rfl)) rfl (fun _ _ => rfl) (kA rfl) (by decide) ?_
  refine pxV (v := (.int .i64 (((l.length) : Nat) : Int))) (fun _ _ hF => opLen (e := 5) rfl (by kernel_rfl) (hF.ev 0 rfl)) rfl (fun _ _ => rfl) (kM [false, true, true] rfl rfl) (by decide) ?_
  refine pxV (v := (.int .i64 0)) (fun _ _ hF => opMove rfl rfl) rfl (fun _ _ => rfl) (kA rfl) (by decide) ?_
  refine pxEnd ?_
  refine qxThen ?_
  refine cxBlock ?_
  refine cxLoop (σ := Nat × Nat) (fun x => [(7, (.int .i64 (((x.1) : Nat) : Int))), (6, (.int .i64 (((l.length) : Nat) : Int))), (3, (.int .u32 (((x.2) : Nat) : Int))), (0, (.slice A l.length c))]) (fun x w => HH w0 [] [] w ∧ (x.1 ≤ l.length) ∧ (x.2 = crcF 11994318 (l.take x.1)) ∧ (x.2 < 16777216)) (fun x => l.length - x.1) (0, 11994318) ⟨hH, Nat.zero_le _, rfl, by decide⟩ (slots_at [0, 1, 2, 3] rfl) ?_
  clear hH
  rintro ⟨i, s⟩ w ⟨hH, hi, hs, h24⟩
  change CX _ _ _ _ [(7, (.int .i64 (((i) : Nat) : Int))), (6, (.int .i64 (((l.length) : Nat) : Int))), (3, (.int .u32 (((s) : Nat) : Int))), (0, (.slice A l.length c))] _
  replace hH : HH w0 [] [] w := hH
  replace hi : i ≤ l.length := hi
  replace hs : s = crcF 11994318 (l.take i) := hs
  replace h24 : s < 16777216 := h24
  refine cxSeq ?_
  refine cxReg ?_
  refine pxV (v := (.bool (decide (i < l.length)))) (fun _ _ hF => opLss rfl (hF.ev 0 rfl) (hF.ev 1 rfl) (dc (by omega))) rfl (fun _ _ => rfl) (kA rfl) (by decide) ?_
  refine pxEnd ?_
  refine qxThen ?_
  refine cxSeq ?_
  refine cxP 0 rfl rfl (fun hc1 => ?_) (fun hc1 => ?_)
  · refine cxSkip ?_
    refine qxThen ?_
    refine cxSeq ?_
    refine cxBlock ?_
    refine cxSeq ?_
    refine cxReg ?_
    refine pxV (v := (.int .i64 (((i) : Nat) : Int))) (fun _ _ hF => opMove rfl (hF.ev 1 rfl)) rfl (fun _ _ => rfl) (kM [false, true, true, true, true] rfl rfl) (by decide) ?_
    refine pxV (v := (.int .i64 (((i) : Nat) : Int))) (fun _ _ hF => opAssign rfl (hF.ev 0 rfl)) rfl (fun _ _ => rfl) (kM [false, true, true, true, true] rfl rfl) (by decide) ?_
    refine pxEnd ?_
    refine qxThen ?_
    refine cxSeq ?_
    refine cxReg ?_
    refine pxV (v := (.int .u32 (((s) : Nat) : Int))) (fun _ _ hF => opMove rfl (hF.ev 3 rfl)) rfl (fun _ _ => rfl) (kM [true, true, true, false, true] rfl rfl) (by decide) ?_
    refine pxV (v := (.slice A l.length c)) (fun _ _ hF => opMove rfl (hF.ev 4 rfl)) rfl (fun _ _ => rfl) (kA rfl) (by decide) ?_
    refine pxV (v := (.int .i64 (((i) : Nat) : Int))) (fun _ _ hF => opMove rfl (hF.ev 2 rfl)) rfl (fun _ _ => rfl) (kM [true, true, false, true, true, true] rfl rfl) (by decide) ?_
    have hi2 : i < l.length := by omega
    obtain ⟨b3, off4, rfl, hL5, hb6, hR7⟩ := hR.blk (by decide) (Off.nil _ _) (by omega)
    have := hR.cap
    have hj10 : i < l.length := by first | exact hi2 | (simp only [List.length_drop, List.length_take]; omega) | omega
    obtain ⟨x8, hx9⟩ := get_at l i hj10
    have hb11 := UInt8.toNat_lt x8
    refine pxV (v := (.pointer (some ⟨b3, off4 + i * 1, none⟩))) (fun _ _ hF => opIndex (i := i) (e := 5) (sz := 1) rfl (by kernel_rfl) (by kernel_rfl) (hF.ev 1 rfl) (hF.ev 0 rfl) rfl hi2) rfl (fun _ _ => rfl) (kM [false, false, true, true, true, true] rfl rfl) (by decide) ?_
    refine pxS (v := (.int .u8 (((x8.toNat) : Nat) : Int))) (fun w => HoldsL cByte w b3 off4 l) (hH.holdsL hL5 hb6 hR7) (fun _ _ hF hS => opLoadT (C := cByte) (y := x8) rfl (hF.ev 0 rfl) (by kernel_rfl) (hS i _ hx9) rfl) rfl (fun _ _ => rfl) (kM [false, true, true, true, true] rfl rfl) (by decide) ?_
    refine pxV (v := (.int .u32 (((x8.toNat) : Nat) : Int))) (fun _ _ hF => opConvU (k' := .u32) (m := x8.toNat) rfl rfl (by kernel_rfl) (by kernel_rfl) (hF.ev 0 rfl) (Nat.mod_eq_of_lt (by show _ < 4294967296; omega))) rfl (fun _ _ => rfl) (kM [false, true, true, true, true] rfl rfl) (by decide) ?_
    refine pxV (v := (.int .u32 (((x8.toNat * 65536) : Nat) : Int))) (fun _ _ hF => opShlU (n := 16) (z := (x8.toNat * 65536)) rfl rfl (hF.ev 0 rfl) rfl (leb rfl) (by show (x8.toNat * 2 ^ 16) % 4294967296 = _; omega)) rfl (fun _ _ => rfl) (kM [false, true, true, true, true] rfl rfl) (by decide) ?_
    refine pxV (v := (.int .u32 (((s ^^^ (x8.toNat * 65536)) : Nat) : Int))) (fun _ _ hF => opXorU (m := s) (j := x8.toNat * 65536) (z := (s ^^^ (x8.toNat * 65536))) rfl rfl (hF.ev 1 rfl) (hF.ev 0 rfl) (by show _ < 4294967296; omega) (by show _ < 4294967296; omega) (rfl)) rfl (fun _ _ => rfl) (kM [false, false, true, true, true] rfl rfl) (by decide) ?_
    refine pxV (v := (.int .u32 (((s ^^^ (x8.toNat * 65536)) : Nat) : Int))) (fun _ _ hF => opAssign rfl (hF.ev 0 rfl)) rfl (fun _ _ => rfl) (kM [false, true, true, true] rfl rfl) (by decide) ?_
    refine pxEnd ?_
    refine qxThen ?_
    refine cxSeq ?_
    refine cxReg ?_
    refine pxV (v := (.int .i64 0)) (fun _ _ hF => opMove rfl rfl) rfl (fun _ _ => rfl) (kA rfl) (by decide) ?_
    refine pxEnd ?_
    refine qxThen ?_
    refine cxBlock ?_
    refine cxLoop (σ := Nat × Nat) (fun x => [(18, (.int .i64 (((x.1) : Nat) : Int))), (7, (.int .i64 (((i) : Nat) : Int))), (6, (.int .i64 (((l.length) : Nat) : Int))), (3, (.int .u32 (((x.2) : Nat) : Int))), (0, (.slice (some ⟨b3, off4, none⟩) l.length c))]) (fun x w => HH w0 [] [] w ∧ (x.1 ≤ 8) ∧ (crcBits (8 - x.1) x.2 = crcByte s x8) ∧ (x.2 < 16777216)) (fun x => 8 - x.1) (0, (s ^^^ (x8.toNat * 65536))) ⟨hH, Nat.zero_le _, rfl, crc_in h24 x8⟩ (slots_at [0, 2, 3, 1, 4] rfl) ?_
    clear hH
    rintro ⟨k, n⟩ w ⟨hH, hk, hn, hn24⟩
    change CX _ _ _ _ [(18, (.int .i64 (((k) : Nat) : Int))), (7, (.int .i64 (((i) : Nat) : Int))), (6, (.int .i64 (((l.length) : Nat) : Int))), (3, (.int .u32 (((n) : Nat) : Int))), (0, (.slice (some ⟨b3, off4, none⟩) l.length c))] _
    replace hH : HH w0 [] [] w := hH
    replace hk : k ≤ 8 := hk
    replace hn : crcBits (8 - k) n = crcByte s x8 := hn
    replace hn24 : n < 16777216 := hn24
    refine cxSeq ?_
    refine cxReg ?_
    refine pxV (v := (.bool (decide (k < 8)))) (fun _ _ hF => opLss rfl (hF.ev 0 rfl) rfl (dc (by omega))) rfl (fun _ _ => rfl) (kA rfl) (by decide) ?_
    refine pxEnd ?_
    refine qxThen ?_
    refine cxSeq ?_
    refine cxP 0 rfl rfl (fun hc12 => ?_) (fun hc12 => ?_)
    · refine cxSkip ?_
      refine qxThen ?_
      refine cxSeq ?_
      refine cxBlock ?_
      refine cxSeq ?_
      refine cxReg ?_
      refine pxV (v := (.int .u32 (((n) : Nat) : Int))) (fun _ _ hF => opMove rfl (hF.ev 4 rfl)) rfl (fun _ _ => rfl) (kM [false, true, true, true, false, true] rfl rfl) (by decide) ?_
      refine pxV (v := (.int .u32 (((2 * n) : Nat) : Int))) (fun _ _ hF => opShlU (n := 1) (z := (2 * n)) rfl rfl (hF.ev 0 rfl) rfl (leb rfl) (by show (n * 2 ^ 1) % 4294967296 = _; omega)) rfl (fun _ _ => rfl) (kM [false, true, true, true, true] rfl rfl) (by decide) ?_
      refine pxV (v := (.int .u32 (((2 * n) : Nat) : Int))) (fun _ _ hF => opAssign rfl (hF.ev 0 rfl)) rfl (fun _ _ => rfl) (kM [false, true, true, true, true] rfl rfl) (by decide) ?_
      refine pxEnd ?_
      refine qxThen ?_
      refine cxSeq ?_
      refine cxReg ?_
      refine pxV (v := (.int .u32 (((2 * n) : Nat) : Int))) (fun _ _ hF => opMove rfl (hF.ev 0 rfl)) rfl (fun _ _ => rfl) (kA rfl) (by decide) ?_
      refine pxV (v := (.int .u32 ((((2 * n) / 2 ^ 24) : Nat) : Int))) (fun _ _ hF => opShrU (n := 24) (z := ((2 * n) / 2 ^ 24)) rfl (hF.ev 0 rfl) rfl (leb rfl) (rfl)) rfl (fun _ _ => rfl) (kM [false, true, true, true, true, true] rfl rfl) (by decide) ?_
      refine pxV (v := (.bool (decide ((2 * n) / 2 ^ 24 = 1)))) (fun _ _ hF => opEqI rfl (hF.ev 0 rfl) rfl (dc (by omega))) rfl (fun _ _ => rfl) (kM [false, true, true, true, true, true] rfl rfl) (by decide) ?_
      refine pxEnd ?_
      refine qxThen ?_
      refine cxP 0 rfl rfl (fun hc13 => ?_) (fun hc13 => ?_)
      · have hma : 2 * n &&& 16777215 ≤ 16777215 := Nat.and_le_right
        refine cxReg ?_
        refine pxV (v := (.int .u32 (((2 * n) : Nat) : Int))) (fun _ _ hF => opMove rfl (hF.ev 1 rfl)) rfl (fun _ _ => rfl) (kM [false, false, true, true, true, true] rfl rfl) (by decide) ?_
        refine pxV (v := (.int .u32 ((((2 * n) &&& 16777215) : Nat) : Int))) (fun _ _ hF => opAndU (m := 2 * n) (j := 16777215) (z := ((2 * n) &&& 16777215)) rfl rfl (hF.ev 0 rfl) rfl (by show _ < 4294967296; omega) (by decide) (rfl)) rfl (fun _ _ => rfl) (kM [false, true, true, true, true] rfl rfl) (by decide) ?_
        refine pxV (v := (.int .u32 (((((2 * n) &&& 16777215) ^^^ 8801531) : Nat) : Int))) (fun _ _ hF => opXorU (m := (2 * n) &&& 16777215) (j := 8801531) (z := (((2 * n) &&& 16777215) ^^^ 8801531)) rfl rfl (hF.ev 0 rfl) rfl (by show _ < 4294967296; omega) (by decide) (rfl)) rfl (fun _ _ => rfl) (kM [false, true, true, true, true] rfl rfl) (by decide) ?_
        refine pxV (v := (.int .u32 (((((2 * n) &&& 16777215) ^^^ 8801531) : Nat) : Int))) (fun _ _ hF => opAssign rfl (hF.ev 0 rfl)) rfl (fun _ _ => rfl) (kM [false, true, true, true, true] rfl rfl) (by decide) ?_
        refine pxEnd ?_
        refine qxInN ?_
        refine qxThen ?_
        refine cxReg ?_
        refine pxV (v := (.int .i64 (((k + 1) : Nat) : Int))) (fun _ _ hF => opAdd rfl (hF.ev 1 rfl) rfl (wI (by omega) (by omega) (by omega))) rfl (fun _ _ => rfl) (kM [true, false, true, true, true] rfl rfl) (by decide) ?_
        refine pxV (v := (.int .i64 (((k + 1) : Nat) : Int))) (fun _ _ hF => opMove rfl (hF.ev 0 rfl)) rfl (fun _ _ => rfl) (kM [false, true, true, true, true] rfl rfl) (by decide) ?_
        refine pxEnd ?_
        exact qxRound ((k + 1), ((2 * n) &&& 16777215) ^^^ 8801531) ⟨hH, (show (k + 1) ≤ 8 from by omega), (show crcBits (8 - (k + 1)) (((2 * n) &&& 16777215) ^^^ 8801531) = crcByte s x8 from (crc_upD (by omega) hn24 hn).1 hc13 |>.1), (show (((2 * n) &&& 16777215) ^^^ 8801531) < 16777216 from (crc_upD (by omega) hn24 hn).1 hc13 |>.2)⟩ (by show 8 - (k + 1) < 8 - k; omega) (slots_at [0, 2, 3, 1, 4] rfl)
      · refine cxSkip ?_
        refine qxInN ?_
        refine qxThen ?_
        refine cxReg ?_
        refine pxV (v := (.int .i64 (((k + 1) : Nat) : Int))) (fun _ _ hF => opAdd rfl (hF.ev 2 rfl) rfl (wI (by omega) (by omega) (by omega))) rfl (fun _ _ => rfl) (kM [false, true, false, true, true, true] rfl rfl) (by decide) ?_
        refine pxV (v := (.int .i64 (((k + 1) : Nat) : Int))) (fun _ _ hF => opMove rfl (hF.ev 0 rfl)) rfl (fun _ _ => rfl) (kM [false, true, true, true, true] rfl rfl) (by decide) ?_
        refine pxEnd ?_
        exact qxRound ((k + 1), 2 * n) ⟨hH, (show (k + 1) ≤ 8 from by omega), (show crcBits (8 - (k + 1)) (2 * n) = crcByte s x8 from (crc_upD (by omega) hn24 hn).2 hc13 |>.1), (show (2 * n) < 16777216 from (crc_upD (by omega) hn24 hn).2 hc13 |>.2)⟩ (by show 8 - (k + 1) < 8 - k; omega) (slots_at [0, 2, 3, 1, 4] rfl)
    · refine cxExit ?_
      refine qxThenE ?_
      refine qxThenE ?_
      refine qxInE ?_
      refine qxInN ?_
      refine qxThen ?_
      refine cxReg ?_
      refine pxV (v := (.int .i64 (((i + 1) : Nat) : Int))) (fun _ _ hF => opAdd rfl (hF.ev 2 rfl) rfl (wI (by omega) (by omega) (by omega))) rfl (fun _ _ => rfl) (kM [false, false, false, true, true, true] rfl rfl) (by decide) ?_
      refine pxV (v := (.int .i64 (((i + 1) : Nat) : Int))) (fun _ _ hF => opMove rfl (hF.ev 0 rfl)) rfl (fun _ _ => rfl) (kM [false, true, true, true] rfl rfl) (by decide) ?_
      refine pxEnd ?_
      exact qxRound ((i + 1), n) ⟨hH, (show (i + 1) ≤ l.length from by omega), (show n = crcF 11994318 (l.take (i + 1)) from (by have := hx9; have e : k = 8 := (by omega); subst e; rw [crcF_take _ this, ← hs]; exact hn)), hn24⟩ (by show l.length - (i + 1) < l.length - i; omega) (slots_at [0, 1, 2, 3] rfl)
  · refine cxExit ?_
    refine qxThenE ?_
    refine qxThenE ?_
    refine qxInE ?_
    refine qxThen ?_
    refine cxSeq ?_
    refine cxReg ?_
    refine pxV (v := (.int .u32 (((s) : Nat) : Int))) (fun _ _ hF => opMove rfl (hF.ev 3 rfl)) rfl (fun _ _ => rfl) (kM [false, false, false, false, false] rfl rfl) (by decide) ?_
    refine pxV (v := (.int .u32 (((s) : Nat) : Int))) (fun _ _ hF => opAssign rfl (hF.ev 0 rfl)) rfl (fun _ _ => rfl) (kM [false] rfl rfl) (by decide) ?_
    refine pxEnd ?_
    refine qxThen ?_
    refine cxRet ?_
    refine qxRet1 0 rfl rfl ?_
    exact ⟨(by have e : i = l.length := by omega
               subst e; rw [List.take_length] at hs; rw [hs]; rfl), hH.toBelow⟩

set_option maxHeartbeats 8000000 in
theorem rbase64_c (l : List UInt8) (A : Option Addr) (c : Nat) (hl : l.length ≤ 1099511627776) : Pure Tryd.prog 13 #[(.slice A l.length c)] (fun w => Vu cByte w A l.length c l) (.string (strL (b64 l))) := by
  refine pure_of (fn := Tryd.f13) Tryd.func13 rfl Tryd.ntmps13 (Nat.le_of_ble_eq_true rfl) rfl ?_
  intro w0 hH hR
  refine cxSeq ?_
  refine cxReg ?_
  refine pxV (v := (.string (strL ([])))) (fun _ _ hF => opAssign rfl rfl) rfl (fun _ _ => rfl) (kA rfl) (by decide) ?_
  refine pxEnd ?_
  refine qxThen ?_
  refine cxSeq ?_
  refine cxReg ?_
  refine pxV (v := (.slice none 0 0)) (fun _ _ hF => opAssign rfl rfl) rfl (fun _ _ => rfl) (kM [false, true] rfl rfl) (by decide) ?_
  refine pxEnd ?_
  refine qxThen ?_
  refine cxSeq ?_
  refine cxBlock ?_
  replace hH := HH.pad hH 1
  replace hH : HH w0 [] [[]] w0 := hH
  refine cxLoop (σ := (Option Addr) × Nat × Nat × (List UInt8) × (List UInt8) × (Option Addr) × Nat × Hl) (fun x => [(3, (.slice x.2.2.2.2.2.1 x.2.2.2.2.1.length x.2.2.2.2.2.2.1)), (0, (.slice x.1 x.2.1 x.2.2.1))]) (fun x w => HH w0 [] [x.2.2.2.2.2.2.2] w ∧ (Vu cByte w0 x.1 x.2.1 x.2.2.1 x.2.2.2.1) ∧ (x.2.2.2.2.1 ++ b64 x.2.2.2.1 = b64 l) ∧ (OwnT cByte 5 (.slice x.2.2.2.2.2.1 x.2.2.2.2.1.length x.2.2.2.2.2.2.1) x.2.2.2.2.1 x.2.2.2.2.2.2.2)) (fun x => x.2.1) (A, l.length, c, l, [], none, 0, []) ⟨hH, hR, (by rw [List.nil_append]), (OwnT.nil cByte 5)⟩ (slots_at [0, 1] rfl) ?_
  clear hH
  rintro ⟨A1, n1, c1, l1, o, Ao, co, Eo⟩ w ⟨hH, hV, hinv, hOo⟩
  change CX _ _ _ _ [(3, (.slice Ao o.length co)), (0, (.slice A1 n1 c1))] _
  replace hH : HH w0 [] [Eo] w := hH
  replace hV : Vu cByte w0 A1 n1 c1 l1 := hV
  replace hinv : o ++ b64 l1 = b64 l := hinv
  replace hOo : OwnT cByte 5 (.slice Ao o.length co) o Eo := hOo
  have hcl := hV.len
  have hcc := hV.cap
  have hob := len_app hinv
  have hbl := b64_len l
  refine cxSeq ?_
  refine cxSeq ?_
  refine cxReg ?_
  refine pxV (v := (.slice A1 n1 c1)) (fun _ _ hF => opMove rfl (hF.ev 1 rfl)) rfl (fun _ _ => rfl) (kA rfl) (by decide) ?_
  refine pxV (v := (.int .i64 (((n1) : Nat) : Int))) (fun _ _ hF => opLen (e := 5) rfl (by kernel_rfl) (hF.ev 0 rfl)) rfl (fun _ _ => rfl) (kM [false, true, true] rfl rfl) (by decide) ?_
  refine pxV (v := (.bool (decide (n1 > 0)))) (fun _ _ hF => opGtr rfl (hF.ev 0 rfl) rfl (dc (by omega))) rfl (fun _ _ => rfl) (kM [false, true, true] rfl rfl) (by decide) ?_
  refine pxEnd ?_
  refine qxThen ?_
  refine cxP 0 rfl rfl (fun hc1 => ?_) (fun hc1 => ?_)
  · refine cxSkip ?_
    refine qxThen ?_
    refine cxBlock ?_
    refine cxSeq ?_
    refine cxReg ?_
    refine pxM hH (fun _ hF => smAlloc (cs := (cArr 3).enc (fun _ => 0)) (z := ((cArr 3).val (fun _ => 0))) rfl (by kernel_rfl) rfl) trivial rfl (fun _ _ => rfl) (kM [false, true, true] rfl rfl) (by decide) ?_
    clear hH
    rintro _ _ w ⟨g2, rfl, rfl⟩ hH
    replace hH : HH w0 [] [Eo, [bl g2 61 ((cArr 3).enc (fun _ => 0))]] w := hH
    refine pxEnd ?_
    refine qxThen ?_
    refine cxSeq ?_
    obtain ⟨kk, hkk⟩ : ∃ kk, Nat.min n1 3 = kk := ⟨_, rfl⟩
    have hkk2 := min3 hkk (by omega)
    refine cxReg ?_
    refine pxV (v := (.slice (some ⟨g2, 0, none⟩) 3 3)) (fun _ _ hF => opSliceA (n := 3) (e := 5) (sz := 1) rfl (by kernel_rfl) (by kernel_rfl) (hF.ev 0 rfl)) rfl (fun _ _ => rfl) (kA rfl) (by decide) ?_
    refine pxV (v := (.slice A1 n1 c1)) (fun _ _ hF => opMove rfl (hF.ev 3 rfl)) rfl (fun _ _ => rfl) (kA rfl) (by decide) ?_
    refine pxE 1 hH rfl (fun _ hF => smCopyK (C := cByte) (m := l1) (e := 5) kk hkk rfl (by kernel_rfl) (by kernel_rfl) (ltb rfl) (hF.ev 1 rfl) (hF.ev 0 rfl) hV.len (by rw [Cod.size]; show 0 + kk * 1 ≤ 3; omega) (arr_ovr _ _)) (hH.vu hV (by decide) (Off.nil _ _)) rfl (fun _ _ => rfl) (kM [false, false, true, true, true] rfl rfl) (by decide) ?_
    clear hH
    rintro _ _ w ⟨rfl, rfl⟩ hH
    replace hH : HH w0 [] [Eo, [bl g2 61 ((cArr 3).enc (ovr (l1.take kk) (fun _ => 0)))]] w := hH
    refine pxV (v := (.int .i64 (((kk) : Nat) : Int))) (fun _ _ hF => opAssign rfl (hF.ev 0 rfl)) rfl (fun _ _ => rfl) (kM [false, true, true, true] rfl rfl) (by decide) ?_
    refine pxEnd ?_
    refine qxThen ?_
    refine cxSeq ?_
    refine cxReg ?_
    refine pxV (v := (.slice A1 n1 c1)) (fun _ _ hF => opMove rfl (hF.ev 3 rfl)) rfl (fun _ _ => rfl) (kM [true, true, true, false] rfl rfl) (by decide) ?_
    refine pxV (v := (.int .i64 (((kk) : Nat) : Int))) (fun _ _ hF => opMove rfl (hF.ev 1 rfl)) rfl (fun _ _ => rfl) (kA rfl) (by decide) ?_
    refine pxV (v := (.slice (cutA A1 c1 kk 1) (n1 - kk) (c1 - kk))) (fun _ _ hF => opCutL (k := kk) (e := 5) (sz := 1) rfl (by kernel_rfl) (by kernel_rfl) (hF.ev 1 rfl) (hF.ev 0 rfl) rfl (by omega)) rfl (fun _ _ => rfl) (kM [false, false, true, true, true] rfl rfl) (by decide) ?_
    refine pxV (v := (.slice (cutA A1 c1 kk 1) (n1 - kk) (c1 - kk))) (fun _ _ hF => opAssign rfl (hF.ev 0 rfl)) rfl (fun _ _ => rfl) (kM [false, true, true, true] rfl rfl) (by decide) ?_
    refine pxEnd ?_
    refine qxThen ?_
    refine cxSeq ?_
    obtain ⟨f, hf⟩ : ∃ f, ovr (l1.take kk) (fun _ => 0) = f := ⟨_, rfl⟩
    rw [hf] at hH
    have hf0 := (f 0).toNat_lt
    have hf1 := (f 1).toNat_lt
    have hf2 := (f 2).toNat_lt
    refine cxReg ?_
    have hi3 : 0 < 3 := by omega
    refine pxV (v := (.pointer (some ⟨g2, 0 + 0 * 1, none⟩))) (fun _ _ hF => opIndexA (i := 0) (e := 5) (sz := 1) rfl (by kernel_rfl) (by kernel_rfl) (hF.ev 2 rfl) rfl rfl hi3) rfl (fun _ _ => rfl) (kA rfl) (by decide) ?_
    refine pxS (v := (.int .u8 ((((f 0).toNat) : Nat) : Int))) (fun w => w.heap[g2]? = some (.cells ((cArr 3).enc f) 61 (0, 0))) (hH.blk 1 rfl) (fun _ _ hF hS => opLoadT (C := cByte) (y := (f 0)) rfl (hF.ev 0 rfl) (by kernel_rfl) ((holds_blk0 hS).elt hi3) rfl) rfl (fun _ _ => rfl) (kM [false, true, true, true, true] rfl rfl) (by decide) ?_
    refine pxV (v := (.int .u8 ((((ob ((f 0).toNat / 4)).toNat) : Nat) : Int))) (fun _ _ hF => opShrU (n := 2) (z := ((ob ((f 0).toNat / 4)).toNat)) rfl (hF.ev 0 rfl) rfl (leb rfl) (by rw [toNat_ob]; show _ / 4 = _; omega)) rfl (fun _ _ => rfl) (kM [false, true, true, true, true] rfl rfl) (by decide) ?_
    have hi4 : 0 < 3 := by omega
    refine pxV (v := (.pointer (some ⟨g2, 0 + 0 * 1, none⟩))) (fun _ _ hF => opIndexA (i := 0) (e := 5) (sz := 1) rfl (by kernel_rfl) (by kernel_rfl) (hF.ev 3 rfl) rfl rfl hi4) rfl (fun _ _ => rfl) (kA rfl) (by decide) ?_
    refine pxS (v := (.int .u8 ((((f 0).toNat) : Nat) : Int))) (fun w => w.heap[g2]? = some (.cells ((cArr 3).enc f) 61 (0, 0))) (hH.blk 1 rfl) (fun _ _ hF hS => opLoadT (C := cByte) (y := (f 0)) rfl (hF.ev 0 rfl) (by kernel_rfl) ((holds_blk0 hS).elt hi4) rfl) rfl (fun _ _ => rfl) (kM [false, true, true, true, true, true] rfl rfl) (by decide) ?_
    refine pxV (v := (.int .u8 ((((f 0).toNat % 4) : Nat) : Int))) (fun _ _ hF => opAndU (m := (f 0).toNat) (j := 3) (z := ((f 0).toNat % 4)) rfl rfl (hF.ev 0 rfl) rfl (UInt8.toNat_lt _) (by decide) (Nat.and_two_pow_sub_one_eq_mod _ 2)) rfl (fun _ _ => rfl) (kM [false, true, true, true, true, true] rfl rfl) (by decide) ?_
    refine pxV (v := (.int .u8 ((((f 0).toNat % 4 * 16) : Nat) : Int))) (fun _ _ hF => opShlU (n := 4) (z := ((f 0).toNat % 4 * 16)) rfl rfl (hF.ev 0 rfl) rfl (leb rfl) (by show ((f 0).toNat % 4 * 2 ^ 4) % 256 = _; omega)) rfl (fun _ _ => rfl) (kM [false, true, true, true, true, true] rfl rfl) (by decide) ?_
    have hi5 : 1 < 3 := by omega
    refine pxV (v := (.pointer (some ⟨g2, 0 + 1 * 1, none⟩))) (fun _ _ hF => opIndexA (i := 1) (e := 5) (sz := 1) rfl (by kernel_rfl) (by kernel_rfl) (hF.ev 4 rfl) rfl rfl hi5) rfl (fun _ _ => rfl) (kA rfl) (by decide) ?_
    refine pxS (v := (.int .u8 ((((f 1).toNat) : Nat) : Int))) (fun w => w.heap[g2]? = some (.cells ((cArr 3).enc f) 61 (0, 0))) (hH.blk 1 rfl) (fun _ _ hF hS => opLoadT (C := cByte) (y := (f 1)) rfl (hF.ev 0 rfl) (by kernel_rfl) ((holds_blk0 hS).elt hi5) rfl) rfl (fun _ _ => rfl) (kM [false, true, true, true, true, true, true] rfl rfl) (by decide) ?_
    refine pxV (v := (.int .u8 ((((f 1).toNat / 16) : Nat) : Int))) (fun _ _ hF => opShrU (n := 4) (z := ((f 1).toNat / 16)) rfl (hF.ev 0 rfl) rfl (leb rfl) (rfl)) rfl (fun _ _ => rfl) (kM [false, true, true, true, true, true, true] rfl rfl) (by decide) ?_
    refine pxV (v := (.int .u8 ((((ob ((f 0).toNat % 4 * 16 + (f 1).toNat / 16)).toNat) : Nat) : Int))) (fun _ _ hF => opOrU (m := (f 0).toNat % 4 * 16) (j := (f 1).toNat / 16) (z := ((ob ((f 0).toNat % 4 * 16 + (f 1).toNat / 16)).toNat)) rfl rfl (hF.ev 1 rfl) (hF.ev 0 rfl) (by show _ < 256; omega) (by show _ < 256; omega) ((orN (k := 4) (by omega)).trans (by rw [toNat_ob]; omega))) rfl (fun _ _ => rfl) (kM [false, false, true, true, true, true, true] rfl rfl) (by decide) ?_
    have hi6 : 1 < 3 := by omega
    refine pxV (v := (.pointer (some ⟨g2, 0 + 1 * 1, none⟩))) (fun _ _ hF => opIndexA (i := 1) (e := 5) (sz := 1) rfl (by kernel_rfl) (by kernel_rfl) (hF.ev 4 rfl) rfl rfl hi6) rfl (fun _ _ => rfl) (kA rfl) (by decide) ?_
    refine pxS (v := (.int .u8 ((((f 1).toNat) : Nat) : Int))) (fun w => w.heap[g2]? = some (.cells ((cArr 3).enc f) 61 (0, 0))) (hH.blk 1 rfl) (fun _ _ hF hS => opLoadT (C := cByte) (y := (f 1)) rfl (hF.ev 0 rfl) (by kernel_rfl) ((holds_blk0 hS).elt hi6) rfl) rfl (fun _ _ => rfl) (kM [false, true, true, true, true, true, true] rfl rfl) (by decide) ?_
    refine pxV (v := (.int .u8 ((((f 1).toNat % 16) : Nat) : Int))) (fun _ _ hF => opAndU (m := (f 1).toNat) (j := 15) (z := ((f 1).toNat % 16)) rfl rfl (hF.ev 0 rfl) rfl (UInt8.toNat_lt _) (by decide) (Nat.and_two_pow_sub_one_eq_mod _ 4)) rfl (fun _ _ => rfl) (kM [false, true, true, true, true, true, true] rfl rfl) (by decide) ?_
    refine pxV (v := (.int .u8 ((((f 1).toNat % 16 * 4) : Nat) : Int))) (fun _ _ hF => opShlU (n := 2) (z := ((f 1).toNat % 16 * 4)) rfl rfl (hF.ev 0 rfl) rfl (leb rfl) (by show ((f 1).toNat % 16 * 2 ^ 2) % 256 = _; omega)) rfl (fun _ _ => rfl) (kM [false, true, true, true, true, true, true] rfl rfl) (by decide) ?_
    have hi7 : 2 < 3 := by omega
    refine pxV (v := (.pointer (some ⟨g2, 0 + 2 * 1, none⟩))) (fun _ _ hF => opIndexA (i := 2) (e := 5) (sz := 1) rfl (by kernel_rfl) (by kernel_rfl) (hF.ev 5 rfl) rfl rfl hi7) rfl (fun _ _ => rfl) (kA rfl) (by decide) ?_
    refine pxS (v := (.int .u8 ((((f 2).toNat) : Nat) : Int))) (fun w => w.heap[g2]? = some (.cells ((cArr 3).enc f) 61 (0, 0))) (hH.blk 1 rfl) (fun _ _ hF hS => opLoadT (C := cByte) (y := (f 2)) rfl (hF.ev 0 rfl) (by kernel_rfl) ((holds_blk0 hS).elt hi7) rfl) rfl (fun _ _ => rfl) (kM [false, true, true, true, true, true, true, true] rfl rfl) (by decide) ?_
    refine pxV (v := (.int .u8 ((((f 2).toNat / 64) : Nat) : Int))) (fun _ _ hF => opShrU (n := 6) (z := ((f 2).toNat / 64)) rfl (hF.ev 0 rfl) rfl (leb rfl) (rfl)) rfl (fun _ _ => rfl) (kM [false, true, true, true, true, true, true, true] rfl rfl) (by decide) ?_
    refine pxV (v := (.int .u8 ((((ob ((f 1).toNat % 16 * 4 + (f 2).toNat / 64)).toNat) : Nat) : Int))) (fun _ _ hF => opOrU (m := (f 1).toNat % 16 * 4) (j := (f 2).toNat / 64) (z := ((ob ((f 1).toNat % 16 * 4 + (f 2).toNat / 64)).toNat)) rfl rfl (hF.ev 1 rfl) (hF.ev 0 rfl) (by show _ < 256; omega) (by show _ < 256; omega) ((orN (k := 2) (by omega)).trans (by rw [toNat_ob]; omega))) rfl (fun _ _ => rfl) (kM [false, false, true, true, true, true, true, true] rfl rfl) (by decide) ?_
    have hi8 : 2 < 3 := by omega
    refine pxV (v := (.pointer (some ⟨g2, 0 + 2 * 1, none⟩))) (fun _ _ hF => opIndexA (i := 2) (e := 5) (sz := 1) rfl (by kernel_rfl) (by kernel_rfl) (hF.ev 5 rfl) rfl rfl hi8) rfl (fun _ _ => rfl) (kM [true, true, true, true, true, false, true] rfl rfl) (by decide) ?_
    refine pxS (v := (.int .u8 ((((f 2).toNat) : Nat) : Int))) (fun w => w.heap[g2]? = some (.cells ((cArr 3).enc f) 61 (0, 0))) (hH.blk 1 rfl) (fun _ _ hF hS => opLoadT (C := cByte) (y := (f 2)) rfl (hF.ev 0 rfl) (by kernel_rfl) ((holds_blk0 hS).elt hi8) rfl) rfl (fun _ _ => rfl) (kM [false, true, true, true, true, true, true] rfl rfl) (by decide) ?_
    refine pxV (v := (.int .u8 ((((ob ((f 2).toNat % 64)).toNat) : Nat) : Int))) (fun _ _ hF => opAndU (m := (f 2).toNat) (j := 63) (z := ((ob ((f 2).toNat % 64)).toNat)) rfl rfl (hF.ev 0 rfl) rfl (UInt8.toNat_lt _) (by decide) ((Nat.and_two_pow_sub_one_eq_mod _ 6).trans (by rw [toNat_ob]; omega))) rfl (fun _ _ => rfl) (kM [false, true, true, true, true, true, true] rfl rfl) (by decide) ?_
    refine pxM hH (fun _ hF => smLits (C := cByte) (e := 5) (z := (.int .u8 0)) (by_ := 1) [(ob ((f 0).toNat / 4)), (ob ((f 0).toNat % 4 * 16 + (f 1).toNat / 16)), (ob ((f 1).toNat % 16 * 4 + (f 2).toNat / 64)), (ob ((f 2).toNat % 64))] rfl (by kernel_rfl) (by kernel_rfl) (EvP.cons (v := cByte.val (ob ((f 0).toNat / 4))) (hF.ev 3 rfl) (EvP.cons (v := cByte.val (ob ((f 0).toNat % 4 * 16 + (f 1).toNat / 16))) (hF.ev 2 rfl) (EvP.cons (v := cByte.val (ob ((f 1).toNat % 16 * 4 + (f 2).toNat / 64))) (hF.ev 1 rfl) (EvP.cons (v := cByte.val (ob ((f 2).toNat % 64))) (hF.ev 0 rfl) EvP.nil)))) rfl (ltb rfl) (leb rfl) rfl) trivial rfl (fun _ _ => rfl) (kM [false, false, false, false, true, true, true] rfl rfl) (by decide) ?_
    clear hH
    rintro _ _ w ⟨g9, rfl, rfl⟩ hH
    replace hH : HH w0 [] [Eo, [bl g2 61 ((cArr 3).enc f)], [bl g9 5 (flat cByte [(ob ((f 0).toNat / 4)), (ob ((f 0).toNat % 4 * 16 + (f 1).toNat / 16)), (ob ((f 1).toNat % 16 * 4 + (f 2).toNat / 64)), (ob ((f 2).toNat % 64))]).toArray]] w := hH
    refine pxV (v := (.slice (some ⟨g9, 0, none⟩) 4 4)) (fun _ _ hF => opAssign rfl (hF.ev 0 rfl)) rfl (fun _ _ => rfl) (kM [false, true, true, true] rfl rfl) (by decide) ?_
    refine pxEnd ?_
    refine qxThen ?_
    refine cxSeq ?_
    refine cxReg ?_
    refine pxV (v := (.slice (some ⟨g9, 0, none⟩) 4 4)) (fun _ _ hF => opMove rfl (hF.ev 0 rfl)) rfl (fun _ _ => rfl) (kA rfl) (by decide) ?_
    refine pxV (v := (.int .i64 4)) (fun _ _ hF => opLen (e := 5) rfl (by kernel_rfl) (hF.ev 0 rfl)) rfl (fun _ _ => rfl) (kM [false, true, true, true, true] rfl rfl) (by decide) ?_
    refine pxV (v := (.int .i64 0)) (fun _ _ hF => opMove rfl rfl) rfl (fun _ _ => rfl) (kA rfl) (by decide) ?_
    refine pxEnd ?_
    refine qxThen ?_
    refine cxBlock ?_
    refine cxLoop (σ := Nat × (List UInt8) × (Option Addr) × Nat × Hl) (fun x => [(42, (.int .i64 (((x.1) : Nat) : Int))), (41, (.int .i64 4)), (6, (.slice (some ⟨g9, 0, none⟩) 4 4)), (5, (.int .i64 (((kk) : Nat) : Int))), (3, (.slice x.2.2.1 x.2.1.length x.2.2.2.1)), (0, (.slice (cutA A1 c1 kk 1) (n1 - kk) (c1 - kk)))]) (fun x w => HH w0 [] [x.2.2.2.2, [bl g2 61 ((cArr 3).enc f)], [bl g9 5 (flat cByte [(ob ((f 0).toNat / 4)), (ob ((f 0).toNat % 4 * 16 + (f 1).toNat / 16)), (ob ((f 1).toNat % 16 * 4 + (f 2).toNat / 64)), (ob ((f 2).toNat % 64))]).toArray]] w ∧ (x.1 ≤ 4) ∧ (x.2.1.length = o.length + x.1) ∧ (x.2.1 = o ++ (g4 f kk).take x.1) ∧ (OwnT cByte 5 (.slice x.2.2.1 x.2.1.length x.2.2.2.1) x.2.1 x.2.2.2.2)) (fun x => 4 - x.1) (0, o, Ao, co, Eo) ⟨hH, (leb rfl), rfl, (by simp [g4]), hOo⟩ (slots_at [0, 1, 2, 4, 5, 3] rfl) ?_
    clear hH
    rintro ⟨i, o2, Ap, cp, Ep⟩ w ⟨hH, hi4, hol, ho2, hOp⟩
    change CX _ _ _ _ [(42, (.int .i64 (((i) : Nat) : Int))), (41, (.int .i64 4)), (6, (.slice (some ⟨g9, 0, none⟩) 4 4)), (5, (.int .i64 (((kk) : Nat) : Int))), (3, (.slice Ap o2.length cp)), (0, (.slice (cutA A1 c1 kk 1) (n1 - kk) (c1 - kk)))] _
    replace hH : HH w0 [] [Ep, [bl g2 61 ((cArr 3).enc f)], [bl g9 5 (flat cByte [(ob ((f 0).toNat / 4)), (ob ((f 0).toNat % 4 * 16 + (f 1).toNat / 16)), (ob ((f 1).toNat % 16 * 4 + (f 2).toNat / 64)), (ob ((f 2).toNat % 64))]).toArray]] w := hH
    replace hi4 : i ≤ 4 := hi4
    replace hol : o2.length = o.length + i := hol
    replace ho2 : o2 = o ++ (g4 f kk).take i := ho2
    replace hOp : OwnT cByte 5 (.slice Ap o2.length cp) o2 Ep := hOp
    refine cxSeq ?_
    refine cxReg ?_
    refine pxV (v := (.bool (decide (i < 4)))) (fun _ _ hF => opLss rfl (hF.ev 0 rfl) (hF.ev 1 rfl) (dc (by omega))) rfl (fun _ _ => rfl) (kA rfl) (by decide) ?_
    refine pxEnd ?_
    refine qxThen ?_
    refine cxSeq ?_
    refine cxP 0 rfl rfl (fun hc10 => ?_) (fun hc10 => ?_)
    · refine cxSkip ?_
      refine qxThen ?_
      refine cxSeq ?_
      refine cxBlock ?_
      refine cxSeq ?_
      refine cxReg ?_
      refine pxV (v := (.int .i64 (((i) : Nat) : Int))) (fun _ _ hF => opMove rfl (hF.ev 1 rfl)) rfl (fun _ _ => rfl) (kM [false, true, true, true, true, true, true] rfl rfl) (by decide) ?_
      refine pxV (v := (.int .i64 (((i) : Nat) : Int))) (fun _ _ hF => opAssign rfl (hF.ev 0 rfl)) rfl (fun _ _ => rfl) (kM [false, true, true, true, true, true, true] rfl rfl) (by decide) ?_
      refine pxEnd ?_
      refine qxThen ?_
      refine cxSeq ?_
      obtain ⟨x4, hx4⟩ := get_at [(ob ((f 0).toNat / 4)), (ob ((f 0).toNat % 4 * 16 + (f 1).toNat / 16)), (ob ((f 1).toNat % 16 * 4 + (f 2).toNat / 64)), (ob ((f 2).toNat % 64))] i (by simp only [List.length_cons, List.length_nil]; omega)
      have hb4 := UInt8.toNat_lt x4
      refine cxReg ?_
      refine pxV (v := (.int .i64 (((i) : Nat) : Int))) (fun _ _ hF => opMove rfl (hF.ev 0 rfl)) rfl (fun _ _ => rfl) (kA rfl) (by decide) ?_
      refine pxV (v := (.int .i64 (((kk) : Nat) : Int))) (fun _ _ hF => opMove rfl (hF.ev 5 rfl)) rfl (fun _ _ => rfl) (kA rfl) (by decide) ?_
      refine pxV (v := (.bool (decide (i ≤ kk)))) (fun _ _ hF => opLeq rfl (hF.ev 1 rfl) (hF.ev 0 rfl) (dc (by omega))) rfl (fun _ _ => rfl) (kM [false, false, true, true, true, true, true, true, true] rfl rfl) (by decide) ?_
      refine pxEnd ?_
      refine qxThen ?_
      refine cxP 0 rfl rfl (fun hc11 => ?_) (fun hc11 => ?_)
      · refine cxReg ?_
        refine pxV (v := (.slice Ap o2.length cp)) (fun _ _ hF => opMove rfl (hF.ev 6 rfl)) rfl (fun _ _ => rfl) (kM [false, true, true, true, true, true, false, true] rfl rfl) (by decide) ?_
        refine pxV (v := (.slice (some ⟨g9, 0, none⟩) 4 4)) (fun _ _ hF => opMove rfl (hF.ev 4 rfl)) rfl (fun _ _ => rfl) (kA rfl) (by decide) ?_
        refine pxV (v := (.int .i64 (((i) : Nat) : Int))) (fun _ _ hF => opMove rfl (hF.ev 2 rfl)) rfl (fun _ _ => rfl) (kM [true, true, false, true, true, true, true, true] rfl rfl) (by decide) ?_
        have hi12 : i < 4 := by omega
        have hj15 : i < ([(ob ((f 0).toNat / 4)), (ob ((f 0).toNat % 4 * 16 + (f 1).toNat / 16)), (ob ((f 1).toNat % 16 * 4 + (f 2).toNat / 64)), (ob ((f 2).toNat % 64))]).length := by first | exact hi12 | (simp only [List.length_drop, List.length_take]; omega) | omega
        refine pxV (v := (.pointer (some ⟨g9, 0 + i * 1, none⟩))) (fun _ _ hF => opIndex (i := i) (e := 5) (sz := 1) rfl (by kernel_rfl) (by kernel_rfl) (hF.ev 1 rfl) (hF.ev 0 rfl) rfl hi12) rfl (fun _ _ => rfl) (kM [false, false, true, true, true, true, true, true] rfl rfl) (by decide) ?_
        refine pxS (v := (.int .u8 (((x4.toNat) : Nat) : Int))) (fun w => w.heap[g9]? = some (.cells (flat cByte [(ob ((f 0).toNat / 4)), (ob ((f 0).toNat % 4 * 16 + (f 1).toNat / 16)), (ob ((f 1).toNat % 16 * 4 + (f 2).toNat / 64)), (ob ((f 2).toNat % 64))]).toArray 5 (0, 0))) (hH.blk 2 rfl) (fun _ _ hF hS => opLoadT (C := cByte) (y := x4) rfl (hF.ev 0 rfl) (by kernel_rfl) (((Bk.lits (C := cByte) [(ob ((f 0).toNat / 4)), (ob ((f 0).toNat % 4 * 16 + (f 1).toNat / 16)), (ob ((f 1).toNat % 16 * 4 + (f 2).toNat / 64)), (ob ((f 2).toNat % 64))] (by show 4 ≤ _; unfold maxLen; decide)).holdsL hS) i _ hx4) rfl) rfl (fun _ _ => rfl) (kM [false, true, true, true, true, true, true] rfl rfl) (by decide) ?_
        refine pxV (v := (.int .u8 ((((sg x4.toNat).toNat) : Nat) : Int))) (fun _ _ hF => opIdxL (l := sgnL) (i := x4.toNat) (c := (sg x4.toNat)) rfl (by kernel_rfl) rfl (hF.ev 0 rfl) rfl (sg_get (four_at (f := f) hx4))) rfl (fun _ _ => rfl) (kM [false, true, true, true, true, true, true] rfl rfl) (by decide) ?_
        refine pxM hH (fun _ hF => smLit1 (e := 5) (sz := 1) (z := (.int .u8 0)) (by_ := 1) (cs := cByte.enc (sg x4.toNat)) rfl (by kernel_rfl) (by kernel_rfl) (hF.ev 0 rfl) (cByte.len (sg x4.toNat)) (ltb rfl) (leb rfl) rfl) trivial rfl (fun _ _ => rfl) (kM [false, true, true, true, true, true, true] rfl rfl) (by decide) ?_
        clear hH
        rintro _ _ w ⟨g16, rfl, rfl⟩ hH
        replace hH : HH w0 [] [Ep, [bl g2 61 ((cArr 3).enc f)], [bl g9 5 (flat cByte [(ob ((f 0).toNat / 4)), (ob ((f 0).toNat % 4 * 16 + (f 1).toNat / 16)), (ob ((f 1).toNat % 16 * 4 + (f 2).toNat / 64)), (ob ((f 2).toNat % 64))]).toArray], [bl g16 5 (cByte.enc (sg x4.toNat))]] w := hH
        refine pxE 0 hH rfl (fun _ hF => smAppT (C := cByte) (l := o2) (m := [(sg x4.toNat)]) (e := 5) (z := (.int .u8 0)) (by_ := 1) rfl (by kernel_rfl) (by kernel_rfl) rfl (ltb rfl) (hF.ev 1 rfl) hOp (hF.ev 0 rfl) rfl (fun h => by cases h) (by unfold maxLen; omega) (by omega)) ((Bk.lit1 (C := cByte) (sg x4.toNat)).vu (n := 1) (hH.blk 3 rfl) rfl) rfl (fun _ _ => rfl) (kM [false, false, true, true, true, true, true] rfl rfl) (by decide) ?_
        clear hH
        rintro v19 E20 w ⟨hO21, _⟩ hH
        replace hH : HH w0 [] [E20, [bl g2 61 ((cArr 3).enc f)], [bl g9 5 (flat cByte [(ob ((f 0).toNat / 4)), (ob ((f 0).toNat % 4 * 16 + (f 1).toNat / 16)), (ob ((f 1).toNat % 16 * 4 + (f 2).toNat / 64)), (ob ((f 2).toNat % 64))]).toArray], [bl g16 5 (cByte.enc (sg x4.toNat))]] w := hH
        replace hO21 : OwnT cByte 5 v19 (o2 ++ [(sg x4.toNat)]) E20 := hO21
        obtain ⟨A17, c18, rfl⟩ := hO21.slice
        refine pxV (v := (.slice A17 ((o2 ++ [(sg x4.toNat)]).length) c18)) (fun _ _ hF => opAssign rfl (hF.ev 0 rfl)) rfl (fun _ _ => rfl) (kM [false, true, true, true, true, true] rfl rfl) (by decide) ?_
        refine pxEnd ?_
        refine qxInN ?_
        refine qxThen ?_
        refine cxReg ?_
        refine pxV (v := (.int .i64 (((i + 1) : Nat) : Int))) (fun _ _ hF => opAdd rfl (hF.ev 1 rfl) rfl (wI (by omega) (by omega) (by omega))) rfl (fun _ _ => rfl) (kM [true, false, true, true, true, true] rfl rfl) (by decide) ?_
        refine pxV (v := (.int .i64 (((i + 1) : Nat) : Int))) (fun _ _ hF => opMove rfl (hF.ev 0 rfl)) rfl (fun _ _ => rfl) (kM [false, true, true, true, true, true] rfl rfl) (by decide) ?_
        refine pxEnd ?_
        replace hH : HH w0 [] [E20, [bl g2 61 ((cArr 3).enc f)], [bl g9 5 (flat cByte [(ob ((f 0).toNat / 4)), (ob ((f 0).toNat % 4 * 16 + (f 1).toNat / 16)), (ob ((f 1).toNat % 16 * 4 + (f 2).toNat / 64)), (ob ((f 2).toNat % 64))]).toArray]] w := hH.only [true, true, true, false]
        exact qxRound ((i + 1), (o2 ++ [(sg x4.toNat)]), A17, c18, E20) ⟨hH, (show (i + 1) ≤ 4 from (by omega)), (show (o2 ++ [(sg x4.toNat)]).length = o.length + (i + 1) from (by rw [List.length_append, List.length_singleton, hol]; omega)), (show (o2 ++ [(sg x4.toNat)]) = o ++ (g4 f kk).take (i + 1) from (take_next ((g4_at (f := f) (n := kk) (by omega) hx4).trans (by rw [if_pos hc11])) ho2)), hO21⟩ (by show 4 - (i + 1) < 4 - i; omega) (slots_at [0, 2, 3, 4, 1, 5] rfl)
      · refine cxReg ?_
        refine pxV (v := (.slice Ap o2.length cp)) (fun _ _ hF => opMove rfl (hF.ev 6 rfl)) rfl (fun _ _ => rfl) (kM [false, false, true, true, true, true, false, true] rfl rfl) (by decide) ?_
        refine pxM hH (fun _ hF => smLit1 (e := 5) (sz := 1) (z := (.int .u8 0)) (by_ := 1) (cs := cByte.enc 61) rfl (by kernel_rfl) (by kernel_rfl) rfl (cByte.len 61) (ltb rfl) (leb rfl) rfl) trivial rfl (fun _ _ => rfl) (kA rfl) (by decide) ?_
        clear hH
        rintro _ _ w ⟨g22, rfl, rfl⟩ hH
        replace hH : HH w0 [] [Ep, [bl g2 61 ((cArr 3).enc f)], [bl g9 5 (flat cByte [(ob ((f 0).toNat / 4)), (ob ((f 0).toNat % 4 * 16 + (f 1).toNat / 16)), (ob ((f 1).toNat % 16 * 4 + (f 2).toNat / 64)), (ob ((f 2).toNat % 64))]).toArray], [bl g22 5 (cByte.enc 61)]] w := hH
        refine pxE 0 hH rfl (fun _ hF => smAppT (C := cByte) (l := o2) (m := [61]) (e := 5) (z := (.int .u8 0)) (by_ := 1) rfl (by kernel_rfl) (by kernel_rfl) rfl (ltb rfl) (hF.ev 1 rfl) hOp (hF.ev 0 rfl) rfl (fun h => by cases h) (by unfold maxLen; omega) (by omega)) ((Bk.lit1 (C := cByte) 61).vu (n := 1) (hH.blk 3 rfl) rfl) rfl (fun _ _ => rfl) (kM [false, false, true, true, true, true, true] rfl rfl) (by decide) ?_
        clear hH
        rintro v25 E26 w ⟨hO27, _⟩ hH
        replace hH : HH w0 [] [E26, [bl g2 61 ((cArr 3).enc f)], [bl g9 5 (flat cByte [(ob ((f 0).toNat / 4)), (ob ((f 0).toNat % 4 * 16 + (f 1).toNat / 16)), (ob ((f 1).toNat % 16 * 4 + (f 2).toNat / 64)), (ob ((f 2).toNat % 64))]).toArray], [bl g22 5 (cByte.enc 61)]] w := hH
        replace hO27 : OwnT cByte 5 v25 (o2 ++ [61]) E26 := hO27
        obtain ⟨A23, c24, rfl⟩ := hO27.slice
        refine pxV (v := (.slice A23 ((o2 ++ [61]).length) c24)) (fun _ _ hF => opAssign rfl (hF.ev 0 rfl)) rfl (fun _ _ => rfl) (kM [false, true, true, true, true, true] rfl rfl) (by decide) ?_
        refine pxEnd ?_
        refine qxInN ?_
        refine qxThen ?_
        refine cxReg ?_
        refine pxV (v := (.int .i64 (((i + 1) : Nat) : Int))) (fun _ _ hF => opAdd rfl (hF.ev 1 rfl) rfl (wI (by omega) (by omega) (by omega))) rfl (fun _ _ => rfl) (kM [true, false, true, true, true, true] rfl rfl) (by decide) ?_
        refine pxV (v := (.int .i64 (((i + 1) : Nat) : Int))) (fun _ _ hF => opMove rfl (hF.ev 0 rfl)) rfl (fun _ _ => rfl) (kM [false, true, true, true, true, true] rfl rfl) (by decide) ?_
        refine pxEnd ?_
        replace hH : HH w0 [] [E26, [bl g2 61 ((cArr 3).enc f)], [bl g9 5 (flat cByte [(ob ((f 0).toNat / 4)), (ob ((f 0).toNat % 4 * 16 + (f 1).toNat / 16)), (ob ((f 1).toNat % 16 * 4 + (f 2).toNat / 64)), (ob ((f 2).toNat % 64))]).toArray]] w := hH.only [true, true, true, false]
        exact qxRound ((i + 1), (o2 ++ [61]), A23, c24, E26) ⟨hH, (show (i + 1) ≤ 4 from (by omega)), (show (o2 ++ [61]).length = o.length + (i + 1) from (by rw [List.length_append, List.length_singleton, hol]; omega)), (show (o2 ++ [61]) = o ++ (g4 f kk).take (i + 1) from (take_next ((g4_at (f := f) (n := kk) (by omega) hx4).trans (by rw [if_neg hc11])) ho2)), hO27⟩ (by show 4 - (i + 1) < 4 - i; omega) (slots_at [0, 2, 3, 4, 1, 5] rfl)
    · refine cxExit ?_
      refine qxThenE ?_
      refine qxThenE ?_
      refine qxInE ?_
      refine qxInN ?_
      replace hH : HH w0 [] [Ep] w := hH.only [true, false, false]
      exact qxRound ((cutA A1 c1 kk 1), (n1 - kk), (c1 - kk), (l1.drop kk), o2, Ap, cp, Ep) ⟨hH, (show Vu cByte w0 (cutA A1 c1 kk 1) (n1 - kk) (c1 - kk) (l1.drop kk) from (hV.from (k := kk) (by omega))), (show o2 ++ b64 (l1.drop kk) = b64 l from (by have e : i = 4 := (by omega); subst e; rw [show (g4 f kk).take 4 = g4 f kk from rfl] at ho2; rw [b64_group (by omega) (by rw [hcl]; exact hkk) hf, ← List.append_assoc] at hinv; rw [ho2]; exact hinv)), hOp⟩ (by show n1 - kk < n1; omega) (slots_at [5, 6] rfl)
  · refine cxExit ?_
    refine qxThenE ?_
    refine qxThenE ?_
    refine qxInE ?_
    refine qxThen ?_
    refine cxSeq ?_
    refine cxReg ?_
    refine pxV (v := (.slice Ao o.length co)) (fun _ _ hF => opMove rfl (hF.ev 1 rfl)) rfl (fun _ _ => rfl) (kM [false, false, false] rfl rfl) (by decide) ?_
    refine pxS (v := (.string (strL o))) (fun w => Vu cByte w Ao o.length co o) (hOo.vuAt (hH.has 0 rfl)) (fun _ _ hF hS => opStr (e := 5) rfl (by kernel_rfl) (by kernel_rfl) (by kernel_rfl) (hF.ev 0 rfl) hS) rfl (fun _ _ => rfl) (kM [false] rfl rfl) (by decide) ?_
    refine pxV (v := (.string (strL o))) (fun _ _ hF => opAssign rfl (hF.ev 0 rfl)) rfl (fun _ _ => rfl) (kM [false] rfl rfl) (by decide) ?_
    refine pxEnd ?_
    refine qxThen ?_
    refine cxRet ?_
    refine qxRet1 0 rfl rfl ?_
    have e : l1 = [] := List.eq_nil_of_length_eq_zero (by have := hV.len; omega)
    subst e
    have ho : o = b64 l := by simpa [b64] using hinv
    exact ⟨by rw [ho], hH.toBelow⟩

end Go.Proofs.YtadbpmcmdcnlfaaDoor

namespace Go.Proofs.YtadbpmcmdcnlfaaDoor
open Go Go.RowKit
set_option maxRecDepth 100000

set_option maxHeartbeats 8000000 in
theorem rthree_c (n : Nat) : Does Tryd.prog 26 #[(.int .u32 (((n) : Nat) : Int))] [] (fun _ => True) (fun v E' => OwnT cByte 5 v (three n) E') := by
  refine does_of (fn := Tryd.f26) Tryd.func26 rfl Tryd.ntmps26 (Nat.le_of_ble_eq_true rfl) rfl ?_
  intro w0 hH hR
  replace hH : HH w0 [] [] w0 := hH.only [false]
  refine cxSeq ?_
  refine cxReg ?_
  refine pxV (v := (.slice none 0 0)) (fun _ _ hF => opAssign rfl rfl) rfl (fun _ _ => rfl) (kA rfl) (by decide) ?_
  refine pxEnd ?_
  refine qxThen ?_
  refine cxSeq ?_
  refine cxReg ?_
  refine pxV (v := (.int .u32 (((n) : Nat) : Int))) (fun _ _ hF => opMove rfl (hF.ev 1 rfl)) rfl (fun _ _ => rfl) (kM [false, true] rfl rfl) (by decide) ?_
  refine pxV (v := (.int .u32 (((n / 65536) : Nat) : Int))) (fun _ _ hF => opShrU (n := 16) (z := (n / 65536)) rfl (hF.ev 0 rfl) rfl (leb rfl) (rfl)) rfl (fun _ _ => rfl) (kM [false, true] rfl rfl) (by decide) ?_
  refine pxV (v := (.int .u8 ((((UInt8.ofNat (n / 65536)).toNat) : Nat) : Int))) (fun _ _ hF => opConvU (k' := .u8) rfl rfl (by kernel_rfl) (by kernel_rfl) (hF.ev 0 rfl) (UInt8.toNat_ofNat' (n := n / 65536)).symm) rfl (fun _ _ => rfl) (kM [false, true] rfl rfl) (by decide) ?_
  refine pxV (v := (.int .u32 (((n) : Nat) : Int))) (fun _ _ hF => opMove rfl (hF.ev 1 rfl)) rfl (fun _ _ => rfl) (kA rfl) (by decide) ?_
  refine pxV (v := (.int .u32 (((n / 256) : Nat) : Int))) (fun _ _ hF => opShrU (n := 8) (z := (n / 256)) rfl (hF.ev 0 rfl) rfl (leb rfl) (rfl)) rfl (fun _ _ => rfl) (kM [false, true, true] rfl rfl) (by decide) ?_
  refine pxV (v := (.int .u8 ((((UInt8.ofNat (n / 256)).toNat) : Nat) : Int))) (fun _ _ hF => opConvU (k' := .u8) rfl rfl (by kernel_rfl) (by kernel_rfl) (hF.ev 0 rfl) (UInt8.toNat_ofNat' (n := n / 256)).symm) rfl (fun _ _ => rfl) (kM [false, true, true] rfl rfl) (by decide) ?_
  refine pxV (v := (.int .u32 (((n) : Nat) : Int))) (fun _ _ hF => opMove rfl (hF.ev 2 rfl)) rfl (fun _ _ => rfl) (kM [true, true, false] rfl rfl) (by decide) ?_
  refine pxV (v := (.int .u8 ((((UInt8.ofNat n).toNat) : Nat) : Int))) (fun _ _ hF => opConvU (k' := .u8) rfl rfl (by kernel_rfl) (by kernel_rfl) (hF.ev 0 rfl) (UInt8.toNat_ofNat' (n := n)).symm) rfl (fun _ _ => rfl) (kM [false, true, true] rfl rfl) (by decide) ?_
  refine pxM hH (fun _ hF => smLits (C := cByte) (e := 5) (z := (.int .u8 0)) (by_ := 1) [(UInt8.ofNat (n / 65536)), (UInt8.ofNat (n / 256)), (UInt8.ofNat n)] rfl (by kernel_rfl) (by kernel_rfl) (EvP.cons (v := cByte.val (UInt8.ofNat (n / 65536))) (hF.ev 2 rfl) (EvP.cons (v := cByte.val (UInt8.ofNat (n / 256))) (hF.ev 1 rfl) (EvP.cons (v := cByte.val (UInt8.ofNat n)) (hF.ev 0 rfl) EvP.nil))) rfl (ltb rfl) (leb rfl) rfl) trivial rfl (fun _ _ => rfl) (kM [false, false, false] rfl rfl) (by decide) ?_
  clear hH
  rintro _ _ w ⟨g1, rfl, rfl⟩ hH
  replace hH : HH w0 [] [[bl g1 5 (flat cByte [(UInt8.ofNat (n / 65536)), (UInt8.ofNat (n / 256)), (UInt8.ofNat n)]).toArray]] w := hH
  refine pxV (v := (.slice (some ⟨g1, 0, none⟩) 3 3)) (fun _ _ hF => opAssign rfl (hF.ev 0 rfl)) rfl (fun _ _ => rfl) (kM [false] rfl rfl) (by decide) ?_
  refine pxEnd ?_
  refine qxThen ?_
  refine cxRet ?_
  refine qxRet1 0 rfl rfl ?_
  exact ⟨_, _, rfl, (Bk.lits (C := cByte) [(UInt8.ofNat (n / 65536)), (UInt8.ofNat (n / 256)), (UInt8.ofNat n)] (by show 3 ≤ _; unfold maxLen; decide)).own 5 g1 rfl, hH.out1 [true] rfl⟩

end Go.Proofs.YtadbpmcmdcnlfaaDoor

namespace Go.Proofs.YtadbpmcmdcnlfaaDoor
open Go Go.RowKit
set_option maxRecDepth 100000

/-- What the document's Unbase64 answers. -/
def UnPostR (r : Option (List UInt8)) (v : Value) (E' : Hl) : Prop :=
  (r = none ∧ v = .tuple #[.slice none 0 0, .int .i64 2] ∧ E' = []) ∨ ∃ b A c, r = some b ∧ v = .tuple #[.slice A b.length c, .int .i64 0] ∧ OwnT cByte 5 (.slice A b.length c) b E'

set_option maxHeartbeats 8000000 in
theorem runbase64_c (s : List UInt8) (hs : s.length ≤ 1099511627776) : Does Tryd.prog 33 #[(.string (strL s))] [] (fun _ => True) (fun v E' => UnPostR (unR s) v E') := by
  refine does_of (fn := Tryd.f33) Tryd.func33 rfl Tryd.ntmps33 (Nat.le_of_ble_eq_true rfl) rfl ?_
  intro w0 hH hR
  replace hH : HH w0 [] [] w0 := hH.only [false]
  refine cxSeq ?_
  refine cxReg ?_
  refine pxV (v := (.slice none 0 0)) (fun _ _ hF => opAssign rfl rfl) rfl (fun _ _ => rfl) (kA rfl) (by decide) ?_
  refine pxV (v := (.int .i64 0)) (fun _ _ hF => opAssign rfl rfl) rfl (fun _ _ => rfl) (kM [false, true] rfl rfl) (by decide) ?_
  refine pxEnd ?_
  refine qxThen ?_
  refine cxSeq ?_
  refine cxSeq ?_
  refine cxReg ?_
  refine pxV (v := (.string (strL s))) (fun _ _ hF => opMove rfl (hF.ev 1 rfl)) rfl (fun _ _ => rfl) (kM [false, true] rfl rfl) (by decide) ?_
  refine pxV (v := (.int .i64 (((s.length) : Nat) : Int))) (fun _ _ hF => opLenL (l := s) rfl (by kernel_rfl) (hF.ev 0 rfl)) rfl (fun _ _ => rfl) (kM [false, true] rfl rfl) (by decide) ?_
  refine pxV (v := (.int .i64 (((s.length % 4) : Nat) : Int))) (fun _ _ hF => opRem (z := ((s.length % 4 : Nat) : Int)) rfl (hF.ev 0 rfl) rfl (by omega) remN) rfl (fun _ _ => rfl) (kM [false, true] rfl rfl) (by decide) ?_
  refine pxV (v := (.bool (decide (s.length % 4 ≠ 0)))) (fun _ _ hF => opNeI rfl (hF.ev 0 rfl) rfl (dc (by omega))) rfl (fun _ _ => rfl) (kM [false, true] rfl rfl) (by decide) ?_
  refine pxEnd ?_
  refine qxThen ?_
  refine cxP 0 rfl rfl (fun hc1 => ?_) (fun hc1 => ?_)
  · refine cxSeq ?_
    refine cxReg ?_
    refine pxV (v := (.slice none 0 0)) (fun _ _ hF => opAssign rfl rfl) rfl (fun _ _ => rfl) (kM [false, false] rfl rfl) (by decide) ?_
    refine pxV (v := (.int .i64 2)) (fun _ _ hF => opAssign rfl rfl) rfl (fun _ _ => rfl) (kA rfl) (by decide) ?_
    refine pxEnd ?_
    refine qxThen ?_
    refine cxRet ?_
    refine qxThenR ?_
    refine qxRet2 1 0 rfl rfl rfl ?_
    exact ⟨_, _, rfl, .inl ⟨unR_len hc1, rfl, rfl⟩, hH.out []⟩
  · refine cxSkip ?_
    refine qxThen ?_
    refine cxSeq ?_
    refine cxReg ?_
    refine pxV (v := (.slice none 0 0)) (fun _ _ hF => opAssign rfl rfl) rfl (fun _ _ => rfl) (kM [false, true] rfl rfl) (by decide) ?_
    refine pxEnd ?_
    refine qxThen ?_
    refine cxSeq ?_
    refine cxSeq ?_
    refine cxReg ?_
    refine pxV (v := (.int .i64 0)) (fun _ _ hF => opAssign rfl rfl) rfl (fun _ _ => rfl) (kA rfl) (by decide) ?_
    refine pxEnd ?_
    refine qxThen ?_
    refine cxBlock ?_
    replace hH := HH.pad hH 1
    replace hH : HH w0 [] [[]] w0 := hH
    refine cxLoop (σ := Nat × (List UInt8) × (Option Addr) × Nat × Hl) (fun x => [(5, (.int .i64 (((x.1) : Nat) : Int))), (4, (.slice x.2.2.1 x.2.1.length x.2.2.2.1)), (0, (.string (strL s)))]) (fun x w => HH w0 [] [x.2.2.2.2] w ∧ (x.1 ≤ s.length) ∧ (x.1 % 4 = 0) ∧ (x.2.1.length ≤ x.1) ∧ ((ul (s.drop x.1)).map (x.2.1 ++ ·) = ul s) ∧ (OwnT cByte 5 (.slice x.2.2.1 x.2.1.length x.2.2.2.1) x.2.1 x.2.2.2.2)) (fun x => s.length - x.1) (0, [], none, 0, []) ⟨hH, Nat.zero_le _, rfl, Nat.le_refl _, (ul_start s), (OwnT.nil cByte 5)⟩ (slots_at [0, 1, 2] rfl) ?_
    clear hH
    rintro ⟨i, o, A1, c1, E⟩ w ⟨hH, hi, hi4, hol, hinv, hO⟩
    change CX _ _ _ _ [(5, (.int .i64 (((i) : Nat) : Int))), (4, (.slice A1 o.length c1)), (0, (.string (strL s)))] _
    replace hH : HH w0 [] [E] w := hH
    replace hi : i ≤ s.length := hi
    replace hi4 : i % 4 = 0 := hi4
    replace hol : o.length ≤ i := hol
    replace hinv : (ul (s.drop i)).map (o ++ ·) = ul s := hinv
    replace hO : OwnT cByte 5 (.slice A1 o.length c1) o E := hO
    have h4 : s.length % 4 = 0 := by omega
    refine cxSeq ?_
    refine cxSeq ?_
    refine cxReg ?_
    refine pxV (v := (.int .i64 (((i) : Nat) : Int))) (fun _ _ hF => opMove rfl (hF.ev 0 rfl)) rfl (fun _ _ => rfl) (kA rfl) (by decide) ?_
    refine pxV (v := (.string (strL s))) (fun _ _ hF => opMove rfl (hF.ev 3 rfl)) rfl (fun _ _ => rfl) (kA rfl) (by decide) ?_
    refine pxV (v := (.int .i64 (((s.length) : Nat) : Int))) (fun _ _ hF => opLenL (l := s) rfl (by kernel_rfl) (hF.ev 0 rfl)) rfl (fun _ _ => rfl) (kM [false, true, true, true, true] rfl rfl) (by decide) ?_
    refine pxV (v := (.bool (decide (i < s.length)))) (fun _ _ hF => opLss rfl (hF.ev 1 rfl) (hF.ev 0 rfl) (dc (by omega))) rfl (fun _ _ => rfl) (kM [false, false, true, true, true] rfl rfl) (by decide) ?_
    refine pxEnd ?_
    refine qxThen ?_
    refine cxP 0 rfl rfl (fun hc2 => ?_) (fun hc2 => ?_)
    · refine cxSkip ?_
      refine qxThen ?_
      refine cxSeq ?_
      refine cxBlock ?_
      refine cxSeq ?_
      refine cxReg ?_
      refine pxV (v := (.int .u32 0)) (fun _ _ hF => opAssign rfl rfl) rfl (fun _ _ => rfl) (kM [false, true, true, true] rfl rfl) (by decide) ?_
      refine pxEnd ?_
      refine qxThen ?_
      refine cxSeq ?_
      refine cxReg ?_
      refine pxV (v := (.int .i64 0)) (fun _ _ hF => opAssign rfl rfl) rfl (fun _ _ => rfl) (kA rfl) (by decide) ?_
      refine pxEnd ?_
      refine qxThen ?_
      refine cxSeq ?_
      refine cxSeq ?_
      refine cxReg ?_
      refine pxV (v := (.int .i64 0)) (fun _ _ hF => opMove rfl rfl) rfl (fun _ _ => rfl) (kA rfl) (by decide) ?_
      refine pxEnd ?_
      refine qxThen ?_
      refine cxBlock ?_
      refine cxLoop (σ := Nat × Nat × Nat) (fun x => [(22, (.int .i64 (((x.1) : Nat) : Int))), (7, (.int .i64 (((x.2.2) : Nat) : Int))), (6, (.int .u32 (((x.2.1) : Nat) : Int))), (5, (.int .i64 (((i) : Nat) : Int))), (4, (.slice A1 o.length c1)), (0, (.string (strL s)))]) (fun x w => HH w0 [] [E] w ∧ (x.1 ≤ 4) ∧ (x.2.1 < 2 ^ (6 * x.1)) ∧ (x.2.2 ≤ x.1) ∧ (us x.2.1 x.2.2 (((s.drop i).take 4).drop x.1) = us 0 0 ((s.drop i).take 4))) (fun x => 4 - x.1) (0, 0, 0) ⟨hH, Nat.zero_le _, (by decide), Nat.le_refl _, rfl⟩ (slots_at [0, 1, 2, 3, 4, 5] rfl) ?_
      clear hH
      rintro ⟨k, n, p⟩ w ⟨hH, hk, hn, hp, hus⟩
      change CX _ _ _ _ [(22, (.int .i64 (((k) : Nat) : Int))), (7, (.int .i64 (((p) : Nat) : Int))), (6, (.int .u32 (((n) : Nat) : Int))), (5, (.int .i64 (((i) : Nat) : Int))), (4, (.slice A1 o.length c1)), (0, (.string (strL s)))] _
      replace hH : HH w0 [] [E] w := hH
      replace hk : k ≤ 4 := hk
      replace hn : n < 2 ^ (6 * k) := hn
      replace hp : p ≤ k := hp
      replace hus : us n p (((s.drop i).take 4).drop k) = us 0 0 ((s.drop i).take 4) := hus
      refine cxSeq ?_
      refine cxReg ?_
      refine pxV (v := (.bool (decide (k < 4)))) (fun _ _ hF => opLss rfl (hF.ev 0 rfl) rfl (dc (by omega))) rfl (fun _ _ => rfl) (kA rfl) (by decide) ?_
      refine pxEnd ?_
      refine qxThen ?_
      refine cxSeq ?_
      refine cxP 0 rfl rfl (fun hc3 => ?_) (fun hc3 => ?_)
      · refine cxSkip ?_
        refine qxThen ?_
        refine cxSeq ?_
        refine cxBlock ?_
        refine cxSeq ?_
        obtain ⟨xs, hxs⟩ := get_at s (i + k) (by omega)
        have hbs := UInt8.toNat_lt xs
        have hpw := pw6 (n := n) (k := k) (v := 0) (by omega) (by decide) hn
        refine cxReg ?_
        refine pxV (v := (.int .i64 (((k) : Nat) : Int))) (fun _ _ hF => opMove rfl (hF.ev 1 rfl)) rfl (fun _ _ => rfl) (kM [false, true, true, true, true, true, true] rfl rfl) (by decide) ?_
        refine pxV (v := (.int .i64 (((k) : Nat) : Int))) (fun _ _ hF => opAssign rfl (hF.ev 0 rfl)) rfl (fun _ _ => rfl) (kM [false, true, true, true, true, true, true] rfl rfl) (by decide) ?_
        refine pxEnd ?_
        refine qxThen ?_
        refine cxSeq ?_
        refine cxReg ?_
        refine pxV (v := (.int .i64 (-1))) (fun _ _ hF => opAssign rfl rfl) rfl (fun _ _ => rfl) (kA rfl) (by decide) ?_
        refine pxEnd ?_
        refine qxThen ?_
        refine cxSeq ?_
        refine cxSeq ?_
        refine cxReg ?_
        refine pxV (v := (.int .i64 0)) (fun _ _ hF => opMove rfl rfl) rfl (fun _ _ => rfl) (kA rfl) (by decide) ?_
        refine pxEnd ?_
        refine qxThen ?_
        refine cxBlock ?_
        refine cxLoop (σ := Nat × Int) (fun x => [(25, (.int .i64 (((x.1) : Nat) : Int))), (22, (.int .i64 (((k) : Nat) : Int))), (9, (.int .i64 (x.2))), (8, (.int .i64 (((k) : Nat) : Int))), (7, (.int .i64 (((p) : Nat) : Int))), (6, (.int .u32 (((n) : Nat) : Int))), (5, (.int .i64 (((i) : Nat) : Int))), (4, (.slice A1 o.length c1)), (0, (.string (strL s)))]) (fun x w => HH w0 [] [E] w ∧ (x.1 ≤ 64) ∧ (x.2 = sgJ xs x.1)) (fun x => 64 - x.1) (0, -1) ⟨hH, Nat.zero_le _, (sgJ_zero xs).symm⟩ (slots_at [0, 3, 1, 2, 4, 5, 6, 7, 8] rfl) ?_
        clear hH
        rintro ⟨j, v⟩ w ⟨hH, hj, hv⟩
        change CX _ _ _ _ [(25, (.int .i64 (((j) : Nat) : Int))), (22, (.int .i64 (((k) : Nat) : Int))), (9, (.int .i64 (v))), (8, (.int .i64 (((k) : Nat) : Int))), (7, (.int .i64 (((p) : Nat) : Int))), (6, (.int .u32 (((n) : Nat) : Int))), (5, (.int .i64 (((i) : Nat) : Int))), (4, (.slice A1 o.length c1)), (0, (.string (strL s)))] _
        replace hH : HH w0 [] [E] w := hH
        replace hj : j ≤ 64 := hj
        replace hv : v = sgJ xs j := hv
        refine cxSeq ?_
        refine cxReg ?_
        refine pxV (v := (.bool (decide (j < 64)))) (fun _ _ hF => opLss rfl (hF.ev 0 rfl) rfl (dc (by omega))) rfl (fun _ _ => rfl) (kA rfl) (by decide) ?_
        refine pxEnd ?_
        refine qxThen ?_
        refine cxSeq ?_
        refine cxP 0 rfl rfl (fun hc4 => ?_) (fun hc4 => ?_)
        · refine cxSkip ?_
          refine qxThen ?_
          refine cxSeq ?_
          refine cxBlock ?_
          refine cxSeq ?_
          refine cxReg ?_
          refine pxV (v := (.int .i64 (((j) : Nat) : Int))) (fun _ _ hF => opMove rfl (hF.ev 1 rfl)) rfl (fun _ _ => rfl) (kM [false, true, true, true, true, true, true, true, true, true] rfl rfl) (by decide) ?_
          refine pxV (v := (.int .i64 (((j) : Nat) : Int))) (fun _ _ hF => opAssign rfl (hF.ev 0 rfl)) rfl (fun _ _ => rfl) (kM [false, true, true, true, true, true, true, true, true, true] rfl rfl) (by decide) ?_
          refine pxEnd ?_
          refine qxThen ?_
          refine cxSeq ?_
          refine cxRegX mixedOrders (by kernel_rfl) ?_
          replace hH := hH.drew
          refine rxV 0 rfl (by kernel_rfl) rfl (fun _ _ => rfl) (fun _ _ hF => opMove rfl (hF.ev 9 rfl)) (kA rfl) (by decide) (v := (.string (strL s))) ?_
          refine rxV 1 rfl (by kernel_rfl) rfl (fun _ _ => rfl) (fun _ _ hF => opMove rfl (hF.ev 8 rfl)) (kA rfl) (by decide) (v := (.int .i64 (((i) : Nat) : Int))) ?_
          refine rxV 2 rfl (by kernel_rfl) rfl (fun _ _ => rfl) (fun _ _ hF => opMove rfl (hF.ev 6 rfl)) (kA rfl) (by decide) (v := (.int .i64 (((k) : Nat) : Int))) ?_
          refine rxV 3 rfl (by kernel_rfl) rfl (fun _ _ => rfl) (fun _ _ hF => opAdd rfl (hF.ev 1 rfl) (hF.ev 0 rfl) (wI (by omega) (by omega) (by omega))) (kM [false, false, true, true, true, true, true, true, true, true, true, true, true] rfl rfl) (by decide) (v := (.int .i64 (((i + k) : Nat) : Int))) ?_
          refine rxV 4 rfl (by kernel_rfl) rfl (fun _ _ => rfl) (fun _ _ hF => opIdxL (l := s) (i := i + k) (c := xs) rfl (by kernel_rfl) (hF.ev 1 rfl) (hF.ev 0 rfl) rfl hxs) (kM [false, false, true, true, true, true, true, true, true, true, true, true] rfl rfl) (by decide) (v := (.int .u8 (((xs.toNat) : Nat) : Int))) ?_
          refine rxV 5 rfl (by kernel_rfl) rfl (fun _ _ => rfl) (fun _ _ hF => opMove rfl (hF.ev 1 rfl)) (kA rfl) (by decide) (v := (.int .i64 (((j) : Nat) : Int))) ?_
          refine rxV 6 rfl (by kernel_rfl) rfl (fun _ _ => rfl) (fun _ _ hF => opIdxL (l := sgnL) (i := j) (c := (sg j)) rfl (by kernel_rfl) rfl (hF.ev 0 rfl) rfl (sg_get (by omega))) (kM [false, true, true, true, true, true, true, true, true, true, true, true] rfl rfl) (by decide) (v := (.int .u8 ((((sg j).toNat) : Nat) : Int))) ?_
          refine rxV 7 rfl (by kernel_rfl) rfl (fun _ _ => rfl) (fun _ _ hF => opEqI rfl (hF.ev 1 rfl) (hF.ev 0 rfl) (dc (by omega))) (kM [false, false, true, true, true, true, true, true, true, true, true, true] rfl rfl) (by decide) (v := (.bool (decide (xs.toNat = (sg j).toNat)))) ?_
          refine rxEnd (by kernel_rfl) ?_
          refine qxThen ?_
          refine cxP 0 rfl rfl (fun hc5 => ?_) (fun hc5 => ?_)
          · refine cxReg ?_
            refine pxV (v := (.int .i64 (((j) : Nat) : Int))) (fun _ _ hF => opMove rfl (hF.ev 1 rfl)) rfl (fun _ _ => rfl) (kM [false, false, true, true, false, true, true, true, true, true, true] rfl rfl) (by decide) ?_
            refine pxV (v := (.int .i64 (((j) : Nat) : Int))) (fun _ _ hF => opAssign rfl (hF.ev 0 rfl)) rfl (fun _ _ => rfl) (kM [false, true, true, true, true, true, true, true, true] rfl rfl) (by decide) ?_
            refine pxEnd ?_
            refine qxInN ?_
            refine qxThen ?_
            refine cxReg ?_
            refine pxV (v := (.int .i64 (((j + 1) : Nat) : Int))) (fun _ _ hF => opAdd rfl (hF.ev 1 rfl) rfl (wI (by omega) (by omega) (by omega))) rfl (fun _ _ => rfl) (kM [true, false, true, true, true, true, true, true, true] rfl rfl) (by decide) ?_
            refine pxV (v := (.int .i64 (((j + 1) : Nat) : Int))) (fun _ _ hF => opMove rfl (hF.ev 0 rfl)) rfl (fun _ _ => rfl) (kM [false, true, true, true, true, true, true, true, true] rfl rfl) (by decide) ?_
            refine pxEnd ?_
            exact qxRound ((j + 1), j) ⟨hH, (show (j + 1) ≤ 64 from (by omega)), (show j = sgJ xs (j + 1) from (sgJ_hit (by omega) hc5).symm)⟩ (by show 64 - (j + 1) < 64 - j; omega) (slots_at [0, 2, 1, 3, 4, 5, 6, 7, 8] rfl)
          · refine cxSkip ?_
            refine qxInN ?_
            refine qxThen ?_
            refine cxReg ?_
            refine pxV (v := (.int .i64 (((j + 1) : Nat) : Int))) (fun _ _ hF => opAdd rfl (hF.ev 2 rfl) rfl (wI (by omega) (by omega) (by omega))) rfl (fun _ _ => rfl) (kM [false, false, false, true, true, true, true, true, true, true, true] rfl rfl) (by decide) ?_
            refine pxV (v := (.int .i64 (((j + 1) : Nat) : Int))) (fun _ _ hF => opMove rfl (hF.ev 0 rfl)) rfl (fun _ _ => rfl) (kM [false, true, true, true, true, true, true, true, true] rfl rfl) (by decide) ?_
            refine pxEnd ?_
            exact qxRound ((j + 1), v) ⟨hH, (show (j + 1) ≤ 64 from (by omega)), (show v = sgJ xs (j + 1) from (hv.trans (sgJ_miss (by omega) hc5).symm))⟩ (by show 64 - (j + 1) < 64 - j; omega) (slots_at [0, 1, 2, 3, 4, 5, 6, 7, 8] rfl)
        · refine cxExit ?_
          refine qxThenE ?_
          refine qxThenE ?_
          refine qxInE ?_
          refine qxThen ?_
          refine cxSeq ?_
          refine cxSeq ?_
          refine cxReg ?_
          refine pxV (v := (.string (strL s))) (fun _ _ hF => opMove rfl (hF.ev 9 rfl)) rfl (fun _ _ => rfl) (kM [false, false, true, true, true, true, true, true, true, true] rfl rfl) (by decide) ?_
          refine pxV (v := (.int .i64 (((i) : Nat) : Int))) (fun _ _ hF => opMove rfl (hF.ev 6 rfl)) rfl (fun _ _ => rfl) (kA rfl) (by decide) ?_
          refine pxV (v := (.int .i64 (((k) : Nat) : Int))) (fun _ _ hF => opMove rfl (hF.ev 4 rfl)) rfl (fun _ _ => rfl) (kM [true, true, true, true, false, true, true, true, true, true] rfl rfl) (by decide) ?_
          refine pxV (v := (.int .i64 (((i + k) : Nat) : Int))) (fun _ _ hF => opAdd rfl (hF.ev 1 rfl) (hF.ev 0 rfl) (wI (by omega) (by omega) (by omega))) rfl (fun _ _ => rfl) (kM [false, false, true, true, true, true, true, true, true, true] rfl rfl) (by decide) ?_
          refine pxV (v := (.int .u8 (((xs.toNat) : Nat) : Int))) (fun _ _ hF => opIdxL (l := s) (i := i + k) (c := xs) rfl (by kernel_rfl) (hF.ev 1 rfl) (hF.ev 0 rfl) rfl hxs) rfl (fun _ _ => rfl) (kM [false, false, true, true, true, true, true, true, true] rfl rfl) (by decide) ?_
          refine pxV (v := (.bool (decide (xs.toNat = 61)))) (fun _ _ hF => opEqI rfl (hF.ev 0 rfl) rfl (dc (by omega))) rfl (fun _ _ => rfl) (kM [false, true, true, true, true, true, true, true] rfl rfl) (by decide) ?_
          refine pxEnd ?_
          refine qxThen ?_
          refine cxP 0 rfl rfl (fun hc6 => ?_) (fun hc6 => ?_)
          · refine cxSeq ?_
            refine cxReg ?_
            refine pxV (v := (.int .i64 (((p) : Nat) : Int))) (fun _ _ hF => opMove rfl (hF.ev 3 rfl)) rfl (fun _ _ => rfl) (kM [false, true, false, false, true, true, true, true] rfl rfl) (by decide) ?_
            refine pxV (v := (.int .i64 (((p + 1) : Nat) : Int))) (fun _ _ hF => opAdd rfl (hF.ev 0 rfl) rfl (wI (by omega) (by omega) (by omega))) rfl (fun _ _ => rfl) (kM [false, true, true, true, true, true] rfl rfl) (by decide) ?_
            refine pxV (v := (.int .i64 (((p + 1) : Nat) : Int))) (fun _ _ hF => opAssign rfl (hF.ev 0 rfl)) rfl (fun _ _ => rfl) (kM [false, true, true, true, true, true] rfl rfl) (by decide) ?_
            refine pxEnd ?_
            refine qxThen ?_
            refine cxReg ?_
            refine pxV (v := (.int .i64 0)) (fun _ _ hF => opAssign rfl rfl) rfl (fun _ _ => rfl) (kA rfl) (by decide) ?_
            refine pxEnd ?_
            refine qxThen ?_
            refine cxSeq ?_
            refine cxSeq ?_
            · refine cxReg ?_
              refine pxV (v := (.int .i64 0)) (fun _ _ hF => opMove rfl (hF.ev 0 rfl)) rfl (fun _ _ => rfl) (kA rfl) (by decide) ?_
              refine pxV (v := (.bool false)) (fun _ _ hF => opLss rfl (hF.ev 0 rfl) rfl (by decide)) rfl (fun _ _ => rfl) (kM [false, true, true, true, true, true, true, true] rfl rfl) (by decide) ?_
              refine pxEnd ?_
              refine qxThen ?_
              refine cxF 0 rfl rfl ?_
              refine cxSkip ?_
              refine qxThen ?_
              refine cxReg ?_
              refine pxV (v := (.int .u32 (((n) : Nat) : Int))) (fun _ _ hF => opMove rfl (hF.ev 4 rfl)) rfl (fun _ _ => rfl) (kM [false, true, true, true, false, true, true, true] rfl rfl) (by decide) ?_
              refine pxV (v := (.int .u32 (((n * 64) : Nat) : Int))) (fun _ _ hF => opShlU (n := 6) (z := (n * 64)) rfl rfl (hF.ev 0 rfl) rfl (leb rfl) (by show (n * 2 ^ 6) % 4294967296 = _; omega)) rfl (fun _ _ => rfl) (kM [false, true, true, true, true, true, true] rfl rfl) (by decide) ?_
              refine pxV (v := (.int .i64 0)) (fun _ _ hF => opMove rfl (hF.ev 1 rfl)) rfl (fun _ _ => rfl) (kM [true, false, true, true, true, true, true] rfl rfl) (by decide) ?_
              refine pxV (v := (.int .u32 0)) (fun _ _ hF => opConvU (k' := .u32) (m := 0) rfl rfl (by kernel_rfl) (by kernel_rfl) (hF.ev 0 rfl) (Nat.mod_eq_of_lt (by show _ < 4294967296; omega))) rfl (fun _ _ => rfl) (kM [false, true, true, true, true, true, true] rfl rfl) (by decide) ?_
              refine pxV (v := (.int .u32 (((n * 64) : Nat) : Int))) (fun _ _ hF => opOrU (m := n * 64) (j := 0) (z := (n * 64)) rfl rfl (hF.ev 1 rfl) (hF.ev 0 rfl) (by show _ < 4294967296; omega) (by decide) (Nat.or_zero _)) rfl (fun _ _ => rfl) (kM [false, false, true, true, true, true, true] rfl rfl) (by decide) ?_
              refine pxV (v := (.int .u32 (((n * 64) : Nat) : Int))) (fun _ _ hF => opAssign rfl (hF.ev 0 rfl)) rfl (fun _ _ => rfl) (kM [false, true, true, true, true, true] rfl rfl) (by decide) ?_
              refine pxEnd ?_
              refine qxInN ?_
              refine qxThen ?_
              refine cxReg ?_
              refine pxV (v := (.int .i64 (((k + 1) : Nat) : Int))) (fun _ _ hF => opAdd rfl (hF.ev 2 rfl) rfl (wI (by omega) (by omega) (by omega))) rfl (fun _ _ => rfl) (kM [true, true, false, true, true, true] rfl rfl) (by decide) ?_
              refine pxV (v := (.int .i64 (((k + 1) : Nat) : Int))) (fun _ _ hF => opMove rfl (hF.ev 0 rfl)) rfl (fun _ _ => rfl) (kM [false, true, true, true, true, true] rfl rfl) (by decide) ?_
              refine pxEnd ?_
              exact qxRound ((k + 1), n * 64, p + 1) ⟨hH, (show (k + 1) ≤ 4 from (by omega)), (show (n * 64) < 2 ^ (6 * (k + 1)) from (pw6 (v := 0) (by omega) (by decide) hn).2), (show (p + 1) ≤ (k + 1) from (by omega)), (show us (n * 64) (p + 1) (((s.drop i).take 4).drop (k + 1)) = us 0 0 ((s.drop i).take 4) from (by rw [four_drop (by omega) hxs] at hus; exact us_go_fill (by omega) hus))⟩ (by show 4 - (k + 1) < 4 - k; omega) (slots_at [0, 2, 1, 3, 4, 5] rfl)
          · refine cxSeq ?_
            refine cxReg ?_
            refine pxV (v := (.int .i64 (((p) : Nat) : Int))) (fun _ _ hF => opMove rfl (hF.ev 3 rfl)) rfl (fun _ _ => rfl) (kM [false, true, true, true, true, true, true, true] rfl rfl) (by decide) ?_
            refine pxV (v := (.bool (decide (p > 0)))) (fun _ _ hF => opGtr rfl (hF.ev 0 rfl) rfl (dc (by omega))) rfl (fun _ _ => rfl) (kM [false, true, true, true, true, true, true, true] rfl rfl) (by decide) ?_
            refine pxEnd ?_
            refine qxThen ?_
            refine cxP 0 rfl rfl (fun hc7 => ?_) (fun hc7 => ?_)
            · refine cxSeq ?_
              refine cxReg ?_
              refine pxV (v := (.slice none 0 0)) (fun _ _ hF => opAssign rfl rfl) rfl (fun _ _ => rfl) (kM [false, false, false, false, false, false, false, false] rfl rfl) (by decide) ?_
              refine pxV (v := (.int .i64 2)) (fun _ _ hF => opAssign rfl rfl) rfl (fun _ _ => rfl) (kA rfl) (by decide) ?_
              refine pxEnd ?_
              refine qxThen ?_
              refine cxRet ?_
              refine qxThenR ?_
              refine qxInR ?_
              refine qxThenR ?_
              refine qxThenR ?_
              refine qxInR ?_
              refine qxThenR ?_
              refine qxInR ?_
              refine qxThenR ?_
              refine qxThenR ?_
              refine qxInR ?_
              refine qxThenR ?_
              refine qxRet2 1 0 rfl rfl rfl ?_
              exact ⟨_, _, rfl, .inl ⟨unR_none (map_none hinv (ul_none (by omega) (by rw [four_drop (by omega) hxs] at hus; exact us_no_more hc6 hc7 hus))), rfl, rfl⟩, hH.out [false]⟩
            · refine cxSkip ?_
              refine qxThen ?_
              refine cxSeq ?_
              refine cxSeq ?_
              have ev : v = if sgI xs < 64 then ((sgI xs : Nat) : Int) else -1 := by have e : j = 64 := (by omega); subst e; exact hv
              rcases Nat.lt_or_ge (sgI xs) 64 with hsg | hsg
              · rw [if_pos hsg] at ev
                subst ev
                refine cxReg ?_
                refine pxV (v := (.int .i64 (((sgI xs) : Nat) : Int))) (fun _ _ hF => opMove rfl (hF.ev 2 rfl)) rfl (fun _ _ => rfl) (kM [false, true, true, true, true, true, true, true] rfl rfl) (by decide) ?_
                refine pxV (v := (.bool false)) (fun _ _ hF => opLss rfl (hF.ev 0 rfl) rfl (decide_eq_false (by omega))) rfl (fun _ _ => rfl) (kM [false, true, true, true, true, true, true, true] rfl rfl) (by decide) ?_
                refine pxEnd ?_
                refine qxThen ?_
                refine cxF 0 rfl rfl ?_
                refine cxSkip ?_
                refine qxThen ?_
                refine cxReg ?_
                refine pxV (v := (.int .u32 (((n) : Nat) : Int))) (fun _ _ hF => opMove rfl (hF.ev 4 rfl)) rfl (fun _ _ => rfl) (kM [false, true, true, true, false, true, true, true] rfl rfl) (by decide) ?_
                refine pxV (v := (.int .u32 (((n * 64) : Nat) : Int))) (fun _ _ hF => opShlU (n := 6) (z := (n * 64)) rfl rfl (hF.ev 0 rfl) rfl (leb rfl) (by show (n * 2 ^ 6) % 4294967296 = _; omega)) rfl (fun _ _ => rfl) (kM [false, true, true, true, true, true, true] rfl rfl) (by decide) ?_
                refine pxV (v := (.int .i64 (((sgI xs) : Nat) : Int))) (fun _ _ hF => opMove rfl (hF.ev 2 rfl)) rfl (fun _ _ => rfl) (kM [true, true, false, true, true, true, true] rfl rfl) (by decide) ?_
                refine pxV (v := (.int .u32 (((sgI xs) : Nat) : Int))) (fun _ _ hF => opConvU (k' := .u32) (m := sgI xs) rfl rfl (by kernel_rfl) (by kernel_rfl) (hF.ev 0 rfl) (Nat.mod_eq_of_lt (by show _ < 4294967296; omega))) rfl (fun _ _ => rfl) (kM [false, true, true, true, true, true, true] rfl rfl) (by decide) ?_
                refine pxV (v := (.int .u32 (((n * 64 + sgI xs) : Nat) : Int))) (fun _ _ hF => opOrU (m := n * 64) (j := sgI xs) (z := (n * 64 + sgI xs)) rfl rfl (hF.ev 1 rfl) (hF.ev 0 rfl) (by show _ < 4294967296; omega) (by show _ < 4294967296; omega) (orN (k := 6) hsg)) rfl (fun _ _ => rfl) (kM [false, false, true, true, true, true, true] rfl rfl) (by decide) ?_
                refine pxV (v := (.int .u32 (((n * 64 + sgI xs) : Nat) : Int))) (fun _ _ hF => opAssign rfl (hF.ev 0 rfl)) rfl (fun _ _ => rfl) (kM [false, true, true, true, true, true] rfl rfl) (by decide) ?_
                refine pxEnd ?_
                refine qxInN ?_
                refine qxThen ?_
                refine cxReg ?_
                refine pxV (v := (.int .i64 (((k + 1) : Nat) : Int))) (fun _ _ hF => opAdd rfl (hF.ev 1 rfl) rfl (wI (by omega) (by omega) (by omega))) rfl (fun _ _ => rfl) (kM [true, false, true, true, true, true] rfl rfl) (by decide) ?_
                refine pxV (v := (.int .i64 (((k + 1) : Nat) : Int))) (fun _ _ hF => opMove rfl (hF.ev 0 rfl)) rfl (fun _ _ => rfl) (kM [false, true, true, true, true, true] rfl rfl) (by decide) ?_
                refine pxEnd ?_
                exact qxRound ((k + 1), n * 64 + sgI xs, p) ⟨hH, (show (k + 1) ≤ 4 from (by omega)), (show (n * 64 + sgI xs) < 2 ^ (6 * (k + 1)) from (pw6 (by omega) hsg hn).2), (show p ≤ (k + 1) from (by omega)), (show us (n * 64 + sgI xs) p (((s.drop i).take 4).drop (k + 1)) = us 0 0 ((s.drop i).take 4) from (by rw [four_drop (by omega) hxs] at hus; exact us_go hc6 hc7 hsg hus))⟩ (by show 4 - (k + 1) < 4 - k; omega) (slots_at [0, 2, 1, 3, 4, 5] rfl)
              · rw [if_neg (by omega)] at ev
                subst ev
                refine cxReg ?_
                refine pxV (v := (.int .i64 (-1))) (fun _ _ hF => opMove rfl (hF.ev 2 rfl)) rfl (fun _ _ => rfl) (kM [false, true, true, true, true, true, true, true] rfl rfl) (by decide) ?_
                refine pxV (v := (.bool true)) (fun _ _ hF => opLss rfl (hF.ev 0 rfl) rfl (decide_eq_true (by decide))) rfl (fun _ _ => rfl) (kM [false, true, true, true, true, true, true, true] rfl rfl) (by decide) ?_
                refine pxEnd ?_
                refine qxThen ?_
                refine cxT 0 rfl rfl ?_
                refine cxSeq ?_
                refine cxReg ?_
                refine pxV (v := (.slice none 0 0)) (fun _ _ hF => opAssign rfl rfl) rfl (fun _ _ => rfl) (kM [false, false, false, false, false, false, false, false] rfl rfl) (by decide) ?_
                refine pxV (v := (.int .i64 2)) (fun _ _ hF => opAssign rfl rfl) rfl (fun _ _ => rfl) (kA rfl) (by decide) ?_
                refine pxEnd ?_
                refine qxThen ?_
                refine cxRet ?_
                refine qxThenR ?_
                refine qxInR ?_
                refine qxThenR ?_
                refine qxThenR ?_
                refine qxInR ?_
                refine qxThenR ?_
                refine qxInR ?_
                refine qxThenR ?_
                refine qxThenR ?_
                refine qxInR ?_
                refine qxThenR ?_
                refine qxRet2 1 0 rfl rfl rfl ?_
                exact ⟨_, _, rfl, .inl ⟨unR_none (map_none hinv (ul_none (by omega) (by rw [four_drop (by omega) hxs] at hus; exact us_no_sign hc6 hsg hus))), rfl, rfl⟩, hH.out [false]⟩
      · refine cxExit ?_
        refine qxThenE ?_
        refine qxThenE ?_
        refine qxInE ?_
        refine qxThen ?_
        refine cxSeq ?_
        refine cxSeq ?_
        have hk4 : k = 4 := by omega
        have hus4 : us n p (((s.drop i).take 4).drop 4) = us 0 0 ((s.drop i).take 4) := by rw [hk4] at hus; exact hus
        have hn24 : n < 16777216 := by rw [hk4] at hn; exact hn
        refine cxReg ?_
        refine pxV (v := (.int .i64 (((p) : Nat) : Int))) (fun _ _ hF => opMove rfl (hF.ev 2 rfl)) rfl (fun _ _ => rfl) (kM [false, false, true, true, true, true, true] rfl rfl) (by decide) ?_
        refine pxV (v := (.bool (decide (p > 2)))) (fun _ _ hF => opGtr rfl (hF.ev 0 rfl) rfl (dc (by omega))) rfl (fun _ _ => rfl) (kM [false, true, true, true, true, true] rfl rfl) (by decide) ?_
        refine pxV (v := (.bool (decide (p > 2)))) (fun _ _ hF => opMove rfl (hF.ev 0 rfl)) rfl (fun _ _ => rfl) (kM [false, true, true, true, true, true] rfl rfl) (by decide) ?_
        refine pxSplitP 0 rfl (l1 := [(58, (.bool true)), (7, (.int .i64 (((p) : Nat) : Int))), (6, (.int .u32 (((n) : Nat) : Int))), (5, (.int .i64 (((i) : Nat) : Int))), (4, (.slice A1 o.length c1)), (0, (.string (strL s)))]) (l2 := [(58, (.bool false)), (7, (.int .i64 (((p) : Nat) : Int))), (6, (.int .u32 (((n) : Nat) : Int))), (5, (.int .i64 (((i) : Nat) : Int))), (4, (.slice A1 o.length c1)), (0, (.string (strL s)))]) rfl rfl (fun hg8 => ?_) (fun hg8 => ?_)
        · refine pxU rfl (gOff 0 rfl rfl rfl (by decide)) (kA rfl) (by decide) ?_
          refine pxU rfl (gOff 0 rfl rfl rfl (by decide)) (kA rfl) (by decide) ?_
          refine pxUK rfl (gOff 0 rfl rfl rfl (by decide)) (kA rfl) (by decide) ?_
          refine pxU rfl (gOffU 0 rfl rfl rfl) (kA rfl) (by decide) ?_
          refine pxU rfl (gOffU 0 rfl rfl rfl) (kA rfl) (by decide) ?_
          refine pxU rfl (gOffU 0 rfl rfl rfl) (kA rfl) (by decide) ?_
          refine pxU rfl (gOffU 0 rfl rfl rfl) (kA rfl) (by decide) ?_
          refine pxU rfl (gOffU 0 rfl rfl rfl) (kA rfl) (by decide) ?_
          refine pxU rfl (gOff 1 rfl rfl rfl (by decide)) (kM [false, true, true, true, true, true, true] rfl rfl) (by decide) ?_
          refine pxV (v := (.bool true)) (fun _ _ hF => opPickT rfl (hF.ev 0 rfl) rfl) rfl (fun _ _ => rfl) (kM [false, true, true, true, true, true] rfl rfl) (by decide) ?_
          refine pxEnd ?_
          refine qxThen ?_
          refine cxT 0 rfl rfl ?_
          refine cxSeq ?_
          refine cxReg ?_
          refine pxV (v := (.slice none 0 0)) (fun _ _ hF => opAssign rfl rfl) rfl (fun _ _ => rfl) (kM [false, false, false, false, false, false] rfl rfl) (by decide) ?_
          refine pxV (v := (.int .i64 2)) (fun _ _ hF => opAssign rfl rfl) rfl (fun _ _ => rfl) (kA rfl) (by decide) ?_
          refine pxEnd ?_
          refine qxThen ?_
          refine cxRet ?_
          refine qxThenR ?_
          refine qxInR ?_
          refine qxThenR ?_
          refine qxThenR ?_
          refine qxInR ?_
          refine qxThenR ?_
          refine qxRet2 1 0 rfl rfl rfl ?_
          exact ⟨_, _, rfl, .inl ⟨unR_none (ul_bad (by omega) (us_end hus4) (by rw [drop_ne]; omega) hinv), rfl, rfl⟩, hH.out [false]⟩
        · refine pxV (v := (.int .i64 (((p) : Nat) : Int))) (fun _ _ hF => opMove rfl (hF.ev 1 rfl)) rfl (gOn 0 rfl rfl rfl (by decide)) (kA rfl) (by decide) ?_
          refine pxV (v := (.bool (decide (p > 0)))) (fun _ _ hF => opGtr rfl (hF.ev 0 rfl) rfl (dc (by omega))) rfl (gOn 1 rfl rfl rfl (by decide)) (kM [false, true, true, true, true, true, true] rfl rfl) (by decide) ?_
          refine pxV (v := (.bool (decide (p > 0)))) (fun _ _ hF => opMove rfl (hF.ev 0 rfl)) rfl (gOn 1 rfl rfl rfl (by decide)) (kM [false, true, true, true, true, true, true] rfl rfl) (by decide) ?_
          refine pxSplitP 0 rfl (l1 := [(61, (.bool true)), (58, (.bool false)), (7, (.int .i64 (((p) : Nat) : Int))), (6, (.int .u32 (((n) : Nat) : Int))), (5, (.int .i64 (((i) : Nat) : Int))), (4, (.slice A1 o.length c1)), (0, (.string (strL s)))]) (l2 := [(61, (.bool false)), (58, (.bool false)), (7, (.int .i64 (((p) : Nat) : Int))), (6, (.int .u32 (((n) : Nat) : Int))), (5, (.int .i64 (((i) : Nat) : Int))), (4, (.slice A1 o.length c1)), (0, (.string (strL s)))]) rfl rfl (fun hg9 => ?_) (fun hg9 => ?_)
          · refine pxV (v := (.int .i64 (((i) : Nat) : Int))) (fun _ _ hF => opMove rfl (hF.ev 4 rfl)) rfl (gOn 0 rfl rfl rfl (by decide)) (kA rfl) (by decide) ?_
            refine pxV (v := (.int .i64 (((i + 4) : Nat) : Int))) (fun _ _ hF => opAdd rfl (hF.ev 0 rfl) rfl (wI (by omega) (by omega) (by omega))) rfl (gOn 1 rfl rfl rfl (by decide)) (kM [false, true, true, true, true, true, true, true] rfl rfl) (by decide) ?_
            refine pxV (v := (.string (strL s))) (fun _ _ hF => opMove rfl (hF.ev 7 rfl)) rfl (gOn 1 rfl rfl rfl (by decide)) (kA rfl) (by decide) ?_
            refine pxV (v := (.int .i64 (((s.length) : Nat) : Int))) (fun _ _ hF => opLenL (l := s) rfl (by kernel_rfl) (hF.ev 0 rfl)) rfl (gOn 2 rfl rfl rfl (by decide)) (kM [false, true, true, true, true, true, true, true, true] rfl rfl) (by decide) ?_
            refine pxV (v := (.bool (decide (i + 4 < s.length)))) (fun _ _ hF => opLss rfl (hF.ev 1 rfl) (hF.ev 0 rfl) (dc (by omega))) rfl (gOn 2 rfl rfl rfl (by decide)) (kM [false, false, true, true, true, true, true, true, true] rfl rfl) (by decide) ?_
            refine pxV (v := (.bool (decide (i + 4 < s.length)))) (fun _ _ hF => opPickT rfl (hF.ev 1 rfl) (hF.ev 0 rfl)) rfl (gOn 2 rfl rfl rfl (by decide)) (kM [false, false, true, true, true, true, true, true] rfl rfl) (by decide) ?_
            refine pxV (v := (.bool (decide (i + 4 < s.length)))) (fun _ _ hF => opPickF rfl (hF.ev 1 rfl) (hF.ev 0 rfl)) rfl (fun _ _ => rfl) (kM [false, false, true, true, true, true, true] rfl rfl) (by decide) ?_
            refine pxEnd ?_
            refine qxThen ?_
            refine cxP 0 rfl rfl (fun hc10 => ?_) (fun hc10 => ?_)
            · refine cxSeq ?_
              refine cxReg ?_
              refine pxV (v := (.slice none 0 0)) (fun _ _ hF => opAssign rfl rfl) rfl (fun _ _ => rfl) (kM [false, false, false, false, false, false] rfl rfl) (by decide) ?_
              refine pxV (v := (.int .i64 2)) (fun _ _ hF => opAssign rfl rfl) rfl (fun _ _ => rfl) (kA rfl) (by decide) ?_
              refine pxEnd ?_
              refine qxThen ?_
              refine cxRet ?_
              refine qxThenR ?_
              refine qxInR ?_
              refine qxThenR ?_
              refine qxThenR ?_
              refine qxInR ?_
              refine qxThenR ?_
              refine qxRet2 1 0 rfl rfl rfl ?_
              exact ⟨_, _, rfl, .inl ⟨unR_none (ul_bad (by omega) (us_end hus4) (by rw [drop_ne]; omega) hinv), rfl, rfl⟩, hH.out [false]⟩
            · refine cxSkip ?_
              refine qxThen ?_
              refine cxSeq ?_
              have hpok : ¬ (2 < p ∨ 0 < p ∧ s.drop (i + 4) ≠ []) := by rw [drop_ne]; omega
              refine cxReg ?_
              refine pxV (v := (.int .u32 (((n) : Nat) : Int))) (fun _ _ hF => opMove rfl (hF.ev 2 rfl)) rfl (fun _ _ => rfl) (kM [false, true, true, true, true, true] rfl rfl) (by decide) ?_
              refine pxV (v := (.int .u32 (((n / 65536) : Nat) : Int))) (fun _ _ hF => opShrU (n := 16) (z := (n / 65536)) rfl (hF.ev 0 rfl) rfl (leb rfl) (rfl)) rfl (fun _ _ => rfl) (kM [false, true, true, true, true, true] rfl rfl) (by decide) ?_
              refine pxV (v := (.int .u8 ((((UInt8.ofNat (n / 65536)).toNat) : Nat) : Int))) (fun _ _ hF => opConvU (k' := .u8) rfl rfl (by kernel_rfl) (by kernel_rfl) (hF.ev 0 rfl) (UInt8.toNat_ofNat' (n := n / 65536)).symm) rfl (fun _ _ => rfl) (kM [false, true, true, true, true, true] rfl rfl) (by decide) ?_
              refine pxV (v := (.int .u32 (((n) : Nat) : Int))) (fun _ _ hF => opMove rfl (hF.ev 2 rfl)) rfl (fun _ _ => rfl) (kA rfl) (by decide) ?_
              refine pxV (v := (.int .u32 (((n / 256) : Nat) : Int))) (fun _ _ hF => opShrU (n := 8) (z := (n / 256)) rfl (hF.ev 0 rfl) rfl (leb rfl) (rfl)) rfl (fun _ _ => rfl) (kM [false, true, true, true, true, true, true] rfl rfl) (by decide) ?_
              refine pxV (v := (.int .u8 ((((UInt8.ofNat (n / 256)).toNat) : Nat) : Int))) (fun _ _ hF => opConvU (k' := .u8) rfl rfl (by kernel_rfl) (by kernel_rfl) (hF.ev 0 rfl) (UInt8.toNat_ofNat' (n := n / 256)).symm) rfl (fun _ _ => rfl) (kM [false, true, true, true, true, true, true] rfl rfl) (by decide) ?_
              refine pxV (v := (.int .u32 (((n) : Nat) : Int))) (fun _ _ hF => opMove rfl (hF.ev 3 rfl)) rfl (fun _ _ => rfl) (kM [true, true, true, false, true, true, true] rfl rfl) (by decide) ?_
              refine pxV (v := (.int .u8 ((((UInt8.ofNat n).toNat) : Nat) : Int))) (fun _ _ hF => opConvU (k' := .u8) rfl rfl (by kernel_rfl) (by kernel_rfl) (hF.ev 0 rfl) (UInt8.toNat_ofNat' (n := n)).symm) rfl (fun _ _ => rfl) (kM [false, true, true, true, true, true, true] rfl rfl) (by decide) ?_
              refine pxM hH (fun _ hF => smLits (C := cByte) (e := 5) (z := (.int .u8 0)) (by_ := 1) [(UInt8.ofNat (n / 65536)), (UInt8.ofNat (n / 256)), (UInt8.ofNat n)] rfl (by kernel_rfl) (by kernel_rfl) (EvP.cons (v := cByte.val (UInt8.ofNat (n / 65536))) (hF.ev 2 rfl) (EvP.cons (v := cByte.val (UInt8.ofNat (n / 256))) (hF.ev 1 rfl) (EvP.cons (v := cByte.val (UInt8.ofNat n)) (hF.ev 0 rfl) EvP.nil))) rfl (ltb rfl) (leb rfl) rfl) trivial rfl (fun _ _ => rfl) (kM [false, false, false, true, true, true, true] rfl rfl) (by decide) ?_
              clear hH
              rintro _ _ w ⟨g11, rfl, rfl⟩ hH
              replace hH : HH w0 [] [E, [bl g11 5 (flat cByte [(UInt8.ofNat (n / 65536)), (UInt8.ofNat (n / 256)), (UInt8.ofNat n)]).toArray]] w := hH
              refine pxV (v := (.slice (some ⟨g11, 0, none⟩) 3 3)) (fun _ _ hF => opAssign rfl (hF.ev 0 rfl)) rfl (fun _ _ => rfl) (kM [false, true, true, true, true] rfl rfl) (by decide) ?_
              refine pxEnd ?_
              refine qxThen ?_
              refine cxReg ?_
              refine pxV (v := (.slice A1 o.length c1)) (fun _ _ hF => opMove rfl (hF.ev 3 rfl)) rfl (fun _ _ => rfl) (kM [true, true, true, false, true] rfl rfl) (by decide) ?_
              refine pxV (v := (.slice (some ⟨g11, 0, none⟩) 3 3)) (fun _ _ hF => opMove rfl (hF.ev 1 rfl)) rfl (fun _ _ => rfl) (kM [true, false, true, true, true] rfl rfl) (by decide) ?_
              refine pxV (v := (.int .i64 (((p) : Nat) : Int))) (fun _ _ hF => opMove rfl (hF.ev 2 rfl)) rfl (fun _ _ => rfl) (kM [true, true, false, true, true] rfl rfl) (by decide) ?_
              refine pxV (v := (.int .i64 ((((3 - p)) : Nat) : Int))) (fun _ _ hF => opSub rfl rfl (hF.ev 0 rfl) (wI (by omega) (by omega) (by omega))) rfl (fun _ _ => rfl) (kM [false, true, true, true, true] rfl rfl) (by decide) ?_
              refine pxV (v := (.slice (some ⟨g11, 0, none⟩) (3 - p) 3)) (fun _ _ hF => opCutH (h := (3 - p)) (e := 5) (sz := 1) rfl (by kernel_rfl) (by kernel_rfl) (hF.ev 1 rfl) (hF.ev 0 rfl) rfl (by omega)) rfl (fun _ _ => rfl) (kM [false, false, true, true, true] rfl rfl) (by decide) ?_
              refine pxE 0 hH rfl (fun _ hF => smAppT (C := cByte) (l := o) (m := ([(UInt8.ofNat (n / 65536)), (UInt8.ofNat (n / 256)), (UInt8.ofNat n)].take (3 - p))) (e := 5) (z := (.int .u8 0)) (by_ := 1) rfl (by kernel_rfl) (by kernel_rfl) rfl (ltb rfl) (hF.ev 1 rfl) hO (hF.ev 0 rfl) (by rw [List.length_take]; exact Nat.min_eq_left (by show 3 - p ≤ 3; omega)) (fun h => by cases h) (by unfold maxLen; omega) (by omega)) (((Bk.lits (C := cByte) [(UInt8.ofNat (n / 65536)), (UInt8.ofNat (n / 256)), (UInt8.ofNat n)] (by show 3 ≤ _; unfold maxLen; decide)).vu (n := 3) (hH.blk 1 rfl) rfl).head (m := (3 - p)) (by omega)) rfl (fun _ _ => rfl) (kM [false, false, true, true] rfl rfl) (by decide) ?_
              clear hH
              rintro v14 E15 w ⟨hO16, _⟩ hH
              replace hH : HH w0 [] [E15, [bl g11 5 (flat cByte [(UInt8.ofNat (n / 65536)), (UInt8.ofNat (n / 256)), (UInt8.ofNat n)]).toArray]] w := hH
              replace hO16 : OwnT cByte 5 v14 (o ++ ([(UInt8.ofNat (n / 65536)), (UInt8.ofNat (n / 256)), (UInt8.ofNat n)].take (3 - p))) E15 := hO16
              obtain ⟨A12, c13, rfl⟩ := hO16.slice
              refine pxV (v := (.slice A12 ((o ++ ([(UInt8.ofNat (n / 65536)), (UInt8.ofNat (n / 256)), (UInt8.ofNat n)].take (3 - p))).length) c13)) (fun _ _ hF => opAssign rfl (hF.ev 0 rfl)) rfl (fun _ _ => rfl) (kM [false, true, true] rfl rfl) (by decide) ?_
              refine pxEnd ?_
              refine qxInN ?_
              refine qxThen ?_
              refine cxReg ?_
              refine pxV (v := (.int .i64 (((i) : Nat) : Int))) (fun _ _ hF => opMove rfl (hF.ev 1 rfl)) rfl (fun _ _ => rfl) (kM [true, false, true] rfl rfl) (by decide) ?_
              refine pxV (v := (.int .i64 (((i + 4) : Nat) : Int))) (fun _ _ hF => opAdd rfl (hF.ev 0 rfl) rfl (wI (by omega) (by omega) (by omega))) rfl (fun _ _ => rfl) (kM [false, true, true] rfl rfl) (by decide) ?_
              refine pxV (v := (.int .i64 (((i + 4) : Nat) : Int))) (fun _ _ hF => opAssign rfl (hF.ev 0 rfl)) rfl (fun _ _ => rfl) (kM [false, true, true] rfl rfl) (by decide) ?_
              refine pxEnd ?_
              replace hH : HH w0 [] [E15] w := hH.only [true, false]
              exact qxRound ((i + 4), (o ++ ([(UInt8.ofNat (n / 65536)), (UInt8.ofNat (n / 256)), (UInt8.ofNat n)].take (3 - p))), A12, c13, E15) ⟨hH, (show (i + 4) ≤ s.length from (by omega)), (show (i + 4) % 4 = 0 from (by omega)), (show (o ++ ([(UInt8.ofNat (n / 65536)), (UInt8.ofNat (n / 256)), (UInt8.ofNat n)].take (3 - p))).length ≤ (i + 4) from (by rw [List.length_append, List.length_take]; omega)), (show (ul (s.drop (i + 4))).map ((o ++ ([(UInt8.ofNat (n / 65536)), (UInt8.ofNat (n / 256)), (UInt8.ofNat n)].take (3 - p))) ++ ·) = ul s from (ul_go (by omega) (us_end hus4) hpok hinv)), hO16⟩ (by show s.length - (i + 4) < s.length - i; omega) (slots_at [0, 1, 2] rfl)
          · refine pxU rfl (gOff 0 rfl rfl rfl (by decide)) (kA rfl) (by decide) ?_
            refine pxU rfl (gOff 0 rfl rfl rfl (by decide)) (kA rfl) (by decide) ?_
            refine pxU rfl (gOff 0 rfl rfl rfl (by decide)) (kA rfl) (by decide) ?_
            refine pxU rfl (gOff 0 rfl rfl rfl (by decide)) (kA rfl) (by decide) ?_
            refine pxU rfl (gOff 0 rfl rfl rfl (by decide)) (kA rfl) (by decide) ?_
            refine pxV (v := (.bool false)) (fun _ _ hF => opPickF rfl (hF.ev 0 rfl) rfl) rfl (gOn 1 rfl rfl rfl (by decide)) (kM [false, true, true, true, true, true, true] rfl rfl) (by decide) ?_
            refine pxV (v := (.bool false)) (fun _ _ hF => opPickF rfl (hF.ev 1 rfl) (hF.ev 0 rfl)) rfl (fun _ _ => rfl) (kM [false, false, true, true, true, true, true] rfl rfl) (by decide) ?_
            refine pxEnd ?_
            refine qxThen ?_
            refine cxF 0 rfl rfl ?_
            refine cxSkip ?_
            refine qxThen ?_
            refine cxSeq ?_
            have hpok : ¬ (2 < p ∨ 0 < p ∧ s.drop (i + 4) ≠ []) := by rw [drop_ne]; omega
            refine cxReg ?_
            refine pxV (v := (.int .u32 (((n) : Nat) : Int))) (fun _ _ hF => opMove rfl (hF.ev 2 rfl)) rfl (fun _ _ => rfl) (kM [false, true, true, true, true, true] rfl rfl) (by decide) ?_
            refine pxV (v := (.int .u32 (((n / 65536) : Nat) : Int))) (fun _ _ hF => opShrU (n := 16) (z := (n / 65536)) rfl (hF.ev 0 rfl) rfl (leb rfl) (rfl)) rfl (fun _ _ => rfl) (kM [false, true, true, true, true, true] rfl rfl) (by decide) ?_
            refine pxV (v := (.int .u8 ((((UInt8.ofNat (n / 65536)).toNat) : Nat) : Int))) (fun _ _ hF => opConvU (k' := .u8) rfl rfl (by kernel_rfl) (by kernel_rfl) (hF.ev 0 rfl) (UInt8.toNat_ofNat' (n := n / 65536)).symm) rfl (fun _ _ => rfl) (kM [false, true, true, true, true, true] rfl rfl) (by decide) ?_
            refine pxV (v := (.int .u32 (((n) : Nat) : Int))) (fun _ _ hF => opMove rfl (hF.ev 2 rfl)) rfl (fun _ _ => rfl) (kA rfl) (by decide) ?_
            refine pxV (v := (.int .u32 (((n / 256) : Nat) : Int))) (fun _ _ hF => opShrU (n := 8) (z := (n / 256)) rfl (hF.ev 0 rfl) rfl (leb rfl) (rfl)) rfl (fun _ _ => rfl) (kM [false, true, true, true, true, true, true] rfl rfl) (by decide) ?_
            refine pxV (v := (.int .u8 ((((UInt8.ofNat (n / 256)).toNat) : Nat) : Int))) (fun _ _ hF => opConvU (k' := .u8) rfl rfl (by kernel_rfl) (by kernel_rfl) (hF.ev 0 rfl) (UInt8.toNat_ofNat' (n := n / 256)).symm) rfl (fun _ _ => rfl) (kM [false, true, true, true, true, true, true] rfl rfl) (by decide) ?_
            refine pxV (v := (.int .u32 (((n) : Nat) : Int))) (fun _ _ hF => opMove rfl (hF.ev 3 rfl)) rfl (fun _ _ => rfl) (kM [true, true, true, false, true, true, true] rfl rfl) (by decide) ?_
            refine pxV (v := (.int .u8 ((((UInt8.ofNat n).toNat) : Nat) : Int))) (fun _ _ hF => opConvU (k' := .u8) rfl rfl (by kernel_rfl) (by kernel_rfl) (hF.ev 0 rfl) (UInt8.toNat_ofNat' (n := n)).symm) rfl (fun _ _ => rfl) (kM [false, true, true, true, true, true, true] rfl rfl) (by decide) ?_
            refine pxM hH (fun _ hF => smLits (C := cByte) (e := 5) (z := (.int .u8 0)) (by_ := 1) [(UInt8.ofNat (n / 65536)), (UInt8.ofNat (n / 256)), (UInt8.ofNat n)] rfl (by kernel_rfl) (by kernel_rfl) (EvP.cons (v := cByte.val (UInt8.ofNat (n / 65536))) (hF.ev 2 rfl) (EvP.cons (v := cByte.val (UInt8.ofNat (n / 256))) (hF.ev 1 rfl) (EvP.cons (v := cByte.val (UInt8.ofNat n)) (hF.ev 0 rfl) EvP.nil))) rfl (ltb rfl) (leb rfl) rfl) trivial rfl (fun _ _ => rfl) (kM [false, false, false, true, true, true, true] rfl rfl) (by decide) ?_
            clear hH
            rintro _ _ w ⟨g17, rfl, rfl⟩ hH
            replace hH : HH w0 [] [E, [bl g17 5 (flat cByte [(UInt8.ofNat (n / 65536)), (UInt8.ofNat (n / 256)), (UInt8.ofNat n)]).toArray]] w := hH
            refine pxV (v := (.slice (some ⟨g17, 0, none⟩) 3 3)) (fun _ _ hF => opAssign rfl (hF.ev 0 rfl)) rfl (fun _ _ => rfl) (kM [false, true, true, true, true] rfl rfl) (by decide) ?_
            refine pxEnd ?_
            refine qxThen ?_
            refine cxReg ?_
            refine pxV (v := (.slice A1 o.length c1)) (fun _ _ hF => opMove rfl (hF.ev 3 rfl)) rfl (fun _ _ => rfl) (kM [true, true, true, false, true] rfl rfl) (by decide) ?_
            refine pxV (v := (.slice (some ⟨g17, 0, none⟩) 3 3)) (fun _ _ hF => opMove rfl (hF.ev 1 rfl)) rfl (fun _ _ => rfl) (kM [true, false, true, true, true] rfl rfl) (by decide) ?_
            refine pxV (v := (.int .i64 (((p) : Nat) : Int))) (fun _ _ hF => opMove rfl (hF.ev 2 rfl)) rfl (fun _ _ => rfl) (kM [true, true, false, true, true] rfl rfl) (by decide) ?_
            refine pxV (v := (.int .i64 ((((3 - p)) : Nat) : Int))) (fun _ _ hF => opSub rfl rfl (hF.ev 0 rfl) (wI (by omega) (by omega) (by omega))) rfl (fun _ _ => rfl) (kM [false, true, true, true, true] rfl rfl) (by decide) ?_
            refine pxV (v := (.slice (some ⟨g17, 0, none⟩) (3 - p) 3)) (fun _ _ hF => opCutH (h := (3 - p)) (e := 5) (sz := 1) rfl (by kernel_rfl) (by kernel_rfl) (hF.ev 1 rfl) (hF.ev 0 rfl) rfl (by omega)) rfl (fun _ _ => rfl) (kM [false, false, true, true, true] rfl rfl) (by decide) ?_
            refine pxE 0 hH rfl (fun _ hF => smAppT (C := cByte) (l := o) (m := ([(UInt8.ofNat (n / 65536)), (UInt8.ofNat (n / 256)), (UInt8.ofNat n)].take (3 - p))) (e := 5) (z := (.int .u8 0)) (by_ := 1) rfl (by kernel_rfl) (by kernel_rfl) rfl (ltb rfl) (hF.ev 1 rfl) hO (hF.ev 0 rfl) (by rw [List.length_take]; exact Nat.min_eq_left (by show 3 - p ≤ 3; omega)) (fun h => by cases h) (by unfold maxLen; omega) (by omega)) (((Bk.lits (C := cByte) [(UInt8.ofNat (n / 65536)), (UInt8.ofNat (n / 256)), (UInt8.ofNat n)] (by show 3 ≤ _; unfold maxLen; decide)).vu (n := 3) (hH.blk 1 rfl) rfl).head (m := (3 - p)) (by omega)) rfl (fun _ _ => rfl) (kM [false, false, true, true] rfl rfl) (by decide) ?_
            clear hH
            rintro v20 E21 w ⟨hO22, _⟩ hH
            replace hH : HH w0 [] [E21, [bl g17 5 (flat cByte [(UInt8.ofNat (n / 65536)), (UInt8.ofNat (n / 256)), (UInt8.ofNat n)]).toArray]] w := hH
            replace hO22 : OwnT cByte 5 v20 (o ++ ([(UInt8.ofNat (n / 65536)), (UInt8.ofNat (n / 256)), (UInt8.ofNat n)].take (3 - p))) E21 := hO22
            obtain ⟨A18, c19, rfl⟩ := hO22.slice
            refine pxV (v := (.slice A18 ((o ++ ([(UInt8.ofNat (n / 65536)), (UInt8.ofNat (n / 256)), (UInt8.ofNat n)].take (3 - p))).length) c19)) (fun _ _ hF => opAssign rfl (hF.ev 0 rfl)) rfl (fun _ _ => rfl) (kM [false, true, true] rfl rfl) (by decide) ?_
            refine pxEnd ?_
            refine qxInN ?_
            refine qxThen ?_
            refine cxReg ?_
            refine pxV (v := (.int .i64 (((i) : Nat) : Int))) (fun _ _ hF => opMove rfl (hF.ev 1 rfl)) rfl (fun _ _ => rfl) (kM [true, false, true] rfl rfl) (by decide) ?_
            refine pxV (v := (.int .i64 (((i + 4) : Nat) : Int))) (fun _ _ hF => opAdd rfl (hF.ev 0 rfl) rfl (wI (by omega) (by omega) (by omega))) rfl (fun _ _ => rfl) (kM [false, true, true] rfl rfl) (by decide) ?_
            refine pxV (v := (.int .i64 (((i + 4) : Nat) : Int))) (fun _ _ hF => opAssign rfl (hF.ev 0 rfl)) rfl (fun _ _ => rfl) (kM [false, true, true] rfl rfl) (by decide) ?_
            refine pxEnd ?_
            replace hH : HH w0 [] [E21] w := hH.only [true, false]
            exact qxRound ((i + 4), (o ++ ([(UInt8.ofNat (n / 65536)), (UInt8.ofNat (n / 256)), (UInt8.ofNat n)].take (3 - p))), A18, c19, E21) ⟨hH, (show (i + 4) ≤ s.length from (by omega)), (show (i + 4) % 4 = 0 from (by omega)), (show (o ++ ([(UInt8.ofNat (n / 65536)), (UInt8.ofNat (n / 256)), (UInt8.ofNat n)].take (3 - p))).length ≤ (i + 4) from (by rw [List.length_append, List.length_take]; omega)), (show (ul (s.drop (i + 4))).map ((o ++ ([(UInt8.ofNat (n / 65536)), (UInt8.ofNat (n / 256)), (UInt8.ofNat n)].take (3 - p))) ++ ·) = ul s from (ul_go (by omega) (us_end hus4) hpok hinv)), hO22⟩ (by show s.length - (i + 4) < s.length - i; omega) (slots_at [0, 1, 2] rfl)
    · refine cxExit ?_
      refine qxThenE ?_
      refine qxThenE ?_
      refine qxInE ?_
      refine qxThen ?_
      refine cxSeq ?_
      refine cxSeq ?_
      have ei : i = s.length := by omega
      have hul : ul s = some o := by rw [ei] at hinv; exact ul_end hinv
      refine cxReg ?_
      refine pxV (v := (.slice A1 o.length c1)) (fun _ _ hF => opMove rfl (hF.ev 2 rfl)) rfl (fun _ _ => rfl) (kM [false, false, true, true] rfl rfl) (by decide) ?_
      refine pxM hH (fun _ hF => Does.small ((rbase64_c o A1 c1 (by omega)).does) (fun w => opCall rfl Tryd.func13 rfl rfl (Evs.cons (v := (.slice A1 o.length c1)) (hF.ev 0 rfl) Evs.nil) w)) (hO.vuAt (hH.has 0 rfl)) rfl (fun _ _ => rfl) (kM [false, true, true] rfl rfl) (by decide) ?_
      clear hH
      rintro _ _ w ⟨rfl, rfl⟩ hH
      replace hH : HH w0 [] [E] w := hH.unpad
      refine pxV (v := (.string (strL s))) (fun _ _ hF => opMove rfl (hF.ev 2 rfl)) rfl (fun _ _ => rfl) (kM [true, true, false] rfl rfl) (by decide) ?_
      refine pxV (v := (.bool (decide ((b64 o) ≠ s)))) (fun _ _ hF => opNeL (l := (b64 o)) (m := s) rfl (hF.ev 1 rfl) (hF.ev 0 rfl) Iff.rfl) rfl (fun _ _ => rfl) (kM [false, false, true] rfl rfl) (by decide) ?_
      refine pxEnd ?_
      refine qxThen ?_
      refine cxP 0 rfl rfl (fun hc23 => ?_) (fun hc23 => ?_)
      · refine cxSeq ?_
        refine cxReg ?_
        refine pxV (v := (.slice none 0 0)) (fun _ _ hF => opAssign rfl rfl) rfl (fun _ _ => rfl) (kM [false, false] rfl rfl) (by decide) ?_
        refine pxV (v := (.int .i64 2)) (fun _ _ hF => opAssign rfl rfl) rfl (fun _ _ => rfl) (kA rfl) (by decide) ?_
        refine pxEnd ?_
        refine qxThen ?_
        refine cxRet ?_
        refine qxThenR ?_
        refine qxRet2 1 0 rfl rfl rfl ?_
        exact ⟨_, _, rfl, .inl ⟨(by rw [unR_some hc1 hul, if_neg hc23]), rfl, rfl⟩, hH.out [false]⟩
      · refine cxSkip ?_
        refine qxThen ?_
        refine cxSeq ?_
        refine cxReg ?_
        refine pxV (v := (.slice A1 o.length c1)) (fun _ _ hF => opMove rfl (hF.ev 1 rfl)) rfl (fun _ _ => rfl) (kM [false, false] rfl rfl) (by decide) ?_
        refine pxV (v := (.slice A1 o.length c1)) (fun _ _ hF => opAssign rfl (hF.ev 0 rfl)) rfl (fun _ _ => rfl) (kM [false] rfl rfl) (by decide) ?_
        refine pxV (v := (.int .i64 0)) (fun _ _ hF => opAssign rfl rfl) rfl (fun _ _ => rfl) (kA rfl) (by decide) ?_
        refine pxEnd ?_
        refine qxThen ?_
        refine cxRet ?_
        refine qxRet2 1 0 rfl rfl rfl ?_
        exact ⟨_, _, rfl, .inr ⟨o, _, _, (by rw [unR_some hc1 hul, if_pos (by have := hc23; simpa using this)]), rfl, hO⟩, hH.out1 [true] rfl⟩

end Go.Proofs.YtadbpmcmdcnlfaaDoor

namespace Go.Proofs.YtadbpmcmdcnlfaaDoor

theorem isK_len {k : List UInt8} (h : isK k) : k.length ≤ 16 := by rcases h with rfl | rfl | rfl <;> decide
theorem lnsA_len : ∀ (s acc : List UInt8), (lnsA acc s).length ≤ s.length + 1
  | [], acc => by
    rw [lnsA]
    split <;> simp
  | c :: r, acc => by
    rw [lnsA]
    split
    · have := lnsA_len r []
      simp only [List.length_cons]; omega
    · have := lnsA_len r (acc ++ [c])
      simp only [List.length_cons]; omega
theorem lns_len (s : List UInt8) : (lns s).length ≤ s.length + 1 := lnsA_len s []
theorem lnsA_mem : ∀ (s acc x : List UInt8), x ∈ lnsA acc s → x.length ≤ acc.length + s.length
  | [], acc, x, h => by
    rw [lnsA] at h
    split at h
    · cases h
    · simp at h; rw [h]; simp
  | c :: r, acc, x, h => by
    rw [lnsA] at h
    split at h
    · rcases List.mem_cons.1 h with h | h
      · rw [h]; have := bare_len acc; omega
      · have := lnsA_mem r [] x h
        simp only [List.length_cons, List.length_nil] at this ⊢; omega
    · have := lnsA_mem r (acc ++ [c]) x h
      simp only [List.length_cons, List.length_append, List.length_nil] at this ⊢; omega
theorem lns_mem {s x : List UInt8} (h : x ∈ lns s) : x.length ≤ s.length := by
  have := lnsA_mem s [] x h
  simpa using this
section
variable {L M M2 : List (List UInt8)} {x y k s b : List UInt8} {i : Nat}
theorem headD_at (h : L[0]? = some x) : L.headD [] = x := by
  cases L with
  | nil => cases h
  | cons a r => simpa using h
theorem lastD_at (h : L[L.length - 1]? = some y) : lastD L = y := by
  unfold lastD
  rw [List.getLast?_eq_getElem?, h]; rfl
theorem accR_a (h : L.length < 3) : accR L = none := by unfold accR; rw [if_pos (.inl h)]
theorem accR_b (hx : L[0]? = some x) (h : x.length < 20 ∨ x.take 15 ≠ begL ∨ x.drop (x.length - 5) ≠ dasL) : accR L = none := by
  unfold accR
  rw [headD_at hx, if_pos (.inr h)]
theorem accR_c (h3 : ¬ L.length < 3) (hx : L[0]? = some x) (h20 : ¬ x.length < 20) (hb : ¬ x.take 15 ≠ begL) (hd : ¬ x.drop (x.length - 5) ≠ dasL) : accR L = if ¬ isK (kR x) ∨ lastD L ≠ footK (kR x) then none else bodyR (kR x) ((L.take (L.length - 1)).drop 1) := by
  unfold accR
  rw [headD_at hx, if_neg]
  rintro (h | h | h | h)
  · exact h3 h
  · exact h20 h
  · exact hb h
  · exact hd h
theorem dw_go (hx : M[0]? = some x) (h : hdr x = true) : (M.drop 1).dropWhile hdr = M.dropWhile hdr := by
  cases M with
  | nil => cases hx
  | cons a r =>
    have : a = x := by simpa using hx
    subst this
    rw [List.dropWhile_cons_of_pos h]; rfl
theorem dw_nil (h : M = []) : M.dropWhile hdr = [] := by subst h; rfl
theorem dw_stop (hx : M[0]? = some x) (h : hdr x = false) : M.dropWhile hdr = x :: M.drop 1 := by
  cases M with
  | nil => cases hx
  | cons a r =>
    have : a = x := by simpa using hx
    subst this
    rw [List.dropWhile_cons_of_neg (by rw [h]; simp)]; rfl
theorem bodyR_nil (h : M.dropWhile hdr = []) : bodyR k M = none := by unfold bodyR; rw [h]
theorem bodyR_ne (h : M.dropWhile hdr = x :: M2) (hx : x ≠ []) : bodyR k M = none := by unfold bodyR; rw [h]; simp only; rw [if_pos hx]
theorem bodyR_go (h : M.dropWhile hdr = x :: M2) (hx : ¬ x ≠ []) {s : List UInt8} {M3 : List (List UInt8)} (hp : partR M2 = (s, M3)) : bodyR k M = sumR k s M3 := by unfold bodyR; rw [h]; simp only; rw [if_neg hx, hp]
theorem part_no0 (h : ¬ M.length > 0) : partR M = ([], M) := by unfold partR; rw [if_neg fun h2 => h h2.1]
theorem part_no5 (hy : M[M.length - 1]? = some y) (h : ¬ y.length = 5) : partR M = ([], M) := by unfold partR; rw [lastD_at hy, if_neg fun h2 => h h2.2.1]
theorem part_no61 (hy : M[M.length - 1]? = some y) {c : UInt8} (hc : y[0]? = some c) (h : ¬ c.toNat = 61) : partR M = ([], M) := by
  unfold partR
  rw [lastD_at hy, if_neg]
  rintro ⟨_, _, h2⟩
  rw [head_at hc] at h2
  exact h (by rw [Option.some.inj h2]; rfl)
theorem part_yes (h0 : M.length > 0) (hy : M[M.length - 1]? = some y) (h5 : y.length = 5) {c : UInt8} (hc : y[0]? = some c) (h : c.toNat = 61) : partR M = (y.drop 1, M.take (M.length - 1)) := by
  have e : c = (61 : UInt8) := byte_eq (by decide) h
  subst e
  unfold partR
  rw [lastD_at hy, if_pos ⟨h0, h5, head_at hc⟩, List.dropLast_eq_take]
theorem drop_nil {n : Nat} (hn : M.length = n) : M.drop (i + 1) = [] ↔ ¬ i + 1 < n := by rw [List.drop_eq_nil_iff]; omega
theorem lok_go (hx : M[i]? = some x) {n : Nat} (hn : M.length = n) (h0 : ¬ x = []) (h76 : ¬ x.length > 76) (h4 : i + 1 < n → ¬ x.length % 4 ≠ 0) : lokL (M.drop i) = lokL (M.drop (i + 1)) := by
  rw [drop_at hx, lokL]
  have e1 : decide (x.length ≤ 76) = true := by simp; omega
  have e2 : (decide (M.drop (i + 1) = []) || decide (x.length % 4 = 0)) = true := by
    rw [Bool.or_eq_true, decide_eq_true_iff, decide_eq_true_iff, drop_nil hn]
    by_cases h : i + 1 < n
    · right; have := h4 h; omega
    · exact .inl h
  rw [e1, e2]
  simp [h0]
theorem lok_bad (hx : M[i]? = some x) {n : Nat} (hn : M.length = n) (h : x = [] ∨ x.length > 76 ∨ (i + 1 < n ∧ x.length % 4 ≠ 0)) : lokL (M.drop i) = false := by
  rw [drop_at hx, lokL]
  rcases h with h | h | ⟨h1, h2⟩
  · simp [h]
  · have e1 : decide (x.length ≤ 76) = false := by simp; omega
    simp [e1]
  · have e2 : (decide (M.drop (i + 1) = []) || decide (x.length % 4 = 0)) = false := by
      rw [Bool.or_eq_false_iff, decide_eq_false_iff_not, decide_eq_false_iff_not, drop_nil hn]
      exact ⟨fun h => h h1, h2⟩
    rw [e2]
    simp
theorem flat_next (hx : M[i]? = some x) : (M.take i).flatten ++ x = (M.take (i + 1)).flatten := by
  rw [List.take_add_one, hx]; simp
theorem sumR_bad (h : lokL M = false) : sumR k s M = none := by unfold sumR; rw [if_pos h]
theorem sumR_no (h : (unR M.flatten).isNone = true) : sumR k s M = none := by
  unfold sumR
  split
  · rfl
  · rw [Option.isNone_iff_eq_none.1 h]
theorem un_some {r : Option (List UInt8)} (h : r.isNone = false) : r = some (r.getD []) := by
  cases r with
  | none => cases h
  | some b => rfl
theorem sumR_sum (h0 : lokL M = true) (h : (unR M.flatten).isNone = false) : sumR k s M = if s ≠ [] ∧ s ≠ b64 (three (crc ((unR M.flatten).getD []))) then none else some (k, (unR M.flatten).getD []) := by
  unfold sumR
  rw [if_neg (by rw [h0]; simp)]
  conv => lhs; rw [un_some h]

end
end Go.Proofs.YtadbpmcmdcnlfaaDoor

namespace Go.Proofs.YtadbpmcmdcnlfaaDoor
def pieceW (s : List UInt8) (w i : Nat) : List UInt8 := (s.drop (w * i)).take w
def cutM (s : List UInt8) (w m : Nat) : List (List UInt8) := (List.range m).map (pieceW s w)
def linesT (cr : Bool) (ls : List (List UInt8)) : List UInt8 := (ls.map fun x => x ++ eol cr).flatten
def soL (b : Bool) (l : List UInt8) : List (List UInt8) := if b then [sumL l] else []
def armL (k : List UInt8) (hs bs : List (List UInt8)) (l : List UInt8) (b : Bool) : List (List UInt8) := headK k :: (hs ++ [] :: (bs ++ (soL b l ++ [footK k])))
def nP (l : List UInt8) : Nat := (l.length + 47) / 48
def encT (k l : List UInt8) (b : Bool) : List UInt8 := linesT false (armL k [] (cutM (b64 l) 64 (nP l)) l b)
/-- No line's end within. -/
def noEnd (l : List UInt8) : Prop := (10 : UInt8) ∉ l ∧ (13 : UInt8) ∉ l
theorem linesT_append (cr : Bool) (A B : List (List UInt8)) : linesT cr (A ++ B) = linesT cr A ++ linesT cr B := by simp [linesT]
theorem linesT_cons (cr : Bool) (x : List UInt8) (B : List (List UInt8)) : linesT cr (x :: B) = x ++ (eol cr ++ linesT cr B) := by simp [linesT]
theorem lns_linesT (cr : Bool) : ∀ (ls : List (List UInt8)) (r : List UInt8), (∀ x ∈ ls, noEnd x) → lns (linesT cr ls ++ r) = ls ++ lns r
  | [], r, _ => rfl
  | x :: ls, r, h => by
    have hx := h x (by simp)
    rw [linesT_cons, List.append_assoc, List.append_assoc, lns_eol cr hx.1 hx.2, lns_linesT cr ls r (fun y hy => h y (by simp [hy])), List.cons_append]
theorem lns_lines (cr : Bool) (ls : List (List UInt8)) (h : ∀ x ∈ ls, noEnd x) : lns (linesT cr ls) = ls := by
  have h1 := lns_linesT cr ls [] h
  rw [List.append_nil] at h1
  rw [h1]
  simp [lns, lnsA]
theorem b64_end (l : List UInt8) : noEnd (b64 l) := by
  constructor <;> intro h
  · rcases b64_mem l _ h with h | h
    · cases h
    · cases h
  · rcases b64_mem l _ h with h | h
    · cases h
    · cases h
theorem piece_end {s : List UInt8} (h : noEnd s) (w i : Nat) : noEnd (pieceW s w i) :=
  ⟨fun hm => h.1 (List.mem_of_mem_drop (List.mem_of_mem_take hm)), fun hm => h.2 (List.mem_of_mem_drop (List.mem_of_mem_take hm))⟩
theorem cut_end {s : List UInt8} (h : noEnd s) (w m : Nat) : ∀ x ∈ cutM s w m, noEnd x := fun x hx => by
  obtain ⟨i, _, rfl⟩ := List.mem_map.1 hx
  exact piece_end h w i
theorem cut_snoc (s : List UInt8) (w m : Nat) : cutM s w (m + 1) = cutM s w m ++ [pieceW s w m] := by simp [cutM, List.range_succ]
theorem cut_flat (s : List UInt8) (w : Nat) : ∀ m, (cutM s w m).flatten = s.take (w * m)
  | 0 => by simp [cutM]
  | m + 1 => by
    rw [cut_snoc, List.flatten_append, cut_flat s w m, Nat.mul_succ, List.take_add]
    simp [pieceW]
theorem piece_len (s : List UInt8) (w i : Nat) : (pieceW s w i).length = min w (s.length - w * i) := by simp [pieceW]
theorem gd_piece (l : List UInt8) {w i : Nat} (hw : w % 4 = 0) (h0 : 0 < w) (h76 : w ≤ 76) (hi : w * i < (b64 l).length) : gdL (pieceW (b64 l) w i) := by
  have h4 := b64_len4 l
  have hm : (w * i) % 4 = 0 := by rw [Nat.mul_mod, hw, Nat.zero_mul]
  have hl := piece_len (b64 l) w i
  have hh : (pieceW (b64 l) w i).head? = (b64 l)[w * i]? := by
    rw [List.head?_eq_getElem?]
    unfold pieceW
    rw [List.getElem?_take_of_lt h0, List.getElem?_drop, Nat.add_zero]
  have hne : pieceW (b64 l) w i ≠ [] := fun e => by rw [e] at hl; simp at hl; omega
  obtain ⟨c, hc⟩ : ∃ c, (b64 l)[w * i]? = some c := ⟨_, List.getElem?_eq_getElem hi⟩
  have he := b64_fourth l (w * i) c hm hc
  rw [hc] at hh
  constructor
  · unfold stopL
    rw [hh]
    have h1 : c ≠ 61 := by rintro rfl; cases he
    have h2 : c ≠ 45 := by rintro rfl; cases he
    have h3 : (pieceW (b64 l) w i == []) = false := by simpa using hne
    rw [h3]
    simp [h1, h2]
  · simp only [badL, hl, Bool.or_eq_false_iff, decide_eq_false_iff_not]
    omega
theorem gd_cut (l : List UInt8) {w m : Nat} (hw : w % 4 = 0) (h0 : 0 < w) (h76 : w ≤ 76) (hm : ∀ i, i < m → w * i < (b64 l).length) : ∀ x ∈ cutM (b64 l) w m, gdL x := fun x hx => by
  obtain ⟨i, hi, rfl⟩ := List.mem_map.1 hx
  exact gd_piece l hw h0 h76 (hm i (List.mem_range.1 hi))
theorem arm_armL {k : List UInt8} (hk : isK k) {hs : List (List UInt8)} (hh : ∀ h ∈ hs, hdr h = true) (l : List UInt8) {w m : Nat} (hw : w % 4 = 0) (h0 : 0 < w) (h76 : w ≤ 76) (hm : ∀ i, i < m → w * i < (b64 l).length) (hm2 : (b64 l).length ≤ w * m) (b : Bool) :
    Arm (armL k hs (cutM (b64 l) w m) l b) k l := by
  refine ⟨hs, cutM (b64 l) w m, soL b l, hk, rfl, hh, gd_cut l hw h0 h76 hm, ?_, ?_⟩
  · rw [cut_flat, List.take_of_length_le hm2]
    exact (unP_iff _ _).2 rfl
  · cases b
    · exact .inl rfl
    · exact .inr rfl
theorem sumL_end (l : List UInt8) : noEnd (sumL l) := ⟨fun h => (sumL_mem l _ h).1 rfl, fun h => (sumL_mem l _ h).2 rfl⟩
theorem soL_end (b : Bool) (l : List UInt8) : ∀ x ∈ soL b l, noEnd x := by
  cases b
  · intro x hx; cases hx
  · intro x hx
    obtain rfl : x = sumL l := by simpa [soL] using hx
    exact sumL_end l
theorem head_end {k : List UInt8} (h : isK k) : noEnd (headK k) ∧ noEnd (footK k) := by
  have := headK_kind h
  exact ⟨⟨this.1, this.2.1⟩, ⟨this.2.2.1, this.2.2.2⟩⟩
theorem nil_end : noEnd [] := ⟨by simp, by simp⟩
theorem nP_cut (l : List UInt8) : (∀ i, i < nP l → 64 * i < (b64 l).length) ∧ (b64 l).length ≤ 64 * nP l ∧ nP l = ((b64 l).length + 63) / 64 := by
  have h := b64_len l
  unfold nP
  refine ⟨fun i hi => ?_, ?_, ?_⟩ <;> omega
/-- What Encode writes is the armor of its bytes. -/
theorem enc_arm {k : List UInt8} (hk : isK k) (l : List UInt8) (b : Bool) : Arm (lns (encT k l b)) k l := by
  have h1 := nP_cut l
  have h2 : ∀ x ∈ armL k [] (cutM (b64 l) 64 (nP l)) l b, noEnd x := fun x hx => by
    simp only [armL, List.nil_append, List.mem_cons, List.mem_append, List.not_mem_nil, or_false] at hx
    rcases hx with rfl | rfl | hx | hx | rfl
    · exact (head_end hk).1
    · exact nil_end
    · exact cut_end (b64_end l) _ _ x hx
    · exact soL_end b l x hx
    · exact (head_end hk).2
  unfold encT
  rw [lns_lines _ _ h2]
  exact arm_armL hk (fun _ h => by cases h) l (by decide) (by decide) (by decide) h1.1 h1.2.1 b
/-! ### The program's pieces -/
theorem b64_piece (l : List UInt8) {i : Nat} (hi : 48 * i < l.length) : b64 ((l.drop (48 * i)).take 48) = pieceW (b64 l) 64 i := by
  have e1 : l = l.take (48 * i) ++ l.drop (48 * i) := (List.take_append_drop _ _).symm
  have hlt : (l.take (48 * i)).length = 48 * i := by rw [List.length_take]; omega
  have e2 : b64 l = b64 (l.take (48 * i)) ++ b64 (l.drop (48 * i)) := by
    conv => lhs; rw [e1]
    exact b64_split _ _ (by rw [hlt]; omega)
  have e3 : (b64 (l.take (48 * i))).length = 64 * i := by rw [b64_len3 _ (by rw [hlt]; omega), hlt]; omega
  unfold pieceW
  rw [e2, ← e3, List.drop_left]
  generalize l.drop (48 * i) = m
  by_cases h : m.length ≤ 48
  · rw [List.take_of_length_le h, List.take_of_length_le]
    rw [b64_len]; omega
  · have f1 : m = m.take 48 ++ m.drop 48 := (List.take_append_drop _ _).symm
    have hl2 : (m.take 48).length = 48 := by rw [List.length_take]; omega
    have f2 : b64 m = b64 (m.take 48) ++ b64 (m.drop 48) := by
      conv => lhs; rw [f1]
      exact b64_split _ _ (by rw [hl2])
    have f3 : (b64 (m.take 48)).length = 64 := by rw [b64_len3 _ (by rw [hl2]), hl2]
    rw [f2, List.take_append_of_le_length (by omega), List.take_of_length_le (l := b64 (m.take 48)) (i := 64) (by omega)]
/-! ### What Encode answers -/
def encV (k l : List UInt8) (b : Bool) : List UInt8 := if isK k ∧ l.length ≤ 20000 then encT k l b else []
def encE (k l : List UInt8) : Nat := if isK k then (if l.length > 20000 then 6 else 0) else 1
theorem enc_bad {k : List UInt8} (h : ¬ isK k) (l : List UInt8) (b : Bool) : encV k l b = [] ∧ encE k l = 1 := ⟨if_neg fun hh => h hh.1, if_neg h⟩
theorem enc_long {k : List UInt8} (h : isK k) {l : List UInt8} (h2 : l.length > 20000) (b : Bool) : encV k l b = [] ∧ encE k l = 6 := ⟨if_neg fun hh => by omega, by rw [encE, if_pos h, if_pos h2]⟩
theorem enc_go {k : List UInt8} (h : isK k) {l : List UInt8} (h2 : ¬ l.length > 20000) (b : Bool) : encV k l b = encT k l b ∧ encE k l = 0 := ⟨if_pos ⟨h, by omega⟩, by rw [encE, if_pos h, if_neg h2]⟩
theorem kindF_no (k : List UInt8) : kindF (headK k) = [] ↔ ¬ isK k := by
  rw [kindF_eq]
  split
  · rename_i h; exact ⟨fun e => absurd e (isK_ne h), fun e => absurd h e⟩
  · rename_i h; exact ⟨fun _ => h, fun _ => rfl⟩
theorem linesT_len (cr : Bool) (ls : List (List UInt8)) (n : Nat) (h : ∀ x ∈ ls, x.length ≤ n) : (linesT cr ls).length ≤ (n + 2) * ls.length := by
  induction ls with
  | nil => simp [linesT]
  | cons x ls ih =>
    have h1 := ih fun y hy => h y (by simp [hy])
    have h2 := h x (by simp)
    have h3 : (eol cr).length ≤ 2 := by cases cr <;> decide
    rw [linesT_cons, List.length_append, List.length_append, List.length_cons, Nat.mul_succ]
    omega
end Go.Proofs.YtadbpmcmdcnlfaaDoor

namespace Go.Proofs.YtadbpmcmdcnlfaaDoor
open Go Go.RowKit
set_option maxRecDepth 100000

theorem enc_eq (k l : List UInt8) (b : Bool) : encT k l b = headK k ++ ([10, 10] ++ (linesT false (cutM (b64 l) 64 (nP l)) ++ ((if b then sumL l ++ [10] else []) ++ (footK k ++ [10])))) := by
  cases b <;> simp [encT, armL, soL, linesT, eol]
theorem enc_ref (k l : List UInt8) (b : Bool) (o u : List UInt8) (ho : o = (begL ++ k ++ (dasL ++ [10, 10])) ++ linesT false (cutM (b64 l) 64 (nP l))) (hu : u = if b then sumL l ++ [10] else []) : ((o ++ u ++ endL) ++ k) ++ (dasL ++ [10]) = encT k l b := by
  rw [enc_eq, ho, hu]
  simp [headK, footK]
theorem enc_line (s : List UInt8) (hd o : List UInt8) (j : Nat) (ho : o = hd ++ linesT false (cutM s 64 j)) : o ++ pieceW s 64 j ++ [10] = hd ++ linesT false (cutM s 64 (j + 1)) := by
  rw [ho, cut_snoc, linesT_append]
  simp [linesT, eol]
theorem piece_cut (s : List UInt8) {w j m : Nat} (hm : m = min (w * j + w) s.length) (hj : w * j < s.length) : (s.take m).drop (w * j) = pieceW s w j := by
  subst hm
  unfold pieceW
  rw [List.drop_take]
  refine List.ext_getElem? fun i => ?_
  rw [List.getElem?_take, List.getElem?_take]
  by_cases h : i < w
  · rw [if_pos h]
    by_cases h2 : i < min (w * j + w) s.length - w * j
    · rw [if_pos h2]
    · rw [if_neg h2, List.getElem?_eq_none (by rw [List.length_drop]; omega)]
  · rw [if_neg h, if_neg (by omega)]
theorem isK_len16 {k : List UInt8} (h : isK k) : k.length ≤ 16 := by rcases h with rfl | rfl | rfl <;> decide

set_option maxHeartbeats 8000000 in
theorem rencode_c (k : List UInt8) (hk : k.length ≤ 140737488355328) (l : List UInt8) (A : Option Addr) (c : Nat) (hl : l.length ≤ 140737488355328) (b : Bool) : Pure Tryd.prog 9 #[(.string (strL k)), (.slice A l.length c), (.bool (b))] (fun w => Vu cByte w A l.length c l) (.tuple #[.string (strL (encV k l b)), .int .i64 ((encE k l : Nat) : Int)]) := by
  refine pure_of (fn := Tryd.f9) Tryd.func9 rfl Tryd.ntmps9 (Nat.le_of_ble_eq_true rfl) rfl ?_
  intro w0 hH hR
  have hcl := hR.len
  have hcc := hR.cap
  refine cxSeq ?_
  refine cxReg ?_
  refine pxV (v := (.string (strL ([])))) (fun _ _ hF => opAssign rfl rfl) rfl (fun _ _ => rfl) (kA rfl) (by decide) ?_
  refine pxV (v := (.int .i64 0)) (fun _ _ hF => opAssign rfl rfl) rfl (fun _ _ => rfl) (kM [false, true, true, true] rfl rfl) (by decide) ?_
  refine pxEnd ?_
  refine qxThen ?_
  refine cxSeq ?_
  refine cxSeq ?_
  refine cxReg ?_
  refine pxV (v := (.string (strL k))) (fun _ _ hF => opMove rfl (hF.ev 1 rfl)) rfl (fun _ _ => rfl) (kM [false, true, true, true] rfl rfl) (by decide) ?_
  refine pxM hH (fun _ hF => Does.small ((rkind_c k).does) (fun w => opCall rfl Tryd.func25 rfl rfl (Evs.cons (v := (.string (strL k))) (hF.ev 0 rfl) Evs.nil) w)) trivial rfl (fun _ _ => rfl) (kM [false, true, true, true] rfl rfl) (by decide) ?_
  clear hH
  rintro _ _ w ⟨rfl, rfl⟩ hH
  replace hH : HH w0 [] [] w := hH.unpad
  refine pxV (v := (.bool (decide (¬ (isK k))))) (fun _ _ hF => opNot rfl (hF.ev 0 rfl) decide_not.symm) rfl (fun _ _ => rfl) (kM [false, true, true, true] rfl rfl) (by decide) ?_
  refine pxEnd ?_
  refine qxThen ?_
  refine cxP 0 rfl rfl (fun hc1 => ?_) (fun hc1 => ?_)
  · refine cxSeq ?_
    refine cxReg ?_
    refine pxV (v := (.string (strL ([])))) (fun _ _ hF => opAssign rfl rfl) rfl (fun _ _ => rfl) (kM [false, false, false, false] rfl rfl) (by decide) ?_
    refine pxV (v := (.int .i64 1)) (fun _ _ hF => opAssign rfl rfl) rfl (fun _ _ => rfl) (kA rfl) (by decide) ?_
    refine pxEnd ?_
    refine qxThen ?_
    refine cxRet ?_
    refine qxThenR ?_
    refine qxRet2 1 0 rfl rfl rfl ?_
    exact ⟨by rw [(enc_bad (by have := hc1; simpa using this) l b).1, (enc_bad (by have := hc1; simpa using this) l b).2]; rfl, hH.toBelow⟩
  · refine cxSkip ?_
    refine qxThen ?_
    refine cxSeq ?_
    refine cxSeq ?_
    refine cxReg ?_
    refine pxV (v := (.slice A l.length c)) (fun _ _ hF => opMove rfl (hF.ev 2 rfl)) rfl (fun _ _ => rfl) (kM [false, true, true, true] rfl rfl) (by decide) ?_
    refine pxV (v := (.int .i64 (((l.length) : Nat) : Int))) (fun _ _ hF => opLen (e := 5) rfl (by kernel_rfl) (hF.ev 0 rfl)) rfl (fun _ _ => rfl) (kM [false, true, true, true] rfl rfl) (by decide) ?_
    refine pxV (v := (.bool (decide (l.length > 20000)))) (fun _ _ hF => opGtr rfl (hF.ev 0 rfl) rfl (dc (by omega))) rfl (fun _ _ => rfl) (kM [false, true, true, true] rfl rfl) (by decide) ?_
    refine pxEnd ?_
    refine qxThen ?_
    refine cxP 0 rfl rfl (fun hc2 => ?_) (fun hc2 => ?_)
    · refine cxSeq ?_
      refine cxReg ?_
      refine pxV (v := (.string (strL ([])))) (fun _ _ hF => opAssign rfl rfl) rfl (fun _ _ => rfl) (kM [false, false, false, false] rfl rfl) (by decide) ?_
      refine pxV (v := (.int .i64 6)) (fun _ _ hF => opAssign rfl rfl) rfl (fun _ _ => rfl) (kA rfl) (by decide) ?_
      refine pxEnd ?_
      refine qxThen ?_
      refine cxRet ?_
      refine qxThenR ?_
      refine qxRet2 1 0 rfl rfl rfl ?_
      exact ⟨by rw [(enc_long (by have := hc1; simpa using this) hc2 b).1, (enc_long (by have := hc1; simpa using this) hc2 b).2]; rfl, hH.toBelow⟩
    · refine cxSkip ?_
      refine qxThen ?_
      refine cxSeq ?_
      have hK : isK k := by have := hc1; simpa using this
      have hk16 := isK_len16 hK
      have hbe : begL.length = 15 := rfl
      have hda : dasL.length = 5 := rfl
      have hen : endL.length = 13 := rfl
      have hbl := b64_len l
      have hnP := nP_cut l
      have hLl := fun j => linesT_len false (cutM (b64 l) 64 j) 64 (fun x hx => by obtain ⟨i, _, rfl⟩ := List.mem_map.1 hx; rw [piece_len]; omega)
      refine cxReg ?_
      refine pxV (v := (.string (strL k))) (fun _ _ hF => opMove rfl (hF.ev 1 rfl)) rfl (fun _ _ => rfl) (kM [false, true, true, true] rfl rfl) (by decide) ?_
      refine pxV (v := (.string (strL (begL ++ k)))) (fun _ _ hF => opAddL (l := begL) (m := k) (r := (begL ++ k)) rfl rfl (hF.ev 0 rfl) (by first | omega | (simp only [List.length_append, List.length_cons, List.length_nil]; omega)) (rfl)) rfl (fun _ _ => rfl) (kM [false, true, true, true] rfl rfl) (by decide) ?_
      refine pxV (v := (.string (strL (begL ++ k ++ (dasL ++ [10, 10]))))) (fun _ _ hF => opAddL (l := (begL ++ k)) (m := [45, 45, 45, 45, 45, 10, 10]) (r := (begL ++ k ++ (dasL ++ [10, 10]))) rfl (hF.ev 0 rfl) rfl (by first | omega | (simp only [List.length_append, List.length_cons, List.length_nil]; omega)) (rfl)) rfl (fun _ _ => rfl) (kM [false, true, true, true] rfl rfl) (by decide) ?_
      refine pxV (v := (.string (strL (begL ++ k ++ (dasL ++ [10, 10]))))) (fun _ _ hF => opAssign rfl (hF.ev 0 rfl)) rfl (fun _ _ => rfl) (kM [false, true, true, true] rfl rfl) (by decide) ?_
      refine pxEnd ?_
      refine qxThen ?_
      refine cxSeq ?_
      refine cxReg ?_
      refine pxV (v := (.slice A l.length c)) (fun _ _ hF => opMove rfl (hF.ev 2 rfl)) rfl (fun _ _ => rfl) (kA rfl) (by decide) ?_
      refine pxM hH (fun _ hF => Does.small ((rbase64_c l A c (by omega)).does) (fun w => opCall rfl Tryd.func13 rfl rfl (Evs.cons (v := (.slice A l.length c)) (hF.ev 0 rfl) Evs.nil) w)) (hH.vu hR (by decide) (Off.nil _ _)) rfl (fun _ _ => rfl) (kM [false, true, true, true, true] rfl rfl) (by decide) ?_
      clear hH
      rintro _ _ w ⟨rfl, rfl⟩ hH
      replace hH : HH w0 [] [] w := hH.unpad
      refine pxV (v := (.string (strL (b64 l)))) (fun _ _ hF => opAssign rfl (hF.ev 0 rfl)) rfl (fun _ _ => rfl) (kM [false, true, true, true, true] rfl rfl) (by decide) ?_
      refine pxEnd ?_
      refine qxThen ?_
      refine cxSeq ?_
      refine cxSeq ?_
      refine cxReg ?_
      refine pxV (v := (.int .i64 0)) (fun _ _ hF => opAssign rfl rfl) rfl (fun _ _ => rfl) (kA rfl) (by decide) ?_
      refine pxEnd ?_
      refine qxThen ?_
      refine cxBlock ?_
      refine cxLoop (σ := Nat × (List UInt8)) (fun x => [(10, (.int .i64 ((((64 * x.1)) : Nat) : Int))), (9, (.string (strL (b64 l)))), (8, (.string (strL x.2))), (2, (.bool (b))), (1, (.slice A l.length c)), (0, (.string (strL k)))]) (fun x w => HH w0 [] [] w ∧ (x.1 ≤ nP l) ∧ (x.2 = (begL ++ k ++ (dasL ++ [10, 10])) ++ linesT false (cutM (b64 l) 64 x.1)) ∧ (x.2.length ≤ 66 * x.1 + 40)) (fun x => nP l - x.1) (0, (begL ++ k ++ (dasL ++ [10, 10]))) ⟨hH, Nat.zero_le _, (by simp [cutM, linesT]), (by show (begL ++ k ++ (dasL ++ [10, 10])).length ≤ 66 * 0 + 40; simp only [List.length_append, List.length_cons, List.length_nil]; omega)⟩ (slots_at [0, 1, 2, 5, 4, 3] rfl) ?_
      clear hH
      rintro ⟨j, o⟩ w ⟨hH, hj, ho, hol⟩
      change CX _ _ _ _ [(10, (.int .i64 ((((64 * j)) : Nat) : Int))), (9, (.string (strL (b64 l)))), (8, (.string (strL o))), (2, (.bool (b))), (1, (.slice A l.length c)), (0, (.string (strL k)))] _
      replace hH : HH w0 [] [] w := hH
      replace hj : j ≤ nP l := hj
      replace ho : o = (begL ++ k ++ (dasL ++ [10, 10])) ++ linesT false (cutM (b64 l) 64 j) := ho
      replace hol : o.length ≤ 66 * j + 40 := hol
      refine cxSeq ?_
      refine cxSeq ?_
      refine cxReg ?_
      refine pxV (v := (.int .i64 ((((64 * j)) : Nat) : Int))) (fun _ _ hF => opMove rfl (hF.ev 0 rfl)) rfl (fun _ _ => rfl) (kA rfl) (by decide) ?_
      refine pxV (v := (.string (strL (b64 l)))) (fun _ _ hF => opMove rfl (hF.ev 2 rfl)) rfl (fun _ _ => rfl) (kA rfl) (by decide) ?_
      refine pxV (v := (.int .i64 ((((b64 l).length) : Nat) : Int))) (fun _ _ hF => opLenL (l := (b64 l)) rfl (by kernel_rfl) (hF.ev 0 rfl)) rfl (fun _ _ => rfl) (kM [false, true, true, true, true, true, true, true] rfl rfl) (by decide) ?_
      refine pxV (v := (.bool (decide ((64 * j) < (b64 l).length)))) (fun _ _ hF => opLss rfl (hF.ev 1 rfl) (hF.ev 0 rfl) (dc (by omega))) rfl (fun _ _ => rfl) (kM [false, false, true, true, true, true, true, true] rfl rfl) (by decide) ?_
      refine pxEnd ?_
      refine qxThen ?_
      refine cxP 0 rfl rfl (fun hc3 => ?_) (fun hc3 => ?_)
      · refine cxSkip ?_
        refine qxThen ?_
        refine cxSeq ?_
        refine cxBlock ?_
        refine cxReg ?_
        refine pxV (v := (.string (strL o))) (fun _ _ hF => opMove rfl (hF.ev 3 rfl)) rfl (fun _ _ => rfl) (kM [false, true, true, false, true, true, true] rfl rfl) (by decide) ?_
        refine pxV (v := (.string (strL (b64 l)))) (fun _ _ hF => opMove rfl (hF.ev 2 rfl)) rfl (fun _ _ => rfl) (kA rfl) (by decide) ?_
        refine pxV (v := (.int .i64 ((((64 * j)) : Nat) : Int))) (fun _ _ hF => opMove rfl (hF.ev 2 rfl)) rfl (fun _ _ => rfl) (kA rfl) (by decide) ?_
        refine pxV (v := (.int .i64 ((((64 * j)) : Nat) : Int))) (fun _ _ hF => opMove rfl (hF.ev 3 rfl)) rfl (fun _ _ => rfl) (kA rfl) (by decide) ?_
        refine pxV (v := (.int .i64 ((((64 * j) + 64) : Nat) : Int))) (fun _ _ hF => opAdd rfl (hF.ev 0 rfl) rfl (wI (by omega) (by omega) (by omega))) rfl (fun _ _ => rfl) (kM [false, true, true, true, true, true, true, true, true] rfl rfl) (by decide) ?_
        refine pxV (v := (.string (strL (b64 l)))) (fun _ _ hF => opMove rfl (hF.ev 5 rfl)) rfl (fun _ _ => rfl) (kA rfl) (by decide) ?_
        refine pxV (v := (.int .i64 ((((b64 l).length) : Nat) : Int))) (fun _ _ hF => opLenL (l := (b64 l)) rfl (by kernel_rfl) (hF.ev 0 rfl)) rfl (fun _ _ => rfl) (kM [false, true, true, true, true, true, true, true, true, true] rfl rfl) (by decide) ?_
        refine pxV (v := (.int .i64 (((min ((64 * j) + 64) ((b64 l).length)) : Nat) : Int))) (fun _ _ hF => opMin rfl (hF.ev 1 rfl) (hF.ev 0 rfl) (by omega)) rfl (fun _ _ => rfl) (kM [false, false, true, true, true, true, true, true, true, true] rfl rfl) (by decide) ?_
        refine pxV (v := (.string (strL (pieceW (b64 l) 64 j)))) (fun _ _ hF => opSlcLH' (l := (b64 l)) (k := (64 * j)) (h := min ((64 * j) + 64) ((b64 l).length)) (r := (pieceW (b64 l) 64 j)) rfl (by kernel_rfl) (hF.ev 2 rfl) (hF.ev 1 rfl) (hF.ev 0 rfl) rfl rfl (by omega) (by omega) (piece_cut _ rfl (by omega))) rfl (fun _ _ => rfl) (kM [false, false, false, true, true, true, true, true, true] rfl rfl) (by decide) ?_
        refine pxV (v := (.string (strL (o ++ (pieceW (b64 l) 64 j))))) (fun _ _ hF => opAddL (l := o) (m := (pieceW (b64 l) 64 j)) (r := (o ++ (pieceW (b64 l) 64 j))) rfl (hF.ev 1 rfl) (hF.ev 0 rfl) (by rw [piece_len]; omega) (rfl)) rfl (fun _ _ => rfl) (kM [false, false, true, true, true, true, true] rfl rfl) (by decide) ?_
        refine pxV (v := (.string (strL ((o ++ (pieceW (b64 l) 64 j)) ++ [10])))) (fun _ _ hF => opAddL (l := (o ++ (pieceW (b64 l) 64 j))) (m := [10]) (r := ((o ++ (pieceW (b64 l) 64 j)) ++ [10])) rfl (hF.ev 0 rfl) rfl (by simp only [List.length_append, List.length_cons, List.length_nil]; rw [piece_len]; omega) (rfl)) rfl (fun _ _ => rfl) (kM [false, true, true, true, true, true] rfl rfl) (by decide) ?_
        refine pxV (v := (.string (strL ((o ++ (pieceW (b64 l) 64 j)) ++ [10])))) (fun _ _ hF => opAssign rfl (hF.ev 0 rfl)) rfl (fun _ _ => rfl) (kM [false, true, true, true, true, true] rfl rfl) (by decide) ?_
        refine pxEnd ?_
        refine qxInN ?_
        refine qxThen ?_
        refine cxReg ?_
        refine pxV (v := (.int .i64 ((((64 * j)) : Nat) : Int))) (fun _ _ hF => opMove rfl (hF.ev 1 rfl)) rfl (fun _ _ => rfl) (kM [true, false, true, true, true, true] rfl rfl) (by decide) ?_
        refine pxV (v := (.int .i64 ((((64 * (j + 1))) : Nat) : Int))) (fun _ _ hF => opAdd rfl (hF.ev 0 rfl) rfl (wI (by omega) (by omega) (by omega))) rfl (fun _ _ => rfl) (kM [false, true, true, true, true, true] rfl rfl) (by decide) ?_
        refine pxV (v := (.int .i64 ((((64 * (j + 1))) : Nat) : Int))) (fun _ _ hF => opAssign rfl (hF.ev 0 rfl)) rfl (fun _ _ => rfl) (kM [false, true, true, true, true, true] rfl rfl) (by decide) ?_
        refine pxEnd ?_
        exact qxRound ((j + 1), ((o ++ (pieceW (b64 l) 64 j)) ++ [10])) ⟨hH, (show (j + 1) ≤ nP l from (by omega)), (enc_line _ _ _ _ ho), (show ((o ++ (pieceW (b64 l) 64 j)) ++ [10]).length ≤ 66 * (j + 1) + 40 from (by simp only [List.length_append, List.length_cons, List.length_nil]; rw [piece_len]; omega))⟩ (by show nP l - (j + 1) < nP l - j; omega) (slots_at [0, 2, 1, 3, 4, 5] rfl)
      · refine cxExit ?_
        refine qxThenE ?_
        refine qxThenE ?_
        refine qxInE ?_
        refine qxThen ?_
        refine cxSeq ?_
        refine cxSeq ?_
        have ej : j = nP l := by omega
        subst ej
        refine cxReg ?_
        refine pxV (v := (.bool (b))) (fun _ _ hF => opMove rfl (hF.ev 4 rfl)) rfl (fun _ _ => rfl) (kM [false, false, false, true, false, true, true] rfl rfl) (by decide) ?_
        refine pxEnd ?_
        refine qxThen ?_
        refine cxB 0 rfl rfl (fun hc4 => ?_) (fun hc4 => ?_)
        · refine cxReg ?_
          refine pxV (v := (.string (strL o))) (fun _ _ hF => opMove rfl (hF.ev 1 rfl)) rfl (fun _ _ => rfl) (kM [false, false, true, true] rfl rfl) (by decide) ?_
          refine pxV (v := (.string (strL (o ++ [61])))) (fun _ _ hF => opAddL (l := o) (m := [61]) (r := (o ++ [61])) rfl (hF.ev 0 rfl) rfl (by have hb3 := b64_len (three (crc l)); have h3 : (three (crc l)).length = 3 := rfl; first | omega | (simp only [List.length_cons, List.length_nil]; omega) | (simp only [List.length_append]; omega) | (simp only [List.length_append, List.length_cons, List.length_nil]; omega)) (rfl)) rfl (fun _ _ => rfl) (kM [false, true, true] rfl rfl) (by decide) ?_
          refine pxV (v := (.slice A l.length c)) (fun _ _ hF => opMove rfl (hF.ev 1 rfl)) rfl (fun _ _ => rfl) (kM [true, false, true] rfl rfl) (by decide) ?_
          refine pxM hH (fun _ hF => Does.small ((rsum_c l A c (by omega)).does) (fun w => opCall rfl Tryd.func14 rfl rfl (Evs.cons (v := (.slice A l.length c)) (hF.ev 0 rfl) Evs.nil) w)) (hH.vu hR (by decide) (Off.nil _ _)) rfl (fun _ _ => rfl) (kM [false, true, true] rfl rfl) (by decide) ?_
          clear hH
          rintro _ _ w ⟨rfl, rfl⟩ hH
          replace hH : HH w0 [] [] w := hH.unpad
          refine pxM hH (fun _ hF => Does.small (rthree_c (crc l)) (fun w => opCall rfl Tryd.func26 rfl rfl (Evs.cons (v := (.int .u32 (((crc l) : Nat) : Int))) (hF.ev 0 rfl) Evs.nil) w)) trivial rfl (fun _ _ => rfl) (kM [false, true, true] rfl rfl) (by decide) ?_
          clear hH
          rintro v9 E5 w hO6 hH
          replace hH : HH w0 [] [E5] w := hH
          obtain ⟨A7, c8, rfl⟩ := hO6.slice
          refine pxM hH (fun _ hF => Does.small ((rbase64_c (three (crc l)) A7 c8 (leb rfl)).does) (fun w => opCall rfl Tryd.func13 rfl rfl (Evs.cons (v := (.slice A7 ((three (crc l)).length) c8)) (hF.ev 0 rfl) Evs.nil) w)) (hO6.vuAt (hH.has 0 rfl)) rfl (fun _ _ => rfl) (kM [false, true, true] rfl rfl) (by decide) ?_
          clear hH
          rintro _ _ w ⟨rfl, rfl⟩ hH
          replace hH : HH w0 [] [E5] w := hH.unpad
          refine pxV (v := (.string (strL ((o ++ [61]) ++ (b64 (three (crc l))))))) (fun _ _ hF => opAddL (l := (o ++ [61])) (m := (b64 (three (crc l)))) (r := ((o ++ [61]) ++ (b64 (three (crc l))))) rfl (hF.ev 1 rfl) (hF.ev 0 rfl) (by have hb3 := b64_len (three (crc l)); have h3 : (three (crc l)).length = 3 := rfl; first | omega | (simp only [List.length_cons, List.length_nil]; omega) | (simp only [List.length_append]; omega) | (simp only [List.length_append, List.length_cons, List.length_nil]; omega)) (rfl)) rfl (fun _ _ => rfl) (kM [false, false, true] rfl rfl) (by decide) ?_
          refine pxV (v := (.string (strL (((o ++ [61]) ++ (b64 (three (crc l)))) ++ [10])))) (fun _ _ hF => opAddL (l := ((o ++ [61]) ++ (b64 (three (crc l))))) (m := [10]) (r := (((o ++ [61]) ++ (b64 (three (crc l)))) ++ [10])) rfl (hF.ev 0 rfl) rfl (by have hb3 := b64_len (three (crc l)); have h3 : (three (crc l)).length = 3 := rfl; first | omega | (simp only [List.length_cons, List.length_nil]; omega) | (simp only [List.length_append]; omega) | (simp only [List.length_append, List.length_cons, List.length_nil]; omega)) (rfl)) rfl (fun _ _ => rfl) (kM [false, true] rfl rfl) (by decide) ?_
          refine pxV (v := (.string (strL (((o ++ [61]) ++ (b64 (three (crc l)))) ++ [10])))) (fun _ _ hF => opAssign rfl (hF.ev 0 rfl)) rfl (fun _ _ => rfl) (kM [false, true] rfl rfl) (by decide) ?_
          refine pxEnd ?_
          refine qxThen ?_
          refine cxSeq ?_
          refine cxReg ?_
          refine pxV (v := (.string (strL (((o ++ [61]) ++ (b64 (three (crc l)))) ++ [10])))) (fun _ _ hF => opMove rfl (hF.ev 0 rfl)) rfl (fun _ _ => rfl) (kM [false, true] rfl rfl) (by decide) ?_
          refine pxV (v := (.string (strL ((((o ++ [61]) ++ (b64 (three (crc l)))) ++ [10]) ++ endL)))) (fun _ _ hF => opAddL (l := (((o ++ [61]) ++ (b64 (three (crc l)))) ++ [10])) (m := endL) (r := ((((o ++ [61]) ++ (b64 (three (crc l)))) ++ [10]) ++ endL)) rfl (hF.ev 0 rfl) rfl (by have hb3 := b64_len (three (crc l)); have h3 : (three (crc l)).length = 3 := rfl; first | omega | (simp only [List.length_cons, List.length_nil]; omega) | (simp only [List.length_append]; omega) | (simp only [List.length_append, List.length_cons, List.length_nil]; omega)) (rfl)) rfl (fun _ _ => rfl) (kM [false, true] rfl rfl) (by decide) ?_
          refine pxV (v := (.string (strL k))) (fun _ _ hF => opMove rfl (hF.ev 1 rfl)) rfl (fun _ _ => rfl) (kM [true, false] rfl rfl) (by decide) ?_
          refine pxV (v := (.string (strL (((((o ++ [61]) ++ (b64 (three (crc l)))) ++ [10]) ++ endL) ++ k)))) (fun _ _ hF => opAddL (l := ((((o ++ [61]) ++ (b64 (three (crc l)))) ++ [10]) ++ endL)) (m := k) (r := (((((o ++ [61]) ++ (b64 (three (crc l)))) ++ [10]) ++ endL) ++ k)) rfl (hF.ev 1 rfl) (hF.ev 0 rfl) (by have hb3 := b64_len (three (crc l)); have h3 : (three (crc l)).length = 3 := rfl; first | omega | (simp only [List.length_cons, List.length_nil]; omega) | (simp only [List.length_append]; omega) | (simp only [List.length_append, List.length_cons, List.length_nil]; omega)) (rfl)) rfl (fun _ _ => rfl) (kM [false, false] rfl rfl) (by decide) ?_
          refine pxV (v := (.string (strL ((((((o ++ [61]) ++ (b64 (three (crc l)))) ++ [10]) ++ endL) ++ k) ++ [45, 45, 45, 45, 45, 10])))) (fun _ _ hF => opAddL (l := (((((o ++ [61]) ++ (b64 (three (crc l)))) ++ [10]) ++ endL) ++ k)) (m := [45, 45, 45, 45, 45, 10]) (r := ((((((o ++ [61]) ++ (b64 (three (crc l)))) ++ [10]) ++ endL) ++ k) ++ [45, 45, 45, 45, 45, 10])) rfl (hF.ev 0 rfl) rfl (by have hb3 := b64_len (three (crc l)); have h3 : (three (crc l)).length = 3 := rfl; first | omega | (simp only [List.length_cons, List.length_nil]; omega) | (simp only [List.length_append]; omega) | (simp only [List.length_append, List.length_cons, List.length_nil]; omega)) (rfl)) rfl (fun _ _ => rfl) (kM [false] rfl rfl) (by decide) ?_
          refine pxV (v := (.string (strL ((((((o ++ [61]) ++ (b64 (three (crc l)))) ++ [10]) ++ endL) ++ k) ++ [45, 45, 45, 45, 45, 10])))) (fun _ _ hF => opAssign rfl (hF.ev 0 rfl)) rfl (fun _ _ => rfl) (kM [false] rfl rfl) (by decide) ?_
          refine pxV (v := (.int .i64 0)) (fun _ _ hF => opAssign rfl rfl) rfl (fun _ _ => rfl) (kA rfl) (by decide) ?_
          refine pxEnd ?_
          refine qxThen ?_
          refine cxRet ?_
          refine qxRet2 1 0 rfl rfl rfl ?_
          have hf : ((((((o ++ [61]) ++ (b64 (three (crc l)))) ++ [10]) ++ endL) ++ k) ++ [45, 45, 45, 45, 45, 10]) = encV k l b := by
            rw [(enc_go hK hc2 b).1]
            refine Eq.trans ?_ (enc_ref k l b _ (sumL l ++ [10]) ho (by rw [hc4]; rfl))
            simp [sumL, dasL]
          exact ⟨by rw [hf, (enc_go hK hc2 b).2]; rfl, hH.toBelow⟩
        · refine cxSkip ?_
          refine qxThen ?_
          refine cxSeq ?_
          refine cxReg ?_
          refine pxV (v := (.string (strL o))) (fun _ _ hF => opMove rfl (hF.ev 1 rfl)) rfl (fun _ _ => rfl) (kM [false, false, false, true] rfl rfl) (by decide) ?_
          refine pxV (v := (.string (strL (o ++ endL)))) (fun _ _ hF => opAddL (l := o) (m := endL) (r := (o ++ endL)) rfl (hF.ev 0 rfl) rfl (by have hb3 := b64_len (three (crc l)); have h3 : (three (crc l)).length = 3 := rfl; first | omega | (simp only [List.length_cons, List.length_nil]; omega) | (simp only [List.length_append]; omega) | (simp only [List.length_append, List.length_cons, List.length_nil]; omega)) (rfl)) rfl (fun _ _ => rfl) (kM [false, true] rfl rfl) (by decide) ?_
          refine pxV (v := (.string (strL k))) (fun _ _ hF => opMove rfl (hF.ev 1 rfl)) rfl (fun _ _ => rfl) (kM [true, false] rfl rfl) (by decide) ?_
          refine pxV (v := (.string (strL ((o ++ endL) ++ k)))) (fun _ _ hF => opAddL (l := (o ++ endL)) (m := k) (r := ((o ++ endL) ++ k)) rfl (hF.ev 1 rfl) (hF.ev 0 rfl) (by have hb3 := b64_len (three (crc l)); have h3 : (three (crc l)).length = 3 := rfl; first | omega | (simp only [List.length_cons, List.length_nil]; omega) | (simp only [List.length_append]; omega) | (simp only [List.length_append, List.length_cons, List.length_nil]; omega)) (rfl)) rfl (fun _ _ => rfl) (kM [false, false] rfl rfl) (by decide) ?_
          refine pxV (v := (.string (strL (((o ++ endL) ++ k) ++ [45, 45, 45, 45, 45, 10])))) (fun _ _ hF => opAddL (l := ((o ++ endL) ++ k)) (m := [45, 45, 45, 45, 45, 10]) (r := (((o ++ endL) ++ k) ++ [45, 45, 45, 45, 45, 10])) rfl (hF.ev 0 rfl) rfl (by have hb3 := b64_len (three (crc l)); have h3 : (three (crc l)).length = 3 := rfl; first | omega | (simp only [List.length_cons, List.length_nil]; omega) | (simp only [List.length_append]; omega) | (simp only [List.length_append, List.length_cons, List.length_nil]; omega)) (rfl)) rfl (fun _ _ => rfl) (kM [false] rfl rfl) (by decide) ?_
          refine pxV (v := (.string (strL (((o ++ endL) ++ k) ++ [45, 45, 45, 45, 45, 10])))) (fun _ _ hF => opAssign rfl (hF.ev 0 rfl)) rfl (fun _ _ => rfl) (kM [false] rfl rfl) (by decide) ?_
          refine pxV (v := (.int .i64 0)) (fun _ _ hF => opAssign rfl rfl) rfl (fun _ _ => rfl) (kA rfl) (by decide) ?_
          refine pxEnd ?_
          refine qxThen ?_
          refine cxRet ?_
          refine qxRet2 1 0 rfl rfl rfl ?_
          have hf : (((o ++ endL) ++ k) ++ [45, 45, 45, 45, 45, 10]) = encV k l b := by
            rw [(enc_go hK hc2 b).1]
            refine Eq.trans ?_ (enc_ref k l b _ [] ho (by rw [hc4]; rfl))
            simp [dasL]
          exact ⟨by rw [hf, (enc_go hK hc2 b).2]; rfl, hH.toBelow⟩

end Go.Proofs.YtadbpmcmdcnlfaaDoor

namespace Go.Proofs.YtadbpmcmdcnlfaaDoor
open Go Go.RowKit
set_option maxRecDepth 100000

section
variable {P : Program} {w0 w w' : World} {R : List Nat} {Hs : List Hl} {E : Hl}
theorem does_ofM {n : Nat} {l : Slots} {fn : Func} {c : Code} {f : FuncId} {args : Array Value} {Rd : World → Prop} {post : Value → Hl → Prop} (hf : P.funcs[f]? = some fn) (hb : fn.body = some c) (hn : fn.ntmps = n) (hsz : args.size ≤ n) (hl : argsL 0 args.toList = l)
    (h : ∀ w, HH w (bks E) [E] w → Rd w → CX P (bodyPostM Fence.wide 3 P fn fun e w' => ∃ v E', e = .returned v ∧ post v E' ∧ Hold w (bks E) E' w') c ⟨n, []⟩ l w) : Does P f args E Rd post := fun w hE hR => by
  refine (callsIn_wide (n := 3)).1 ?_
  refine callsIn_of_wp_marks hf hb trivial (wpIn_wide.2 ?_) rfl
  refine h w hE.start hR _ ⟨?_, rfl, fun x hx => ?_⟩
  · simp [hn]; omega
  · subst hl
    obtain ⟨i, h1, h2⟩ := argsL_mem _ _ _ hx
    rw [Nat.zero_add] at h1
    have hi : i < args.size := by
      have := (List.getElem?_eq_some_iff.1 h2).1
      simpa using this
    rw [h1]
    simp only [Array.getD_eq_getD_getElem?]
    rw [Array.getElem?_append_left hi, ← Array.getElem?_toList, h2]
    rfl
theorem pure_ofM {n : Nat} {l : Slots} {fn : Func} {c : Code} {f : FuncId} {args : Array Value} {Rd : World → Prop} {v : Value} (hf : P.funcs[f]? = some fn) (hb : fn.body = some c) (hn : fn.ntmps = n) (hsz : args.size ≤ n) (hl : argsL 0 args.toList = l)
    (h : ∀ w, HH w [] [] w → Rd w → CX P (bodyPostM Fence.wide 3 P fn fun e w' => e = .returned v ∧ Below w.heap.size w w') c ⟨n, []⟩ l w) : Pure P f args Rd v := fun w hR => by
  refine (callsIn_wide (n := 3)).1 ?_
  refine callsIn_of_wp_marks hf hb trivial (wpIn_wide.2 ?_) rfl
  refine h w (Hold.init w) hR _ ⟨?_, rfl, fun x hx => ?_⟩
  · simp [hn]; omega
  · subst hl
    obtain ⟨i, h1, h2⟩ := argsL_mem _ _ _ hx
    rw [Nat.zero_add] at h1
    have hi : i < args.size := by
      have := (List.getElem?_eq_some_iff.1 h2).1
      simpa using this
    rw [h1]
    simp only [Array.getD_eq_getD_getElem?]
    rw [Array.getElem?_append_left hi, ← Array.getElem?_toList, h2]
    rfl
section
variable {fn : Func} {RR : Ending → World → Prop} {l : Slots} {n : Nat}
theorem qxMRet2 {t u : Tmp} {v v2 : Value} (i j : Nat) (hf : fn.results = #[.tmp t, .tmp u]) (hi : l[i]? = some (t, v)) (hj : l[j]? = some (u, v2)) (hR : RR (.returned (.tuple #[v, v2])) w) : QX (bodyPostM Fence.wide 3 P fn RR) .ret ⟨n, []⟩ l w := fun a hF => by
  show LeavesInM _ _ _ _ _ _ a.defers _ _
  rw [hF.defers]
  exact ⟨_, results_tmp2 hf .., by rw [hF.at i hi, hF.at j hj]; exact hR⟩
theorem qxDRet2 {t u : Tmp} {v v2 : Value} {D : Nat} (i j c : Nat) (hH : HH w0 R Hs w) (hc : Hs[c]? = some [(D, .deferred (some []))]) (hf : fn.results = #[.tmp t, .tmp u]) (hi : l[i]? = some (t, v)) (hj : l[j]? = some (u, v2))
    (hR : ∀ w', HH w0 R (Hs.set c [(D, .deferred none)]) w' → RR (.returned (.tuple #[v, v2])) w') : QX (bodyPostM Fence.wide 3 P fn RR) .ret ⟨n, [{ target := .collected D, args := #[] }]⟩ l w := fun a hF => by
  have hK := hH.blk c hc
  have hD := hH.lt c hc (x := (D, .deferred (some []))) (by simp)
  show LeavesInM _ _ _ _ _ _ a.defers _ _
  rw [hF.defers]
  refine ⟨by simp, .inl ⟨_, _, rfl, run_takeDeferred hK, ?_⟩⟩
  refine ⟨_, results_tmp2 hf .., ?_⟩
  rw [hF.at i hi, hF.at j hj]
  refine hR _ (hH.turn c hc (E' := [(D, .deferred none)]) ?_)
  have h1 : Hold w [D] [(D, .deferred (some []))] w := Hold.init1 hK
  exact h1.upd 0 rfl rfl rfl rfl (by simp) (World.putObj_heap_same hD) fun k _ hk => World.putObj_heap_other hk
end

/-! ### A round -/
section
variable {ops : Array Oper} {Q : Exit → Act → World → Prop} {md : Region.Mode} {n l : Nat}
theorem anyIn_of (hno : ¬ LetsOut Q) (hd : ops.all noDefer = true) : ∀ (m : Nat) (L : Array Bool) (a : Act) (w : World), wpAny P md ops Q m L a w → wpAnyIn (Fence.wide.inRound l) n P md ops Q m L a w
  | 0, _, _, _, h => h
  | m + 1, L, a, w, h => ⟨h.1, fun i hi => by
    have h2 := h.2 i hi
    unfold wpOp at h2
    unfold wpOpIn
    cases ho : ops[i]? with
    | none => rw [ho] at h2; exact anyIn_of hno hd m _ _ _ h2
    | some o =>
      rw [ho] at h2
      have hdo : noDefer o = true := (Array.all_eq_true_iff_forall_mem.1 hd) _ (Array.mem_of_getElem? ho)
      dsimp only at h2 ⊢
      split
      · rename_i hw
        rw [if_pos hw] at h2
        rcases h2 with h2 | ⟨_, h2⟩
        · exact Oper.wpIn_mono (fun a' w' hk => anyIn_of hno hd m _ a' w' hk) (opIn_of hdo h2)
        · exact (hno h2).elim
      · rename_i hw
        rw [if_neg hw] at h2
        exact ⟨fun _ _ => trivial, anyIn_of hno hd m _ _ _ h2⟩⟩
/-- A region that draws its order, in a round. -/
theorem regionX_in {id : Nat} {ls : List Oper} {sz : Sz} {sl : Slots} {a : Act} {K : Act → World → Prop} (hm : P.follows .mixedOrders = true) (hok : okAll .any ls.toArray = true) (hd : ls.all noDefer = true) (hF : Fr sz sl a)
    (h : RX P ls.toArray (Only K) ls.length [] (Array.replicate ls.length false) sz sl w.drew) : (Code.region id ls.toArray true).wpIn (Fence.wide.inRound l) n P (Only K) a w := by
  refine wpIn_region_any hm (anyIn_of (fun ⟨_, _, h⟩ => h) (by simpa using hd) _ _ _ _ ?_)
  simpa using wpX_any _ (h hok (by simpa using Closed.none .any ls.toArray) (fun _ h => (by cases h)) a hF)
end

/-! ### The range -/
theorem Hold.grown {L : List (Nat × Obj)} {row : Option Nat} (h : Hold w0 R L w) (hg : w.grownBy w' row) (hr : ∀ r, row = some r → w0.heap.size ≤ r ∧ ∀ x ∈ L, x.1 ≠ r) : Hold w0 R L w' :=
  ⟨hg.os.trans h.os, hg.tape.trans h.tape, hg.output.trans h.output, Nat.le_trans h.size hg.size, fun x hx => (hg.block x.1 (h.lt hx) (fun e => (hr _ e.symm).2 x hx rfl)).trans (h.blk x hx), h.ne, h.own,
    fun k hk hkR => (hg.block k (Nat.lt_of_lt_of_le hk h.size) (fun e => by have := (hr _ e.symm).1; omega)).trans (h.frame k hk hkR)⟩
theorem Hold.more {L : List (Nat × Obj)} {g : Nat} {o : Obj} (h : Hold w0 R L w) (hb : w.heap[g]? = some o) (hne : ∀ x ∈ L, x.1 ≠ g) (ho : w0.heap.size ≤ g) : Hold w0 R (L ++ [(g, o)]) w := by
  refine ⟨h.os, h.tape, h.output, h.size, fun x hx => ?_, List.pairwise_append.2 ⟨h.ne, by simp, fun x hx y hy => ?_⟩, fun x hx => ?_, h.frame⟩
  · rcases List.mem_append.1 hx with hx | hx
    · exact h.blk x hx
    · obtain rfl : x = (g, o) := by simpa using hx
      exact hb
  · obtain rfl : y = (g, o) := by simpa using hy
    exact hne x hx
  · rcases List.mem_append.1 hx with hx | hx
    · exact h.own x hx
    · obtain rfl : x = (g, o) := by simpa using hx
      exact .inl ho
abbrev AllCells (L : List (Nat × Obj)) : Prop := ∀ x ∈ L, x.2.isCells = true
theorem not_cells_ne {L : List (Nat × Obj)} {g : Nat} {o : Obj} (h : Hold w0 R L w) (hc : AllCells L) (ho : w.heap[g]? = some o) (hn : o.isCells = false) : ∀ x ∈ L, x.1 ≠ g := fun x hx e => by
  have h1 := h.blk x hx
  have h2 := hc x hx
  rw [e, ho] at h1
  cases h1
  rw [hn] at h2
  cases h2
theorem cxRange {α : Type} {Q : Exit → Act → World → Prop} {n : Nat} {l : Slots} {k p d ida : Nat} {body : Code} {o : Oper} {gf : Nat} {lb : Array Value} {encs : α → Value} {Kp : World → World → Prop} {S : List α → Prop} {N : Nat} {E0 : Hl}
    (I : List α → Hl → Prop) (j : Nat) (hH : HH w0 R (Hs ++ [E0]) w) (hj : l[j]? = some (k, .func (.func gf) #[] lb)) (eg : ∀ args w, (callFunc gf args).run P w = .ok (.enter gf args) w)
    (hseq : SeqStopsK Fence.wide 2 P gf lb (fun x => #[encs x]) Kp S (fun _ => True) N w) (hKt : ∀ {A B C : World}, Kp A B → Kp B C → Kp A C)
    (hKb : ∀ (W : World) (l : Nat) (o o' : Obj), w.heap.size ≤ l → W.heap[l]? = some o → o.isCells = false → o.isWalk = false → Kp W (W.putObj l o'))
    (hKp : ∀ W W', Has Hs.flatten W → Has Hs.flatten W' → Kp W W') (hcs : AllCells Hs.flatten) (hIc : ∀ pre E, I pre E → AllCells E) (h0 : I [] E0)
    (hpl : keysB p l = true) (hpn : p < n) (ho : ∀ (a : Act) W v, a.eval (.tmp p) = v → (execOp a.eval o).run P W = .ok (.value v) W) (hod : o.dst = some d) (hog : ∀ a : Act, Region.wanted o (yielded [o].toArray a.tmps) = true) (hnd : noDefer o = true) (hdl : keysB d l = true) (hdn : d < n)
    (hbody : ∀ pre x E W lp, I pre E → pre.length < N → HH w0 R (Hs ++ [E]) W → ∀ a, Fr ⟨n, []⟩ ((d, encs x) :: l) a → body.wpIn (Fence.wide.inRound lp) 1 P (Only fun _ W' => ∃ E', I (pre ++ [x]) E' ∧ Hold W (bks E) E' W') a W)
    (hdone : ∀ xs E D W, S xs → I xs E → HH w0 R (Hs ++ [E] ++ [[(D, .deferred (some []))]]) W → QX Q .normal ⟨n, [{ target := .collected D, args := #[] }]⟩ l W) :
    CX P Q (.rangeFunc (.tmp k) #[p] (.region ida [o].toArray false) body) ⟨n, []⟩ l w := by
  intro a hF
  have hsz : w0.heap.size ≤ w.heap.size := Hold.size hH
  have hall : ∀ {pre E}, I pre E → AllCells (Hs ++ [E]).flatten := fun hi x hx => by
    rw [List.flatten_append] at hx
    rcases List.mem_append.1 hx with hx | hx
    · exact hcs x hx
    · exact hIc _ _ hi x (by simpa using hx)
  have hhas : ∀ {E W}, HH w0 R (Hs ++ [E]) W → Has Hs.flatten W := fun hh => (HH.hasAll hh).of (flatten_sub (List.sublist_append_left _ _))
  refine (wpIn_wide (n := 3)).1 ?_
  refine wpIn_rangeFunc_ownH (α := α) (w0 := w) rfl (by omega) (gf := gf) (lb := lb) (hF.ev j hj) trivial eg hseq hKt hKb (Below.refl _ _) (fun _ => rfl)
    (fun pre W => ∃ E, I pre E ∧ HH w0 R (Hs ++ [E]) W) (fun _ _ _ => False)
    (fun s A B row ⟨E, hi, hh⟩ hg hr => ⟨E, hi, Hold.grown hh hg fun r e => by
      obtain ⟨h1, o, ho, hc⟩ := hr r e
      exact ⟨Nat.le_trans hsz h1, not_cells_ne hh (hall hi) ho hc⟩⟩)
    (fun _ _ _ _ _ hs _ _ => hs) ⟨E0, h0, hH⟩ (fun x a' _ => Fr ⟨n, []⟩ ((d, encs x) :: l) a') (fun x a' => ownFrom_pure _ _) ?assign ?body ?done ?stop
  case assign =>
    rintro lp pre x W K ⟨E, hi, hh⟩ hK
    have hF1 : Fr ⟨n, []⟩ ((p, encs x) :: l) (a.put (some p) (encs x)) := hF.put _ (kA hpl) hpn
    have e1 : ({ tmps := (#[p].zip #[encs x]).foldl (fun t (p, v) => t.setIfInBounds p v) a.tmps, defers := [] } : Act) = a.put (some p) (encs x) := by
      have := hF.defers
      cases a
      simp only at this
      subst this
      simp [Act.put]
    rw [e1]
    refine region_in (by simpa using hnd) fun K' hK' => ?_
    refine stepV hF1 hod (hog _) (ho _ _ _ (hF1.ev 0 rfl)) (l' := l) ⟨List.sublist_cons_self _ _, hdl⟩ hdn fun a' hF2 => ?_
    exact hK' _ _ (hK _ _ (KeepsFrom.refl _ _) (hKp _ _ (hhas hh) (hhas hh)) ⟨E, hi, hh⟩ hF2)
  case body =>
    rintro lp pre x a' W hlp hrec ⟨E, hi, hh⟩ hax hlen
    refine wpIn_mono (hbody pre x E W lp hi hlen hh a' hax) ?_
    rintro e a3 W3 hp
    cases e with
    | normal =>
      obtain ⟨E', hi', hE⟩ := hp
      have hh' : HH w0 R (Hs ++ [E']) W3 := by
        have h2 := hh.turn Hs.length (by simp) hE
        simpa using h2
      refine ⟨⟨hE.size, fun k o hk hko hc => ?_⟩, hKp _ _ (hhas hh) (hhas hh'), E', hi', hh'⟩
      refine (hE.frame k (Array.getElem?_eq_some_iff.1 hko).1 fun hm => ?_).trans hko
      obtain ⟨y, hy, e⟩ := List.mem_map.1 hm
      exact not_cells_ne (L := E) (Has.hold (hh.has Hs.length (by simp))) (hIc _ _ hi) hko hc y hy e
    | _ => exact hp.elim
  case done =>
    rintro D xs W hD hS ⟨E, hi, hh⟩ hK
    refine hdone xs E D W hS hi ?_ _ ⟨hF.size, by simp [hF.defers], hF.get⟩
    have h2 := Hold.more hh hK (not_cells_ne hh (hall hi) hK rfl) (Nat.le_trans hsz hD)
    unfold HH
    rw [List.flatten_append]
    simpa using h2
  case stop =>
    rintro D c pre W _ _ h _
    exact h.elim
end
end Go.Proofs.YtadbpmcmdcnlfaaDoor

namespace Go.Proofs.YtadbpmcmdcnlfaaDoor
open Go Go.RowKit
set_option maxRecDepth 100000

theorem enc_eqP (k l : List UInt8) (b : Bool) (o : List UInt8) (ho : o = (headK k ++ [10] ++ [10]) ++ linesT false (cutM (b64 l) 64 (nP l))) : ((o ++ (if b then sumL l ++ [10] else [])) ++ footK k) ++ [10] = encT k l b := by
  subst ho
  cases b <;> simp [encT, armL, soL, linesT, eol]
theorem bu_cells {tb tu : TypeId} {g : Nat} {l : List UInt8} {E : Hl} (h : BuAt tb tu g l E) : AllCells E := by
  obtain ⟨p, A, c, F, _, _, rfl, hO⟩ := h
  have hF : AllCells F := by
    rcases hO.cases with ⟨_, _, rfl⟩ | ⟨g', cap, cur, _, rfl, _⟩
    · intro x hx; cases hx
    · intro x hx
      obtain rfl := List.mem_singleton.1 hx
      rfl
  intro x hx
  simp only [List.flatten_cons, List.flatten_nil, List.append_nil, List.cons_append, List.nil_append, List.mem_cons] at hx
  rcases hx with rfl | hx
  · rfl
  · exact hF x hx
theorem part_vu {w : World} {A : Option Addr} {c b off i : Nat} {l : List UInt8} (h : Vu cByte w A l.length c l) (hA : 0 < l.length → A = some ⟨b, off, none⟩) (hi : 48 * i < l.length) :
    Vu cByte w (some ⟨b, off + 48 * i, none⟩) ((l.drop (48 * i)).take 48).length ((l.drop (48 * i)).take 48).length ((l.drop (48 * i)).take 48) := by
  refine ⟨rfl, Nat.le_refl _, fun h => (by cases h), fun _ => ⟨b, _, rfl, ?_⟩⟩
  obtain ⟨b', off', e, hL⟩ := h.open (by omega)
  rw [hA (by omega)] at e
  cases e
  intro j x hx
  have h1 : l[48 * i + j]? = some x := by
    rw [List.getElem?_take] at hx
    split at hx
    · rw [List.getElem?_drop] at hx; exact hx
    · cases hx
  have h2 := hL _ x h1
  have e : off + 48 * i + j * cByte.sz = off + (48 * i + j) * cByte.sz := by show off + 48 * i + j * 1 = off + (48 * i + j) * 1; omega
  rw [e]
  exact h2
theorem vu_lt {w : World} {A : Option Addr} {n c b off : Nat} {l : List UInt8} (h : Vu cByte w A n c l) (hA : 0 < n → A = some ⟨b, off, none⟩) (hn : 0 < n) : b < w.heap.size := by
  obtain ⟨b', off', e, _, hb, _⟩ := h.blk (R := []) (by decide) (Off.nil _ _) hn
  rw [hA hn] at e
  cases e
  exact hb
theorem part_len {l : List UInt8} {i : Nat} : ((l.drop (48 * i)).take 48).length = plen l.length i := by
  rw [List.length_take, List.length_drop]; rfl
theorem enc_next (l : List UInt8) (hd : List UInt8) (pre : List (Parts l.length)) (x : Parts l.length) : hd ++ linesT false (pre.map fun y => pieceW (b64 l) 64 y.1) ++ b64 ((l.drop (48 * x.1)).take 48) ++ [10] = hd ++ linesT false ((pre ++ [x]).map fun y => pieceW (b64 l) 64 y.1) := by
  rw [List.map_append, linesT_append, b64_piece l x.2]
  simp [linesT, eol]
theorem chunk_d (A : Option Addr) (n c : Nat) : Does Tryd.prog 21 #[.slice A n c, .int .i64 48] [] (fun _ => True) (fun v E' => ∃ B, v = .func (.func 37) #[] #[.pointer (some ⟨B, 0, none⟩), .pointer (some ⟨B + 1, 0, none⟩)] ∧ E' = [bl B 22 #[.slice A n c], bl (B + 1) 3 #[.int .i64 48]]) := fun w _ _ =>
  (chunk_c A n c w).mono fun e w' ⟨h1, h2⟩ => ⟨_, _, h1, ⟨w.heap.size, rfl, rfl⟩, by
    subst h2
    have h3 := ((Hold.init w).new (.cells #[.slice A n c] 22)).new (.cells #[.int .i64 48] 3)
    rw [World.size_alloc] at h3
    exact h3⟩

set_option maxHeartbeats 8000000 in
theorem wline_c (m : List UInt8) (g : Nat) (l : List UInt8) (E : Hl) (hB : BuAt 43 5 g l E) (hn : l.length + m.length + 1 ≤ 140737488355328) : Does Tryd.prog 18 #[(.string (strL m)), (.pointer (some ⟨g, 0, none⟩))] E (fun _ => True) (fun v E' => v = .tuple #[] ∧ BuAt 43 5 g (l ++ m ++ [10]) E') := by
  refine does_of (fn := Tryd.f18) Tryd.func18 rfl Tryd.ntmps18 (Nat.le_of_ble_eq_true rfl) rfl ?_
  intro w0 hH hR
  refine cxSeq ?_
  refine cxReg ?_
  refine pxV (v := (.string (strL m))) (fun _ _ hF => opMove rfl (hF.ev 0 rfl)) rfl (fun _ _ => rfl) (kM [false, true] rfl rfl) (by decide) ?_
  refine pxE 0 hH rfl (fun _ hF => Does.small (bu_str g l E hB m (by first | omega | (simp only [List.length_append]; omega))) (fun w => opCall rfl Tryd.func19 rfl rfl (Evs.cons (v := (.pointer (some ⟨g, 0, none⟩))) (hF.ev 1 rfl) (Evs.cons (v := (.string (strL m))) (hF.ev 0 rfl) Evs.nil)) w)) trivial rfl (fun _ _ => rfl) (kM [false, true] rfl rfl) (by decide) ?_
  clear hH
  rintro _ E1 w ⟨rfl, hB2⟩ hH
  replace hH : HH w0 (bks E) [E1] w := hH
  refine pxEnd ?_
  refine qxThen ?_
  refine cxReg ?_
  refine pxE 0 hH rfl (fun _ hF => Does.small (bu_byte g (l ++ m) E1 hB2 (10 : UInt8) (by first | omega | (simp only [List.length_append]; omega))) (fun w => opCall rfl Tryd.func20 rfl rfl (Evs.cons (v := (.pointer (some ⟨g, 0, none⟩))) (hF.ev 1 rfl) (Evs.cons (v := (.int .u8 10)) rfl Evs.nil)) w)) trivial rfl (fun _ _ => rfl) (kM [false, false] rfl rfl) (by decide) ?_
  clear hH
  rintro _ E3 w ⟨rfl, hB4⟩ hH
  replace hH : HH w0 (bks E) [E3] w := hH
  refine pxEnd ?_
  refine qxEnd0 rfl ?_
  exact ⟨_, _, rfl, ⟨rfl, hB4⟩, hH.out1 [true] rfl⟩

set_option maxHeartbeats 8000000 in
theorem encode_c (k : List UInt8) (hk : k.length ≤ 140737488355328) (l : List UInt8) (A : Option Addr) (c : Nat) (hl : l.length ≤ 140737488355328) (b : Bool) : Pure Tryd.prog 8 #[(.string (strL k)), (.slice A l.length c), (.bool (b))] (fun w => Vu cByte w A l.length c l) (.tuple #[.string (strL (encV k l b)), .int .i64 ((encE k l : Nat) : Int)]) := by
  refine pure_ofM (fn := Tryd.f8) Tryd.func8 rfl Tryd.ntmps8 (Nat.le_of_ble_eq_true rfl) rfl ?_
  intro w0 hH hR
  have hbe : begL.length = 15 := rfl
  have hda : dasL.length = 5 := rfl
  have hen : endL.length = 13 := rfl
  have hcl := hR.len
  have hcc := hR.cap
  refine cxSeq ?_
  refine cxReg ?_
  refine pxV (v := (.string (strL ([])))) (fun _ _ hF => opAssign rfl rfl) rfl (fun _ _ => rfl) (kA rfl) (by decide) ?_
  refine pxV (v := (.int .i64 0)) (fun _ _ hF => opAssign rfl rfl) rfl (fun _ _ => rfl) (kM [false, true, true, true] rfl rfl) (by decide) ?_
  refine pxEnd ?_
  refine qxThen ?_
  refine cxSeq ?_
  refine cxSeq ?_
  refine cxReg ?_
  refine pxV (v := (.string (strL k))) (fun _ _ hF => opMove rfl (hF.ev 1 rfl)) rfl (fun _ _ => rfl) (kM [false, true, true, true] rfl rfl) (by decide) ?_
  refine pxV (v := (.string (strL (begL ++ k)))) (fun _ _ hF => opAddL (l := begL) (m := k) (r := (begL ++ k)) rfl rfl (hF.ev 0 rfl) (by first | omega | (simp only [List.length_append]; omega) | (simp only [List.length_append, List.length_cons, List.length_nil]; omega)) (rfl)) rfl (fun _ _ => rfl) (kM [false, true, true, true] rfl rfl) (by decide) ?_
  refine pxV (v := (.string (strL (headK k)))) (fun _ _ hF => opAddL (l := (begL ++ k)) (m := dasL) (r := (headK k)) rfl (hF.ev 0 rfl) rfl (by first | omega | (simp only [List.length_append]; omega) | (simp only [List.length_append, List.length_cons, List.length_nil]; omega)) (rfl)) rfl (fun _ _ => rfl) (kM [false, true, true, true] rfl rfl) (by decide) ?_
  refine pxM hH (fun _ hF => Does.small ((kind_c (headK k)).does) (fun w => opCall rfl Tryd.func17 rfl rfl (Evs.cons (v := (.string (strL (headK k)))) (hF.ev 0 rfl) Evs.nil) w)) trivial rfl (fun _ _ => rfl) (kM [false, true, true, true] rfl rfl) (by decide) ?_
  clear hH
  rintro _ _ w ⟨rfl, rfl⟩ hH
  replace hH : HH w0 [] [] w := hH.unpad
  refine pxV (v := (.bool (decide (¬ isK k)))) (fun _ _ hF => opEqL (l := (kindF (headK k))) (m := []) rfl (hF.ev 0 rfl) rfl (kindF_no k)) rfl (fun _ _ => rfl) (kM [false, true, true, true] rfl rfl) (by decide) ?_
  refine pxEnd ?_
  refine qxThen ?_
  refine cxP 0 rfl rfl (fun hc1 => ?_) (fun hc1 => ?_)
  · refine cxSeq ?_
    refine cxReg ?_
    refine pxV (v := (.string (strL ([])))) (fun _ _ hF => opAssign rfl rfl) rfl (fun _ _ => rfl) (kM [false, false, false, false] rfl rfl) (by decide) ?_
    refine pxV (v := (.int .i64 1)) (fun _ _ hF => opAssign rfl rfl) rfl (fun _ _ => rfl) (kA rfl) (by decide) ?_
    refine pxEnd ?_
    refine qxThen ?_
    refine cxRet ?_
    refine qxThenR ?_
    refine qxMRet2 1 0 rfl rfl rfl ?_
    exact ⟨by rw [(enc_bad hc1 l b).1, (enc_bad hc1 l b).2]; rfl, hH.toBelow⟩
  · refine cxSkip ?_
    refine qxThen ?_
    refine cxSeq ?_
    refine cxSeq ?_
    refine cxReg ?_
    refine pxV (v := (.slice A l.length c)) (fun _ _ hF => opMove rfl (hF.ev 2 rfl)) rfl (fun _ _ => rfl) (kM [false, true, true, true] rfl rfl) (by decide) ?_
    refine pxV (v := (.int .i64 (((l.length) : Nat) : Int))) (fun _ _ hF => opLen (e := 5) rfl (by kernel_rfl) (hF.ev 0 rfl)) rfl (fun _ _ => rfl) (kM [false, true, true, true] rfl rfl) (by decide) ?_
    refine pxV (v := (.bool (decide (l.length > 20000)))) (fun _ _ hF => opGtr rfl (hF.ev 0 rfl) rfl (dc (by omega))) rfl (fun _ _ => rfl) (kM [false, true, true, true] rfl rfl) (by decide) ?_
    refine pxEnd ?_
    refine qxThen ?_
    refine cxP 0 rfl rfl (fun hc2 => ?_) (fun hc2 => ?_)
    · refine cxSeq ?_
      refine cxReg ?_
      refine pxV (v := (.string (strL ([])))) (fun _ _ hF => opAssign rfl rfl) rfl (fun _ _ => rfl) (kM [false, false, false, false] rfl rfl) (by decide) ?_
      refine pxV (v := (.int .i64 6)) (fun _ _ hF => opAssign rfl rfl) rfl (fun _ _ => rfl) (kA rfl) (by decide) ?_
      refine pxEnd ?_
      refine qxThen ?_
      refine cxRet ?_
      refine qxThenR ?_
      refine qxMRet2 1 0 rfl rfl rfl ?_
      exact ⟨by rw [(enc_long (Decidable.not_not.1 hc1) hc2 b).1, (enc_long (Decidable.not_not.1 hc1) hc2 b).2]; rfl, hH.toBelow⟩
    · refine cxSkip ?_
      refine qxThen ?_
      refine cxSeq ?_
      refine cxReg ?_
      refine pxM hH (fun _ hF => smAlloc (z := (.agg #[(.pointer none), (.slice none 0 0)])) rfl (by kernel_rfl) rfl) trivial rfl (fun _ _ => rfl) (kM [false, true, true, true] rfl rfl) (by decide) ?_
      clear hH
      rintro _ _ w ⟨g3, rfl, rfl⟩ hH
      replace hH : HH w0 [] [[bl g3 43 #[(.pointer none), (.slice none 0 0)]]] w := hH
      refine pxEnd ?_
      refine qxThen ?_
      refine cxSeq ?_
      refine cxReg ?_
      refine pxV (v := (.func (.func 18) #[] #[(.pointer (some ⟨g3, 0, none⟩))])) (fun _ _ hF => opMakeFunc rfl (Evs.cons (v := (.pointer (some ⟨g3, 0, none⟩))) (hF.ev 0 rfl) Evs.nil)) rfl (fun _ _ => rfl) (kA rfl) (by decide) ?_
      refine pxM hH (fun _ hF => smAlloc (z := .nilFunc) rfl (by kernel_rfl) rfl) trivial rfl (fun _ _ => rfl) (kA rfl) (by decide) ?_
      clear hH
      rintro _ _ w ⟨g4, rfl, rfl⟩ hH
      replace hH : HH w0 [] [[bl g3 43 #[(.pointer none), (.slice none 0 0)]], [bl g4 49 #[.nilFunc]]] w := hH
      refine pxE0 1 hH rfl (fun _ hF => smStore (v := (.func (.func 18) #[] #[(.pointer (some ⟨g3, 0, none⟩))])) rfl (hF.ev 0 rfl) (hF.ev 1 rfl) (by kernel_rfl) (ltb rfl) rfl rfl) trivial rfl (fun _ _ => rfl) ?_
      clear hH
      rintro _ _ w rfl hH
      replace hH : HH w0 [] [[bl g3 43 #[(.pointer none), (.slice none 0 0)]], [bl g4 49 #[(.func (.func 18) #[] #[(.pointer (some ⟨g3, 0, none⟩))])]]] w := hH
      refine pxEnd ?_
      refine qxThen ?_
      refine cxSeq ?_
      have hK : isK k := Decidable.not_not.1 hc1
      have hk16 := isK_len16 hK
      have hdk : (headK k).length ≤ 36 := by simp only [headK, begL, dasL, List.length_append, List.length_cons, List.length_nil]; omega
      have hfk : (footK k).length ≤ 36 := by simp only [footK, endL, dasL, List.length_append, List.length_cons, List.length_nil]; omega
      have hLl := linesT_len false (cutM (b64 l) 64 (nP l)) 64 (fun x hx => by obtain ⟨i, _, rfl⟩ := List.mem_map.1 hx; rw [piece_len]; omega)
      have hcl2 : (cutM (b64 l) 64 (nP l)).length = nP l := by simp [cutM]
      rw [hcl2] at hLl
      have hnP := (nP_cut l).2.2
      have hbl := b64_len l
      have hsl := sumL_len l
      refine cxReg ?_
      refine pxS (v := (.func (.func 18) #[] #[(.pointer (some ⟨g3, 0, none⟩))])) (fun w => w.heap[g4]? = some (.cells #[(.func (.func 18) #[] #[(.pointer (some ⟨g3, 0, none⟩))])] 49 (0, 0))) (hH.blk 1 rfl) (fun _ _ hF hS => opLoadK hS rfl (hF.ev 0 rfl) (by kernel_rfl) rfl) rfl (fun _ _ => rfl) (kM [true, false, true, true, true, true] rfl rfl) (by decide) ?_
      refine pxV (v := (.string (strL k))) (fun _ _ hF => opMove rfl (hF.ev 3 rfl)) rfl (fun _ _ => rfl) (kA rfl) (by decide) ?_
      refine pxV (v := (.string (strL (begL ++ k)))) (fun _ _ hF => opAddL (l := begL) (m := k) (r := (begL ++ k)) rfl rfl (hF.ev 0 rfl) (by first | omega | (simp only [List.length_append]; omega) | (simp only [List.length_append, List.length_cons, List.length_nil]; omega)) (rfl)) rfl (fun _ _ => rfl) (kM [false, true, true, true, true, true, true] rfl rfl) (by decide) ?_
      refine pxV (v := (.string (strL (headK k)))) (fun _ _ hF => opAddL (l := (begL ++ k)) (m := dasL) (r := (headK k)) rfl (hF.ev 0 rfl) rfl (by first | omega | (simp only [List.length_append]; omega) | (simp only [List.length_append, List.length_cons, List.length_nil]; omega)) (rfl)) rfl (fun _ _ => rfl) (kM [false, true, true, true, true, true, true] rfl rfl) (by decide) ?_
      obtain ⟨E5, hE6, hB7⟩ : ∃ E, E = [bl g3 43 #[(.pointer none), (.slice none 0 0)]] ∧ BuAt 43 5 g3 ([]) E := ⟨_, rfl, BuAt.new _ _ _⟩
      replace hH : HH w0 [] [E5, [bl g4 49 #[(.func (.func 18) #[] #[(.pointer (some ⟨g3, 0, none⟩))])]]] w := hH.cast (by rw [hE6])
      refine pxE 0 hH rfl (fun _ hF => Does.small (wline_c (headK k) g3 ([]) E5 hB7 (by first | omega | (simp only [List.length_nil]; omega) | (simp only [List.length_append]; omega) | (simp only [List.length_append, List.length_cons, List.length_nil]; omega))) (fun w => opCallV (cp := [(.pointer (some ⟨g3, 0, none⟩))]) rfl (hF.ev 1 rfl) Tryd.func18 rfl rfl (Evs.cons (v := (.string (strL (headK k)))) (hF.ev 0 rfl) Evs.nil) w)) trivial rfl (fun _ _ => rfl) (kM [false, false, true, true, true, true, true] rfl rfl) (by decide) ?_
      clear hH
      rintro _ E8 w ⟨rfl, hB9⟩ hH
      replace hH : HH w0 [] [E8, [bl g4 49 #[(.func (.func 18) #[] #[(.pointer (some ⟨g3, 0, none⟩))])]]] w := hH
      refine pxEnd ?_
      refine qxThen ?_
      refine cxSeq ?_
      refine cxReg ?_
      refine pxS (v := (.func (.func 18) #[] #[(.pointer (some ⟨g3, 0, none⟩))])) (fun w => w.heap[g4]? = some (.cells #[(.func (.func 18) #[] #[(.pointer (some ⟨g3, 0, none⟩))])] 49 (0, 0))) (hH.blk 1 rfl) (fun _ _ hF hS => opLoadK hS rfl (hF.ev 1 rfl) (by kernel_rfl) rfl) rfl (fun _ _ => rfl) (kM [false, true, true, true, true, true] rfl rfl) (by decide) ?_
      refine pxE 0 hH rfl (fun _ hF => Does.small (wline_c ([]) g3 ([] ++ (headK k) ++ [10]) E8 hB9 (by first | omega | (simp only [List.length_nil]; omega) | (simp only [List.length_append]; omega) | (simp only [List.length_append, List.length_cons, List.length_nil]; omega))) (fun w => opCallV (cp := [(.pointer (some ⟨g3, 0, none⟩))]) rfl (hF.ev 0 rfl) Tryd.func18 rfl rfl (Evs.cons (v := (.string (strL ([])))) rfl Evs.nil) w)) trivial rfl (fun _ _ => rfl) (kM [false, true, true, true, true, true] rfl rfl) (by decide) ?_
      clear hH
      rintro _ E10 w ⟨rfl, hB11⟩ hH
      replace hH : HH w0 [] [E10, [bl g4 49 #[(.func (.func 18) #[] #[(.pointer (some ⟨g3, 0, none⟩))])]]] w := hH
      refine pxEnd ?_
      refine qxThen ?_
      refine cxSeq ?_
      refine cxSeq ?_
      refine cxReg ?_
      refine pxV (v := (.slice A l.length c)) (fun _ _ hF => opMove rfl (hF.ev 4 rfl)) rfl (fun _ _ => rfl) (kM [false, true, true, true, true, true] rfl rfl) (by decide) ?_
      refine pxM hH (fun _ hF => Does.small (chunk_d A l.length c) (fun w => opCall rfl Tryd.func21 rfl rfl (Evs.cons (v := (.slice A l.length c)) (hF.ev 0 rfl) (Evs.cons (v := (.int .i64 48)) rfl Evs.nil)) w)) trivial rfl (fun _ _ => rfl) (kM [false, true, true, true, true, true] rfl rfl) (by decide) ?_
      clear hH
      rintro _ _ w ⟨B, rfl, rfl⟩ hH
      replace hH : HH w0 [] [E10, [bl g4 49 #[(.func (.func 18) #[] #[(.pointer (some ⟨g3, 0, none⟩))])]], [bl B 22 #[.slice A l.length c], bl (B + 1) 3 #[.int .i64 48]]] w := hH
      refine pxEnd ?_
      refine qxThen ?_
      refine cxBlock ?_
      obtain ⟨hd, hhd⟩ : ∃ hd, hd = (([] ++ (headK k) ++ [10]) ++ [] ++ [10]) := ⟨_, rfl⟩
      rw [← hhd] at hB11
      have hdl : hd.length ≤ 40 := by rw [hhd]; simp only [List.length_append, List.length_cons, List.length_nil]; omega
      have hH2 : HH w0 [] ([[bl B 22 #[.slice A l.length c], bl (B + 1) 3 #[.int .i64 48]]] ++ [bl g4 49 #[(.func (.func 18) #[] #[(.pointer (some ⟨g3, 0, none⟩))])] :: E10]) w := hH.perm (by
        have h1 : List.Perm (E10 ++ bl g4 49 #[(.func (.func 18) #[] #[(.pointer (some ⟨g3, 0, none⟩))])] :: [bl B 22 #[.slice A l.length c], bl (B + 1) 3 #[.int .i64 48]]) ([bl B 22 #[.slice A l.length c], bl (B + 1) 3 #[.int .i64 48]] ++ bl g4 49 #[(.func (.func 18) #[] #[(.pointer (some ⟨g3, 0, none⟩))])] :: E10) := (List.perm_middle.trans (List.Perm.cons _ List.perm_append_comm)).trans List.perm_middle.symm
        simpa only [List.flatten_cons, List.flatten_nil, List.append_nil, List.cons_append, List.nil_append] using h1)
      obtain ⟨b0, off, hA⟩ : ∃ b off, 0 < l.length → A = some ⟨b, off, none⟩ := by
        by_cases h : 0 < l.length
        · obtain ⟨b, off, h1, _⟩ := hR.open h; exact ⟨b, off, fun _ => h1⟩
        · exact ⟨0, 0, fun h' => absurd h' h⟩
      have hcB1 : Blk w B 22 #[.slice A l.length c] := (hH2.has 0 rfl).blk (bl B 22 #[.slice A l.length c]) (by simp)
      have hcB2 : Blk w (B + 1) 3 #[.int .i64 48] := (hH2.has 0 rfl).blk (bl (B + 1) 3 #[.int .i64 48]) (by simp)
      have hB1 := hcB2.lt
      clear hH
      refine cxRange (α := Parts l.length) (S := fun ys => ys.map (·.1) = List.range ((l.length + 47) / 48)) (N := (l.length + 47) / 48) (Kp := KeptAt B) (encs := fun x => partV b0 off l.length x.1) (fun (pre : List (Parts l.length)) E => ∃ Eb, E = bl g4 49 #[(.func (.func 18) #[] #[(.pointer (some ⟨g3, 0, none⟩))])] :: Eb ∧ BuAt 43 5 g3 (hd ++ linesT false ((pre).map fun y => pieceW (b64 l) 64 y.1)) Eb)
        0 hH2 rfl (enters_of Tryd.func37 (by kernel_rfl) rfl) (chunk_stops 2 B b0 off l.length c A w (by omega) hA hcc (by omega) hcB1 hcB2) (fun h k => h.trans k)
        (fun W l' o o' hl _ _ _ => ⟨World.putObj_heap_other (by omega), World.putObj_heap_other (by omega)⟩)
        (fun W W' h h' => ⟨(h'.blk (bl B 22 #[.slice A l.length c]) (by simp)).trans (h.blk (bl B 22 #[.slice A l.length c]) (by simp)).symm, (h'.blk (bl (B + 1) 3 #[.int .i64 48]) (by simp)).trans (h.blk (bl (B + 1) 3 #[.int .i64 48]) (by simp)).symm⟩)
        (fun x hx => by simp only [List.flatten_cons, List.flatten_nil, List.append_nil, List.mem_cons, List.not_mem_nil, or_false] at hx; rcases hx with rfl | rfl <;> rfl)
        (fun pre E ⟨Eb, e, hB⟩ x hx => by subst e; exact (List.mem_cons.1 hx).elim (fun h => by rw [h]; rfl) (fun h => bu_cells hB x h))
        ⟨_, rfl, by simpa [linesT] using hB11⟩ rfl (by decide) (fun a W v h => opAssign rfl h) rfl (fun _ => rfl) rfl rfl (by decide) ?_ ?_
      · rintro pre x E W lp ⟨Eb, rfl, hB⟩ hlen hH a hF
        have hV := part_vu (hH.vu hR (by decide) (Off.nil _ _)) hA x.2
        have hoff : b0 ∉ bks (bl g4 49 #[(.func (.func 18) #[] #[(.pointer (some ⟨g3, 0, none⟩))])] :: Eb) := hH.fresh 1 rfl (vu_lt hR hA (by have := x.2; omega))
        replace hH : HH W (bks (bl g4 49 #[(.func (.func 18) #[] #[(.pointer (some ⟨g3, 0, none⟩))])] :: Eb)) [[bl g4 49 #[(.func (.func 18) #[] #[(.pointer (some ⟨g3, 0, none⟩))])]], Eb] W := ((hH.has 1 rfl).start).cast (by simp)
        clear hR hH2 hcB1 hcB2 hB1
        obtain ⟨w0, rfl⟩ : ∃ u, u = W := ⟨_, rfl⟩
        obtain ⟨m, hm⟩ : ∃ m, (l.drop (48 * x.1)).take 48 = m := ⟨_, rfl⟩
        have hml : m.length = plen l.length x.1 := by rw [← hm]; exact part_len
        have hm48 : m.length ≤ 48 := by rw [hml]; unfold plen; omega
        rw [hm] at hV
        replace hF : Fr ⟨45, []⟩ [(10, .slice (some ⟨b0, off + 48 * x.1, none⟩) m.length m.length), (28, (.func (.func 37) #[] #[(.pointer (some ⟨B, 0, none⟩)), (.pointer (some ⟨(B + 1), 0, none⟩))])), (9, (.pointer (some ⟨g4, 0, none⟩))), (8, (.pointer (some ⟨g3, 0, none⟩))), (0, (.string (strL k))), (1, (.slice A l.length c)), (2, (.bool (b)))] a := by rw [hml]; exact hF
        have hq := linesT_len false (pre.map fun y => pieceW (b64 l) 64 y.1) 64 (fun x hx => by obtain ⟨i, _, rfl⟩ := List.mem_map.1 hx; rw [piece_len]; omega)
        rw [List.length_map] at hq
        have hbm := b64_len m
        refine wpIn_block (wpIn_mono (regionX_in (K := fun _ W' => ∃ E', (∃ Eb', E' = bl g4 49 #[(.func (.func 18) #[] #[(.pointer (some ⟨g3, 0, none⟩))])] :: Eb' ∧ BuAt 43 5 g3 (hd ++ linesT false ((pre ++ [x]).map fun y => pieceW (b64 l) 64 y.1)) Eb') ∧ Hold w0 (bks (bl g4 49 #[(.func (.func 18) #[] #[(.pointer (some ⟨g3, 0, none⟩))])] :: Eb)) E' W') mixedOrders (by kernel_rfl) (by kernel_rfl) hF ?_) (fun e a w q => by cases e <;> first | exact q | exact q.elim))
        clear hF
        replace hH := hH.drew
        refine rxS (fun w => w.heap[g4]? = some (.cells #[(.func (.func 18) #[] #[(.pointer (some ⟨g3, 0, none⟩))])] 49 (0, 0))) 0 rfl (by kernel_rfl) rfl (fun _ _ => rfl) (hH.blk 0 rfl) (fun _ _ hF hS => opLoadK hS rfl (hF.ev 2 rfl) (by kernel_rfl) rfl) (kM [true, false, false, false, false, false, false] rfl rfl) (by decide) (v := (.func (.func 18) #[] #[(.pointer (some ⟨g3, 0, none⟩))])) ?_
        refine rxV 1 rfl (by kernel_rfl) rfl (fun _ _ => rfl) (fun _ _ hF => opMove rfl (hF.ev 1 rfl)) (kM [true, false] rfl rfl) (by decide) (v := (.slice (some ⟨b0, off + 48 * x.1, none⟩) m.length m.length)) ?_
        refine rx1 2 (by kernel_rfl) ?_
        refine moM rfl hH (fun _ hF => Does.small ((base64_c m (some ⟨b0, off + 48 * x.1, none⟩) m.length (by omega)).does) (fun w => opCall rfl Tryd.func22 rfl rfl (Evs.cons (v := (.slice (some ⟨b0, off + 48 * x.1, none⟩) m.length m.length)) (hF.ev 0 rfl) Evs.nil) w)) (hH.vu hV (by decide) (fun _ _ e _ => by cases e; exact hoff)) rfl (fun _ _ => rfl) (kM [false, true] rfl rfl) (by decide) (PendOk.keep (PendOk.nil _ [])) ?_
        clear hH
        rintro _ _ w ⟨rfl, rfl⟩ hH
        replace hH : HH w0 (bks (bl g4 49 #[(.func (.func 18) #[] #[(.pointer (some ⟨g3, 0, none⟩))])] :: Eb)) [[bl g4 49 #[(.func (.func 18) #[] #[(.pointer (some ⟨g3, 0, none⟩))])]], Eb] w := hH.unpad
        refine ⟨(by
          intro s hs
          simp only [List.mem_cons, List.not_mem_nil, or_false] at hs
          rcases hs with rfl
          · exact (hH.blk 0 rfl)
          ), ?_⟩
        refine rx1 3 (by kernel_rfl) ?_
        refine moE 1 rfl hH rfl (fun _ hF => Does.small (wline_c (b64 m) g3 (hd ++ linesT false ((pre).map fun y => pieceW (b64 l) 64 y.1)) Eb hB (by first | omega | (simp only [List.length_nil]; omega) | (simp only [List.length_append]; omega) | (simp only [List.length_append, List.length_cons, List.length_nil]; omega))) (fun w => opCallV (cp := [(.pointer (some ⟨g3, 0, none⟩))]) rfl (hF.ev 1 rfl) Tryd.func18 rfl rfl (Evs.cons (v := (.string (strL (b64 m)))) (hF.ev 0 rfl) Evs.nil) w)) trivial rfl (fun _ _ => rfl) (kM [false, false] rfl rfl) (by decide) (PendOk.go [] (by kernel_rfl) (PendOk.nil _ [])) ?_
        clear hH
        rintro _ E12 w ⟨rfl, hB13⟩ hH
        replace hH : HH w0 (bks (bl g4 49 #[(.func (.func 18) #[] #[(.pointer (some ⟨g3, 0, none⟩))])] :: Eb)) [[bl g4 49 #[(.func (.func 18) #[] #[(.pointer (some ⟨g3, 0, none⟩))])]], E12] w := hH
        refine ⟨(fun _ hs => by cases hs), ?_⟩
        refine rxEnd (by kernel_rfl) ?_
        exact fun _ _ => ⟨_, ⟨_, rfl, by rw [← enc_next, hm]; exact hB13⟩, by simpa [HH] using hH⟩
      · rintro xs E D w hxs ⟨Eb, rfl, hB⟩ hH
        replace hB : BuAt 43 5 g3 (hd ++ linesT false (cutM (b64 l) 64 (nP l))) Eb := by
          have h := congrArg (List.map (pieceW (b64 l) 64)) hxs
          rw [List.map_map] at h
          have e : (xs.map fun y => pieceW (b64 l) 64 y.1) = cutM (b64 l) 64 (nP l) := h
          rw [e] at hB; exact hB
        replace hH : HH w0 [] [[bl B 22 #[.slice A l.length c], bl (B + 1) 3 #[.int .i64 48]], [bl g4 49 #[(.func (.func 18) #[] #[(.pointer (some ⟨g3, 0, none⟩))])]], Eb, [(D, .deferred (some []))]] w := hH.cast (by simp)
        clear hH2 hcB1 hcB2 hB1
        obtain ⟨o, ho⟩ : ∃ o, hd ++ linesT false (cutM (b64 l) 64 (nP l)) = o := ⟨_, rfl⟩
        have hol : o.length ≤ 66 * nP l + 40 := by rw [← ho, List.length_append]; omega
        rw [ho] at hB
        refine qxInN ?_
        refine qxThen ?_
        refine cxSeq ?_
        refine cxSeq ?_
        refine cxReg ?_
        refine pxV (v := (.bool (b))) (fun _ _ hF => opMove rfl (hF.ev 5 rfl)) rfl (fun _ _ => rfl) (kM [false, true, true, true, true, false] rfl rfl) (ltb rfl) ?_
        refine pxEnd ?_
        refine qxThen ?_
        refine cxB 0 rfl rfl (fun hc14 => ?_) (fun hc14 => ?_)
        · refine cxRegX mixedOrders (by kernel_rfl) ?_
          replace hH := hH.drew
          refine rxS (fun w => w.heap[g4]? = some (.cells #[(.func (.func 18) #[] #[(.pointer (some ⟨g3, 0, none⟩))])] 49 (0, 0))) 0 rfl (by kernel_rfl) rfl (fun _ _ => rfl) (hH.blk 1 rfl) (fun _ _ hF hS => opLoadK hS rfl (hF.ev 1 rfl) (by kernel_rfl) rfl) (kM [false, true, true, true, true] rfl rfl) (ltb rfl) (v := (.func (.func 18) #[] #[(.pointer (some ⟨g3, 0, none⟩))])) ?_
          refine rxV 1 rfl (by kernel_rfl) rfl (fun _ _ => rfl) (fun _ _ hF => opMove rfl (hF.ev 4 rfl)) (kM [true, true, true, true, false] rfl rfl) (ltb rfl) (v := (.slice A l.length c)) ?_
          refine rx1 2 (by kernel_rfl) ?_
          refine moM rfl hH (fun _ hF => Does.small ((sumline_c l A c (by omega)).does) (fun w => opCall rfl Tryd.func23 rfl rfl (Evs.cons (v := (.slice A l.length c)) (hF.ev 0 rfl) Evs.nil) w)) (hH.vu hR (ltb rfl) (Off.nil _ _)) rfl (fun _ _ => rfl) (kM [false, true, true, true, true] rfl rfl) (ltb rfl) (PendOk.keep (PendOk.nil _ [])) ?_
          clear hH
          rintro _ _ w ⟨rfl, rfl⟩ hH
          replace hH : HH w0 [] [[bl B 22 #[.slice A l.length c], bl (B + 1) 3 #[.int .i64 48]], [bl g4 49 #[(.func (.func 18) #[] #[(.pointer (some ⟨g3, 0, none⟩))])]], Eb, [(D, .deferred (some []))]] w := hH.unpad
          refine ⟨(by
            intro s hs
            simp only [List.mem_cons, List.not_mem_nil, or_false] at hs
            rcases hs with rfl
            · exact (hH.blk 1 rfl)
            ), ?_⟩
          refine rx1 3 (by kernel_rfl) ?_
          refine moE 2 rfl hH rfl (fun _ hF => Does.small (wline_c (sumL l) g3 o Eb hB (by first | omega | (simp only [List.length_nil]; omega) | (simp only [List.length_append]; omega) | (simp only [List.length_append, List.length_cons, List.length_nil]; omega))) (fun w => opCallV (cp := [(.pointer (some ⟨g3, 0, none⟩))]) rfl (hF.ev 1 rfl) Tryd.func18 rfl rfl (Evs.cons (v := (.string (strL (sumL l)))) (hF.ev 0 rfl) Evs.nil) w)) trivial rfl (fun _ _ => rfl) (kM [false, false, true, true, true] rfl rfl) (ltb rfl) (PendOk.go [] (by kernel_rfl) (PendOk.nil _ [])) ?_
          clear hH
          rintro _ E15 w ⟨rfl, hB16⟩ hH
          replace hH : HH w0 [] [[bl B 22 #[.slice A l.length c], bl (B + 1) 3 #[.int .i64 48]], [bl g4 49 #[(.func (.func 18) #[] #[(.pointer (some ⟨g3, 0, none⟩))])]], E15, [(D, .deferred (some []))]] w := hH
          refine ⟨(fun _ hs => by cases hs), ?_⟩
          refine rxEnd (by kernel_rfl) ?_
          refine qxThen ?_
          refine cxSeq ?_
          refine cxReg ?_
          refine pxS (v := (.func (.func 18) #[] #[(.pointer (some ⟨g3, 0, none⟩))])) (fun w => w.heap[g4]? = some (.cells #[(.func (.func 18) #[] #[(.pointer (some ⟨g3, 0, none⟩))])] 49 (0, 0))) (hH.blk 1 rfl) (fun _ _ hF hS => opLoadK hS rfl (hF.ev 1 rfl) (by kernel_rfl) rfl) rfl (fun _ _ => rfl) (kM [false, false, true, true] rfl rfl) (ltb rfl) ?_
          refine pxV (v := (.string (strL k))) (fun _ _ hF => opMove rfl (hF.ev 2 rfl)) rfl (fun _ _ => rfl) (kM [true, true, false] rfl rfl) (ltb rfl) ?_
          refine pxV (v := (.string (strL (endL ++ k)))) (fun _ _ hF => opAddL (l := endL) (m := k) (r := (endL ++ k)) rfl rfl (hF.ev 0 rfl) (by first | omega | (simp only [List.length_append]; omega) | (simp only [List.length_append, List.length_cons, List.length_nil]; omega)) (rfl)) rfl (fun _ _ => rfl) (kM [false, true, true] rfl rfl) (ltb rfl) ?_
          refine pxV (v := (.string (strL (footK k)))) (fun _ _ hF => opAddL (l := (endL ++ k)) (m := dasL) (r := (footK k)) rfl (hF.ev 0 rfl) rfl (by first | omega | (simp only [List.length_append]; omega) | (simp only [List.length_append, List.length_cons, List.length_nil]; omega)) (rfl)) rfl (fun _ _ => rfl) (kM [false, true, true] rfl rfl) (ltb rfl) ?_
          refine pxE 2 hH rfl (fun _ hF => Does.small (wline_c (footK k) g3 (o ++ (sumL l) ++ [10]) E15 hB16 (by first | omega | (simp only [List.length_nil]; omega) | (simp only [List.length_append]; omega) | (simp only [List.length_append, List.length_cons, List.length_nil]; omega))) (fun w => opCallV (cp := [(.pointer (some ⟨g3, 0, none⟩))]) rfl (hF.ev 1 rfl) Tryd.func18 rfl rfl (Evs.cons (v := (.string (strL (footK k)))) (hF.ev 0 rfl) Evs.nil) w)) trivial rfl (fun _ _ => rfl) (kM [false, false, true] rfl rfl) (ltb rfl) ?_
          clear hH
          rintro _ E17 w ⟨rfl, hB18⟩ hH
          replace hH : HH w0 [] [[bl B 22 #[.slice A l.length c], bl (B + 1) 3 #[.int .i64 48]], [bl g4 49 #[(.func (.func 18) #[] #[(.pointer (some ⟨g3, 0, none⟩))])]], E17, [(D, .deferred (some []))]] w := hH
          refine pxEnd ?_
          refine qxThen ?_
          refine cxSeq ?_
          refine cxReg ?_
          refine pxE 2 hH rfl (fun _ hF => Does.small (bu_string g3 ((o ++ (sumL l) ++ [10]) ++ (footK k) ++ [10]) E17 hB18) (fun w => opCall rfl Tryd.func24 rfl rfl (Evs.cons (v := (.pointer (some ⟨g3, 0, none⟩))) (hF.ev 1 rfl) Evs.nil) w)) trivial rfl (fun _ _ => rfl) (kM [false, false] rfl rfl) (ltb rfl) ?_
          clear hH
          rintro _ E19 w rfl hH
          replace hH : HH w0 [] [[bl B 22 #[.slice A l.length c], bl (B + 1) 3 #[.int .i64 48]], [bl g4 49 #[(.func (.func 18) #[] #[(.pointer (some ⟨g3, 0, none⟩))])]], E19, [(D, .deferred (some []))]] w := hH
          refine pxV (v := (.string (strL ((o ++ (sumL l) ++ [10]) ++ (footK k) ++ [10])))) (fun _ _ hF => opAssign rfl (hF.ev 0 rfl)) rfl (fun _ _ => rfl) (kM [false] rfl rfl) (ltb rfl) ?_
          refine pxV (v := (.int .i64 0)) (fun _ _ hF => opAssign rfl rfl) rfl (fun _ _ => rfl) (kA rfl) (ltb rfl) ?_
          refine pxEnd ?_
          refine qxThen ?_
          refine cxRet ?_
          refine qxDRet2 1 0 3 hH rfl rfl rfl rfl (fun w hH => ?_)
          have hf : ((o ++ (sumL l) ++ [10]) ++ (footK k) ++ [10]) = encV k l b := by
            rw [(enc_go hK hc2 b).1]
            refine Eq.trans ?_ (enc_eqP k l b o (by rw [← ho, hhd]; simp))
            rw [hc14]
            simp
          exact ⟨by rw [hf, (enc_go hK hc2 b).2]; rfl, hH.toBelow⟩
        · refine cxSkip ?_
          refine qxThen ?_
          refine cxSeq ?_
          refine cxReg ?_
          refine pxS (v := (.func (.func 18) #[] #[(.pointer (some ⟨g3, 0, none⟩))])) (fun w => w.heap[g4]? = some (.cells #[(.func (.func 18) #[] #[(.pointer (some ⟨g3, 0, none⟩))])] 49 (0, 0))) (hH.blk 1 rfl) (fun _ _ hF hS => opLoadK hS rfl (hF.ev 1 rfl) (by kernel_rfl) rfl) rfl (fun _ _ => rfl) (kM [false, false, true, true, false] rfl rfl) (ltb rfl) ?_
          refine pxV (v := (.string (strL k))) (fun _ _ hF => opMove rfl (hF.ev 2 rfl)) rfl (fun _ _ => rfl) (kM [true, true, false] rfl rfl) (ltb rfl) ?_
          refine pxV (v := (.string (strL (endL ++ k)))) (fun _ _ hF => opAddL (l := endL) (m := k) (r := (endL ++ k)) rfl rfl (hF.ev 0 rfl) (by first | omega | (simp only [List.length_append]; omega) | (simp only [List.length_append, List.length_cons, List.length_nil]; omega)) (rfl)) rfl (fun _ _ => rfl) (kM [false, true, true] rfl rfl) (ltb rfl) ?_
          refine pxV (v := (.string (strL (footK k)))) (fun _ _ hF => opAddL (l := (endL ++ k)) (m := dasL) (r := (footK k)) rfl (hF.ev 0 rfl) rfl (by first | omega | (simp only [List.length_append]; omega) | (simp only [List.length_append, List.length_cons, List.length_nil]; omega)) (rfl)) rfl (fun _ _ => rfl) (kM [false, true, true] rfl rfl) (ltb rfl) ?_
          refine pxE 2 hH rfl (fun _ hF => Does.small (wline_c (footK k) g3 o Eb hB (by first | omega | (simp only [List.length_nil]; omega) | (simp only [List.length_append]; omega) | (simp only [List.length_append, List.length_cons, List.length_nil]; omega))) (fun w => opCallV (cp := [(.pointer (some ⟨g3, 0, none⟩))]) rfl (hF.ev 1 rfl) Tryd.func18 rfl rfl (Evs.cons (v := (.string (strL (footK k)))) (hF.ev 0 rfl) Evs.nil) w)) trivial rfl (fun _ _ => rfl) (kM [false, false, true] rfl rfl) (ltb rfl) ?_
          clear hH
          rintro _ E20 w ⟨rfl, hB21⟩ hH
          replace hH : HH w0 [] [[bl B 22 #[.slice A l.length c], bl (B + 1) 3 #[.int .i64 48]], [bl g4 49 #[(.func (.func 18) #[] #[(.pointer (some ⟨g3, 0, none⟩))])]], E20, [(D, .deferred (some []))]] w := hH
          refine pxEnd ?_
          refine qxThen ?_
          refine cxSeq ?_
          refine cxReg ?_
          refine pxE 2 hH rfl (fun _ hF => Does.small (bu_string g3 (o ++ (footK k) ++ [10]) E20 hB21) (fun w => opCall rfl Tryd.func24 rfl rfl (Evs.cons (v := (.pointer (some ⟨g3, 0, none⟩))) (hF.ev 1 rfl) Evs.nil) w)) trivial rfl (fun _ _ => rfl) (kM [false, false] rfl rfl) (ltb rfl) ?_
          clear hH
          rintro _ E22 w rfl hH
          replace hH : HH w0 [] [[bl B 22 #[.slice A l.length c], bl (B + 1) 3 #[.int .i64 48]], [bl g4 49 #[(.func (.func 18) #[] #[(.pointer (some ⟨g3, 0, none⟩))])]], E22, [(D, .deferred (some []))]] w := hH
          refine pxV (v := (.string (strL (o ++ (footK k) ++ [10])))) (fun _ _ hF => opAssign rfl (hF.ev 0 rfl)) rfl (fun _ _ => rfl) (kM [false] rfl rfl) (ltb rfl) ?_
          refine pxV (v := (.int .i64 0)) (fun _ _ hF => opAssign rfl rfl) rfl (fun _ _ => rfl) (kA rfl) (ltb rfl) ?_
          refine pxEnd ?_
          refine qxThen ?_
          refine cxRet ?_
          refine qxDRet2 1 0 3 hH rfl rfl rfl rfl (fun w hH => ?_)
          have hf : (o ++ (footK k) ++ [10]) = encV k l b := by
            rw [(enc_go hK hc2 b).1]
            refine Eq.trans ?_ (enc_eqP k l b o (by rw [← ho, hhd]; simp))
            rw [hc14]
            simp
          exact ⟨by rw [hf, (enc_go hK hc2 b).2]; rfl, hH.toBelow⟩

end Go.Proofs.YtadbpmcmdcnlfaaDoor
