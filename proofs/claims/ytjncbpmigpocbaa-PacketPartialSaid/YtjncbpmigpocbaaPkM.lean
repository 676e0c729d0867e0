/- Packets in memory: lists of them, what lies behind their heads, a reader's rest. -/
import Derived.Test.YtjncbpmigpocbaaPk
import Derived.Test.YtjncbpmigpocbaaOpN
import Derived.Test.YtjncbpmigpocbaaTy
namespace Go.Proofs.Ytjncbpmigpocbaa
open Go Go.RowKit

abbrev PkH := Int × Option Addr × Nat × Nat
def cPk : Cod PkH := cPair (cInt .i64) cSl
theorem cPk_val (t : Int) (A : Option Addr) (n c : Nat) : Value.agg #[.int .i64 t, .slice A n c] = cPk.val (t, A, n, c) := rfl
theorem Vu.nilA {α : Type} {C : Cod α} {w : World} {A : Option Addr} {n c : Nat} {l : List α} (h : Vu C w A n c l) (hA : A = Option.none) : n = 0 ∧ c = 0 := by
  have h1 := h.nil hA
  have h2 := h.cap
  omega
/-- What lies behind the heads L: the packets D. -/
structure Beh (w : World) (L : List PkH) (D : List Pd) : Prop where
  len : L.length = D.length
  at' : ∀ (i : Nat) (x : PkH), L[i]? = some x → ∃ b, D[i]? = some (x.1, b) ∧ x.2.2.1 = b.length ∧ Vu cByte w x.2.1 b.length x.2.2.2 b
theorem Beh.nil (w : World) : Beh w [] [] := ⟨rfl, fun i x h => by simp at h⟩
theorem Beh.append {w : World} {L M : List PkH} {D F : List Pd} (h : Beh w L D) (g : Beh w M F) : Beh w (L ++ M) (D ++ F) := by
  refine ⟨by rw [List.length_append, List.length_append, h.len, g.len], fun i x hx => ?_⟩
  by_cases hi : i < L.length
  · rw [List.getElem?_append_left hi] at hx
    obtain ⟨b, h1, h2⟩ := h.at' i x hx
    exact ⟨b, by rw [List.getElem?_append_left (by rw [← h.len]; exact hi)]; exact h1, h2⟩
  · rw [List.getElem?_append_right (by omega)] at hx
    obtain ⟨b, h1, h2⟩ := g.at' _ x hx
    exact ⟨b, by rw [List.getElem?_append_right (by rw [← h.len]; omega), ← h.len]; exact h1, h2⟩
theorem Beh.one {w : World} {t : Int} {A : Option Addr} {c : Nat} {b : List UInt8} (h : Vu cByte w A b.length c b) : Beh w [(t, A, b.length, c)] [(t, b)] := by
  refine ⟨rfl, fun i x hx => ?_⟩
  have hi : i = 0 := by
    have := (List.getElem?_eq_some_iff.1 hx).1
    simp at this; omega
  subst hi
  obtain rfl : _ = x := by simpa using hx
  exact ⟨b, rfl, rfl, h⟩
theorem HH.beh {w0 w : World} {Hs : List Hl} {L : List PkH} {D : List Pd} (hH : HH w0 [] Hs w) (h : Beh w0 L D) : Beh w L D := by
  refine ⟨h.len, fun i x hx => ?_⟩
  obtain ⟨b, h1, h2, h3⟩ := h.at' i x hx
  exact ⟨b, h1, h2, hH.vu h3 (by decide) (Off.nil _ _)⟩
/-- Bodies of the call's own. -/
inductive Bods : List PkH → List Pd → Hl → Prop where
  | nil : Bods [] [] []
  | snoc {L : List PkH} {D : List Pd} {E F : Hl} {t : Int} {A : Option Addr} {n c : Nat} {b : List UInt8} (h : Bods L D E) (hO : OwnT cByte 5 (.slice A n c) b F) : Bods (L ++ [(t, A, n, c)]) (D ++ [(t, b)]) (E ++ F)
theorem Bods.len {L : List PkH} {D : List Pd} {E : Hl} (h : Bods L D E) : L.length = D.length := by
  induction h with
  | nil => rfl
  | snoc _ _ ih => rw [List.length_append, List.length_append, ih]; rfl
theorem Bods.beh {w : World} {L : List PkH} {D : List Pd} {E : Hl} (h : Bods L D E) (hE : Has E w) : Beh w L D := by
  induction h with
  | nil => exact Beh.nil w
  | snoc h hO ih =>
    refine (ih (hE.of (List.sublist_append_left _ _))).append ?_
    obtain rfl := hO.len
    exact Beh.one (hO.vuAt (hE.of (List.sublist_append_right _ _)))
/-- A list of packets of the call's own. -/
def OwnP (v : Value) (D : List Pd) (E : Hl) : Prop := ∃ L E1 E2, E = ([E1, E2] : List Hl).flatten ∧ OwnT cPk 31 v L E1 ∧ Bods L D E2
theorem OwnP.nil : OwnP (.slice none 0 0) [] [] := ⟨[], [], [], rfl, OwnT.nil _ _, .nil⟩
/-! ### What is left to be read -/
/-- From what is read as b, of address A and capacity c, what is read as b' is a part. -/
def Sfx (A : Option Addr) (c : Nat) (b : List UInt8) (A' : Option Addr) (c' : Nat) (b' : List UInt8) : Prop :=
  ∀ w, Vu cByte w A b.length c b → Vu cByte w A' b'.length c' b' ∧ ∀ R, Off A b.length R → Off A' b'.length R
theorem Sfx.refl (A : Option Addr) (c : Nat) (b : List UInt8) : Sfx A c b A c b := fun _ h => ⟨h, fun _ h => h⟩
theorem Sfx.trans {A A' A2 : Option Addr} {c c' c2 : Nat} {b b' b2 : List UInt8} (h : Sfx A c b A' c' b') (g : Sfx A' c' b' A2 c2 b2) : Sfx A c b A2 c2 b2 := fun w hw => by
  obtain ⟨h1, h2⟩ := h w hw
  obtain ⟨g1, g2⟩ := g w h1
  exact ⟨g1, fun R hR => g2 R (h2 R hR)⟩
theorem sfx_drop {A : Option Addr} {c n : Nat} {b : List UInt8} (hn : n ≤ b.length) : Sfx A c b (cutA A c n 1) (c - n) (b.drop n) := fun w hw => by
  have h1 := hw.from hn
  have hl : (b.drop n).length = b.length - n := List.length_drop
  refine ⟨by rw [hl]; exact h1, fun R hR => ?_⟩
  intro g off hA hp
  rw [hl] at hp
  obtain ⟨g0, off0, rfl, _⟩ := hw.at' (by omega)
  have hc := hw.cap
  rw [cutA_some (by omega)] at hA
  obtain rfl : g0 = g := by injection hA with h; injection h
  exact hR g0 off0 rfl (by omega)
/-- A body that was read: what is wrong, the body, the reader's rest. -/
def BodyAt (g : Nat) (A : Option Addr) (c : Nat) (b : List UInt8) (r : Nat × List UInt8 × List UInt8) (v : Value) (E' : Hl) : Prop :=
  ∃ s E1 E2, v = .tuple #[s, .int .i64 (r.1 : Int)] ∧ E' = ([E1, E2] : List Hl).flatten ∧ OwnT cByte 5 s r.2.1 E2 ∧ ∃ A' c' b', E1 = [bl g 43 #[.slice A' b'.length c']] ∧ Sfx A c b A' c' b' ∧ (r.1 = 0 → b' = r.2.2)
/-! ### Bytes -/
theorem or192 {t : Nat} (h : t < 64) : 192 ||| (UInt8.ofNat t).toNat = (UInt8.ofNat (192 + t)).toNat := by
  rw [ofNat_toNat (by omega), ofNat_toNat (by omega)]
  have h1 := Nat.shiftLeft_add_eq_or_of_lt (show t < 2 ^ 6 by omega) 3
  have e : 3 <<< 6 = 192 := rfl
  rw [e] at h1
  exact h1.symm
theorem getD_el {b : List UInt8} {i : Nat} {x : UInt8} (h : b[i]? = some x) : b.getD i 0 = x := by rw [List.getD_eq_getElem?_getD, h]; rfl
theorem beN_take1 {b : List UInt8} (h : 1 ≤ b.length) : beN (b.take 1) = (b.getD 0 0).toNat := by
  cases b with
  | nil => simp at h
  | cons x r => show beN [x] = x.toNat; rw [beN_cons]; simp [beN]
theorem beN_drop1 {b : List UInt8} (h : 2 ≤ b.length) : beN ((b.drop 1).take 1) = (b.getD 1 0).toNat := by
  rw [beN_take1 (by rw [List.length_drop]; omega)]
  cases b with
  | nil => simp at h
  | cons x r => rfl
theorem beL_four (n : Nat) : [(255 : UInt8), UInt8.ofNat (n / 2 ^ 24), UInt8.ofNat (n / 2 ^ 16), UInt8.ofNat (n / 2 ^ 8), UInt8.ofNat n] = 255 :: beL 4 n := by
  show _ = [(255 : UInt8), UInt8.ofNat (n / 2 ^ (8 * (4 - 1 - 0))), UInt8.ofNat (n / 2 ^ (8 * (4 - 1 - 1))), UInt8.ofNat (n / 2 ^ (8 * (4 - 1 - 2))), UInt8.ofNat (n / 2 ^ (8 * (4 - 1 - 3)))]
  rw [show n / 2 ^ (8 * (4 - 1 - 3)) = n from Nat.div_one n]
theorem lenL_two {n : Nat} (h1 : ¬ n < 192) (h2 : n ≤ 8383) : lenL n = [UInt8.ofNat ((n - 192) / 256 + 192), UInt8.ofNat ((n - 192) % 256)] := by unfold lenL; rw [if_neg h1, if_pos h2]
theorem lenL_five {n : Nat} (h1 : ¬ n < 192) (h2 : ¬ n ≤ 8383) : lenL n = 255 :: beL 4 n := by unfold lenL; rw [if_neg h1, if_neg h2]
theorem byte_mod (n : Nat) : UInt8.ofNat (n % 256) = UInt8.ofNat n := by
  rw [← UInt8.toNat_inj, UInt8.toNat_ofNat', UInt8.toNat_ofNat']
  omega
/-! ### What is written, step by step -/
theorem take_snoc {α : Type} {D : List α} {i : Nat} {x : α} (h : D[i]? = some x) : D.take (i + 1) = D.take i ++ [x] := by rw [List.take_add_one, h]; rfl
theorem frm_take {D : List Pd} {i : Nat} {x : Pd} (h : ∀ p ∈ D.take i, frmP p) (hx : D[i]? = some x) (hf : frmP x) : ∀ p ∈ D.take (i + 1), frmP p := by
  rw [take_snoc hx]
  intro p hp
  rcases List.mem_append.1 hp with hp | hp
  · exact h p hp
  · obtain rfl := List.mem_singleton.1 hp; exact hf
theorem wr_step {D : List Pd} {i t : Nat} {b B : List UInt8} (hx : D[i]? = some ((t : Int), b)) (hB : B = wrL (D.take i)) : ((B ++ [UInt8.ofNat (192 + t)]) ++ lenL b.length) ++ b = wrL (D.take (i + 1)) := by
  have e : wrL (D.take (i + 1)) = wrL (D.take i) ++ pkL ((t : Int), b) := by
    rw [take_snoc hx]; unfold wrL; rw [List.flatMap_append, List.flatMap_cons, List.flatMap_nil, List.append_nil]
  rw [e, hB]
  unfold pkL
  simp
/-- What Write answers. -/
def wrt (D : List Pd) : Nat × List UInt8 := if ∀ p ∈ D, frmP p then (0, wrL D) else (1, [])
theorem wrt_no {D : List Pd} {i : Nat} {x : Pd} (hx : D[i]? = some x) (h : ¬ frmP x) : wrt D = (1, []) := by
  unfold wrt
  rw [if_neg (fun q => h (q x (List.mem_of_getElem? hx)))]
theorem wrt_ok {D : List Pd} (h : ∀ p ∈ D, frmP p) : wrt D = (0, wrL D) := by unfold wrt; rw [if_pos h]
theorem frm_at {t : Int} {b : List UInt8} (h : frmP (t, b)) : ∃ n : Nat, t = (n : Int) ∧ 0 < n ∧ n < 64 ∧ b.length ≤ 20000 := by
  obtain ⟨h1, h2, h3⟩ := h
  have h1' : 1 ≤ t := h1
  have h2' : t ≤ 63 := h2
  exact ⟨t.toNat, by omega, by omega, by omega, h3⟩
end Go.Proofs.Ytjncbpmigpocbaa
