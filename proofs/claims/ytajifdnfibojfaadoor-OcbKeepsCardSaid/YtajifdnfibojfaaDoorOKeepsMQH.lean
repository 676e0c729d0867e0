/- What was sealed is opened: the mathematics. No program. What the two Seals answer is the same. No walk. What the two Seals answer. OcbSeals: the walk. The tables that the rows of layer 3 lay. -/
import Derived.Test.YtajifdnfibojfaaDoorOKeepsMQG
import Derived.Test.YtajifdnfibojfaaDoorOKeepsMQC
import Derived.Test.YtajifdnfibojfaaDoorLaw
import Derived.Test.YtajifdnfibojfaaDoorOKeepsMQA
import Derived.LaidSub
namespace Go.Proofs.YtajifdnfibojfaaDoor

theorem xr_xr (x y : UInt8) : xr (xr x y) y = x := by
  show (x ^^^ y) ^^^ y = x
  rw [UInt8.xor_assoc, UInt8.xor_self, UInt8.xor_zero]
theorem part_congr {n : Nat} {f g : Nat → UInt8} (h : ∀ j, j < n → f j = g j) (i : Nat) : partB n f i = partB n g i := by
  funext j
  unfold partB padB
  by_cases hj : j < plen n i
  · rw [if_pos hj, if_pos hj]
    exact h _ (by unfold plen at hj; omega)
  · rw [if_neg hj, if_neg hj]
theorem sum_congr {n : Nat} {f g : Nat → UInt8} (h : ∀ j, j < n → f j = g j) (l : List Nat) : sumTo n f l = sumTo n g l := by
  unfold sumTo
  congr 1
  funext s i
  rw [part_congr h]
section
variable (C C' E : (Nat → UInt8) → Nat → UInt8) (st dl : Nat → UInt8) (n : Nat) (of f f' : Nat → UInt8)
/-- The offsets hang on neither the bytes nor the direction. -/
theorem thr_off : ∀ t, (thrTo C E st dl n of f (List.range t)).1 = (thrTo C' E st dl n of f' (List.range t)).1
  | 0 => rfl
  | t + 1 => by
    rw [thr_succ, thr_succ]
    show wkStep st dl n t (thrTo C E st dl n of f (List.range t)).1 = wkStep st dl n t (thrTo C' E st dl n of f' (List.range t)).1
    rw [thr_off t]
end
section
variable {C E D : (Nat → UInt8) → Nat → UInt8} {st dl : Nat → UInt8} {n : Nat} {of f f' : Nat → UInt8}
/-- The bytes behind the n-th count for nothing. -/
theorem thr_congr (hC : ∀ x y, E16 x y → E16 (C x) (C y)) (hf : ∀ j, j < n → f j = f' j) : ∀ t j, j < n → (thrTo C E st dl n of f (List.range t)).2 j = (thrTo C E st dl n of f' (List.range t)).2 j
  | 0, j, hj => hf j hj
  | t + 1, j, hj => by
    have ho := thr_off C C E st dl n of f f' t
    have ih := thr_congr hC hf t
    rw [thr_succ, thr_succ]
    show cpy (16 * t) (plen n t) (thrTo C E st dl n of f (List.range t)).2 (thrB C E n (thrTo C E st dl n of f (List.range t)).2 t (wkStep st dl n t (thrTo C E st dl n of f (List.range t)).1).1) j =
      cpy (16 * t) (plen n t) (thrTo C E st dl n of f' (List.range t)).2 (thrB C E n (thrTo C E st dl n of f' (List.range t)).2 t (wkStep st dl n t (thrTo C E st dl n of f' (List.range t)).1).1) j
    rw [ho]
    unfold cpy
    by_cases h : 16 * t ≤ j ∧ j < 16 * t + plen n t
    · rw [if_pos h, if_pos h]
      unfold thrB
      by_cases hp : plen n t < 16
      · rw [if_pos hp, if_pos hp, ih _ (by omega)]
      · rw [if_neg hp, if_neg hp]
        have hp16 : plen n t = 16 ∧ 16 * t + 16 ≤ n := by unfold plen at hp ⊢; omega
        exact (E16.added (hC _ _ (E16.added (fun k hk => ih _ (by omega)) (E16.refl _))) (E16.refl _)) _ (by omega)
    · rw [if_neg h, if_neg h]
      exact ih j hj
theorem thr_back (hD : ∀ x y, E16 x y → E16 (D x) (D y)) (hDE : ∀ x, E16 (D (E x)) x) {c : Nat → UInt8} (hc : ∀ j, j < n → c j = (thrTo E E st dl n of f (List.range ((n + 15) / 16))).2 j) :
    ∀ t, t ≤ (n + 15) / 16 → ∀ j, j < n → j < 16 * t → (thrTo D E st dl n of c (List.range t)).2 j = f j
  | 0, _, j, _, h => by omega
  | t + 1, ht, j, hj, h => by
    have ih := thr_back hD hDE hc t (by omega)
    have hin : 16 * t < n := by omega
    have hcs : ∀ k, k < 16 → 16 * t + k < n → c (16 * t + k) = (thrTo E E st dl n of f (List.range (t + 1))).2 (16 * t + k) := fun k hk hn => by
      rw [hc _ hn]
      have h5 := thr_fix E E st dl n of f (t + 1) ((n + 15) / 16 - (t + 1)) (16 * t + k) (by omega)
      rw [show t + 1 + ((n + 15) / 16 - (t + 1)) = (n + 15) / 16 by omega] at h5
      exact h5
    have ho := thr_off D E E st dl n of c f t
    by_cases hlt : j < 16 * t
    · rw [thr_succ]
      show cpy (16 * t) (plen n t) (thrTo D E st dl n of c (List.range t)).2 _ j = f j
      unfold cpy
      rw [if_neg (by omega)]
      exact ih j hj hlt
    · by_cases hw : 16 * t + 16 ≤ n
      · rw [thr_whole D E st dl n of c t hw, ho]
        rw [thr_whole E E st dl n of f t hw] at hcs
        revert hcs
        generalize added (thrTo E E st dl n of f (List.range t)).1.1 (dbls (Lib.ctz 64 (t + 1) + 1) dl) = O1
        intro hcs
        show cpy (16 * t) 16 (thrTo D E st dl n of c (List.range t)).2 _ j = f j
        unfold cpy
        rw [if_pos (by omega)]
        have e1 : E16 (fun k => c (16 * t + k)) (added (E (added (fun k => f (16 * t + k)) O1)) O1) := fun k hk => by
          show c (16 * t + k) = _
          rw [hcs k hk (by omega)]
          show cpy (16 * t) 16 _ _ (16 * t + k) = _
          unfold cpy
          rw [if_pos (by omega), Nat.add_sub_cancel_left]
        have e2 := E16.added e1 (E16.refl O1)
        rw [added_added] at e2
        have e3 := E16.added ((hD _ _ e2).trans (hDE _)) (E16.refl O1)
        rw [added_added] at e3
        rw [e3 (j - 16 * t) (by omega)]
        show f (16 * t + (j - 16 * t)) = f j
        rw [show 16 * t + (j - 16 * t) = j by omega]
      · obtain ⟨x1, r1⟩ := thr_rest D E st dl n of c t hin (by omega)
        obtain ⟨x2, r2⟩ := thr_rest E E st dl n of f t hin (by omega)
        rw [r1, ho]
        rw [r2] at hcs
        dsimp only
        unfold cpy
        rw [if_pos (by omega)]
        dsimp only
        rw [hcs (j - 16 * t) (by omega) (by omega)]
        dsimp only
        unfold cpy
        rw [if_pos (by omega), Nat.add_sub_cancel_left, xr_xr, show 16 * t + (j - 16 * t) = j by omega]
end
end Go.Proofs.YtajifdnfibojfaaDoor

namespace Go.Proofs.YtajifdnfibojfaaDoor

theorem seal_same {E : (Nat → UInt8) → Nat → UInt8} {st dl V fa fp : Nat → UInt8} {m q : Nat} (hE : ∀ x y, E16 x y → E16 (E x) (E y)) :
    ∀ j, j < q + 16 → outB E st dl V m fa q fp j = both q (thrTo E E st dl q V fp (List.range ((q + 15) / 16))).2 (added (E (added (added (sumTo q fp (List.range ((q + 15) / 16))) (thrTo E E st dl q V fp (List.range ((q + 15) / 16))).1.1) dl)) (hashTo E st dl m fa (List.range ((m + 15) / 16))).2) j := by
  intro j hj
  have ho := thr_off E E E st dl q V (cpy 0 q (fun _ => 0) fp) fp ((q + 15) / 16)
  have hf : ∀ i, i < q → cpy 0 q (fun _ => 0) fp i = fp i := fun i hi => by
    unfold cpy
    rw [if_pos (by omega), Nat.sub_zero]
  unfold outB tagB both
  rw [ho, ← added_assoc]
  unfold cpy
  by_cases h : j < q
  · rw [if_neg (by omega), if_pos h]
    exact thr_congr hE hf _ j h
  · rw [if_pos (by omega), if_neg h]
end Go.Proofs.YtajifdnfibojfaaDoor

namespace Go.Proofs.YtajifdnfibojfaaDoor
open Go Go.RowKit
set_option maxRecDepth 100000
set_option maxRecDepth 100000

/-- A slice of the n bytes f, of the call's own, and an errno; what was there is as it was. -/
def OutS (er : Int) (n : Nat) (f : Nat → UInt8) (w : World) (e : Ending) (w' : World) : Prop :=
  (∃ A c, e = .returned (.tuple #[.slice A n c, .int .i64 er]) ∧ Bts w' A n c f ∧ (∀ a, A = some a → ∃ g, a = ⟨g, 0, Option.none⟩ ∧ w.heap.size ≤ g) ∧ c ≤ maxLen) ∧ Below w.heap.size w w'
theorem OutS.none {w : World} {er : Int} {f : Nat → UInt8} {fn : FuncId} {args : Array Value} (h : Calls Tryd.prog fn args w fun e w' => e = .returned (.tuple #[.slice none 0 0, .int .i64 er]) ∧ Below w.heap.size w w') : Calls Tryd.prog fn args w (OutS er 0 f w) :=
  h.mono fun _ _ ⟨he, hb⟩ => ⟨⟨Option.none, 0, he, ⟨fun h => absurd h (by omega), fun _ => ⟨rfl, rfl⟩, Nat.le_refl _⟩, (fun _ h => by cases h), by decide⟩, hb⟩
theorem OutS.own {w w' : World} {er : Int} {n : Nat} {f : Nat → UInt8} {v : Value} (ho : Own w' w.heap.size v n f) (hb : Below w.heap.size w w') : OutS er n f w (.returned (.tuple #[v, .int .i64 er])) w' := by
  obtain ⟨A, c, rfl, h1, h2, h3⟩ := ho.bts
  exact ⟨⟨A, c, rfl, h1, h3, h2⟩, hb⟩
theorem OutS.row {w w' : World} {er : Int} {g n : Nat} {f : Nat → UInt8} (hg : w.heap.size ≤ g) (hr : Row w' g 5 n f) (hn : n ≤ 140737488355328) (hb : Below w.heap.size w w') : OutS er n f w (.returned (.tuple #[.slice (some ⟨g, 0, Option.none⟩) n n, .int .i64 er])) w' :=
  ⟨⟨_, n, rfl, Bts.of_cells (fun j hj => by rw [Nat.zero_add]; exact hr.cell j hj) (Nat.le_refl _), fun a ha => ⟨g, (Option.some.inj ha).symm, hg⟩, by unfold maxLen; omega⟩, hb⟩
/-- What the document's New answers of any key. -/
theorem new_any (A : Option Addr) (n c : Nat) (key : Nat → UInt8) (W : World) (hs : Row W 0 76 256 boxF) (hk : Bts W A n c key) :
    ∃ b, (¬ (n = 16 ∨ n = 32) → b = false) ∧ ∀ w, Below W.heap.size W w → Calls Tryd.prog 31 #[.slice A n c] w fun e w' => (∃ x, e = .returned (.tuple #[x, .bool b])) ∧ Below w.heap.size w w' := by
  by_cases h : n = 16 ∨ n = 32
  · obtain ⟨E, D, _, _, hNew⟩ := cap_of A n c key W hs hk h
    exact ⟨true, fun h' => absurd h h', fun w hb => (hNew w hb).mono fun e w' ⟨g, he, _, _, _, hb'⟩ => ⟨⟨_, he⟩, hb'⟩⟩
  · exact ⟨false, fun _ => rfl, fun w _ => (New_no A n c w (fun e => h (.inl e)) (fun e => h (.inr e))).mono fun e w' ⟨he, hw⟩ => ⟨⟨_, he⟩, hw ▸ Below.refl _ _⟩⟩

section
variable (A N A1 A2 : Option Addr) (kn kc k kc2 m c1 n c2 : Nat) (key fn fa fp : Nat → UInt8) (W : World)
/-- Key and nonce are such, or neither program begins. -/
theorem begins (hs : Row W 0 76 256 boxF) (hk : Bts W A kn kc key) (hN : Bts W N k kc2 fn) :
    (1 ≤ k ∧ k ≤ 15 ∧ ∃ E D, Pair E D ∧ Cap A kn kc E D W ∧ ∀ w, Below W.heap.size W w → Calls Tryd.prog 17 #[.slice A kn kc, .slice N k kc2] w fun e w' =>
      ∃ g gc gl cap n0, e = .returned (.tuple #[.pointer (some ⟨g, 0, none⟩), .agg (row 16 (offB E k fn)), .bool true]) ∧ Begun g gc gl cap n0 E D (E fun _ => 0) (dblB (E fun _ => 0)) w w') ∨
    ((∀ w, Calls Tryd.prog 12 #[.slice A kn kc, .slice N k kc2] w fun e w' => e = .returned (.tuple #[.agg (mkRow (.slice none 0 0) (fun _ => 0) fun _ => 0), .int .i64 1]) ∧ Below w.heap.size w w') ∧
      ∀ w, Below W.heap.size W w → Calls Tryd.prog 17 #[.slice A kn kc, .slice N k kc2] w (NotBegun w)) := by
  obtain ⟨b, hb0, hnew⟩ := new_any A kn kc key W hs hk
  by_cases h0 : k < 1
  · obtain rfl : k = 0 := by omega
    exact .inr ⟨fun w => begin_short A N kn kc kc2 w, fun w hb => rbegun_bad A N kn kc 0 kc2 b w (.inr (.inl (by omega))) fun w' hb' => hnew w' (hb.trans (hb'.mono hb.size))⟩
  · by_cases h15 : 15 < k
    · exact .inr ⟨fun w => begin_long A N kn kc k kc2 w h15, fun w hb => rbegun_bad A N kn kc k kc2 b w (.inr (.inr h15)) fun w' hb' => hnew w' (hb.trans (hb'.mono hb.size))⟩
    · by_cases hkn : kn = 16 ∨ kn = 32
      · obtain ⟨E, D, hP, hC, hNew⟩ := cap_of A kn kc key W hs hk hkn
        refine .inl ⟨by omega, by omega, E, D, hP, hC, fun w hb => (rbegun_c A N kn kc k kc2 fn E D w (by omega) (by omega) (fun w' hb' => hNew w' (hb.trans (hb'.mono hb.size))) (fun w' hb' => hN.below (hb.trans (hb'.mono hb.size))) _ _ _ rfl rfl rfl).mono ?_⟩
        rintro e w' ⟨g, gc, gl, cap, rfl, ho, ⟨n0, h1, h2, h3, h4⟩, hb'⟩
        exact ⟨g, gc, gl, cap, n0, rfl, ho, h1, h2, h3, h4, hb'⟩
      · exact .inr ⟨fun w => begin_badkey A N kn kc k kc2 w (fun e => hkn (.inl e)) (fun e => hkn (.inr e)) (by omega) (by omega), fun w hb => rbegun_bad A N kn kc k kc2 b w (.inl (hb0 hkn)) fun w' hb' => hnew w' (hb.trans (hb'.mono hb.size))⟩

theorem seal_out (hs : Row W 0 76 256 boxF) (hT : DeB W) (hg : 2 < W.heap.size) (hk : Bts W A kn kc key) (hN : Bts W N k kc2 fn) (ha : Bts W A1 m c1 fa) (hp : Bts W A2 n c2 fp) (hc1 : c1 ≤ 140737488351232) (hc2 : c2 ≤ 140737488351232) :
    ∃ (er : Int) (q : Nat) (f : Nat → UInt8), ((er = 0 ∧ q = n + 16) ∨ (er = 1 ∧ q = 0)) ∧ (∀ w, Below W.heap.size W w → Calls Tryd.prog 8 #[.slice A kn kc, .slice N k kc2, .slice A1 m c1, .slice A2 n c2] w (OutS er q f w)) ∧
      (∀ w, Below W.heap.size W w → Calls Tryd.prog 9 #[.slice A kn kc, .slice N k kc2, .slice A1 m c1, .slice A2 n c2] w (OutS er q f w)) := by
  rcases begins A N kn kc k kc2 key fn W hs hk hN with ⟨h1, h15, E, D, hP, hC, hB⟩ | ⟨hbad, rbad⟩
  · refine ⟨0, n + 16, outB E (E fun _ => 0) (dblB (E fun _ => 0)) (offB E k fn) m fa n fp, .inl ⟨rfl, rfl⟩, fun w hb => ?_, fun w hb => ?_⟩
    · refine (Seal_c A N A1 A2 kn kc k kc2 m c1 n c2 E D fn fa fp w (hC.below hb) (hT.below hb hg) (Nat.lt_of_lt_of_le hg hb.size) (by omega) (by omega) (hN.below hb) (ha.below hb) (hp.below hb) hc1 hc2).mono ?_
      rintro e w' ⟨g, rfl, hgw, hr, hb'⟩
      exact OutS.row hgw hr (by have := hp.2.2; omega) hb'
    · refine (rseal_c A N A1 A2 kn kc k kc2 m c1 n c2 E D _ _ _ fa fp w (hB w hb) (ha.below hb) (hp.below hb) (by have := ha.2.2; omega) (by have := hp.2.2; omega) _ _ rfl rfl).mono ?_
      rintro e w' ⟨v, rfl, ho, hb'⟩
      exact OutS.own (ho.congr fun j hj => (seal_same hP.1 j hj).symm) hb'
  · exact ⟨1, 0, fun _ => 0, .inr ⟨rfl, rfl⟩, fun w hb => OutS.none (Seal_bad A N A1 A2 kn kc k kc2 m c1 n c2 w (hbad w)), fun w hb => OutS.none (rSeal_bad A N A1 A2 kn kc k kc2 m c1 n c2 w (rbad w hb))⟩
end
end Go.Proofs.YtajifdnfibojfaaDoor

namespace Go.Proofs.YtajifdnfibojfaaDoor
open Go Go.RowKit
set_option maxRecDepth 100000

theorem bts_nil (w : World) (f : Nat → UInt8) : Bts w none 0 0 f := ⟨fun h => absurd h (by omega), fun _ => ⟨rfl, rfl⟩, Nat.le_refl _⟩
set_option maxHeartbeats 4000000 in
theorem oawake_c (W : World) (hs : Row W 0 76 256 boxF) (hT : DeB W) (hg : 2 < W.heap.size) :
    Calls Tryd.prog 7 #[] W fun e w' => e = .returned (.bool true) ∧ Below W.heap.size W w' := by
  have hmk : ∀ w : World, (Instr.makeSlice 22 (.int .i64 16) (.int .i64 16)).run Tryd.prog w = .ok (.slice (some ⟨w.heap.size, 0, none⟩) 16 16) (w.alloc (.cells (row 16 fun _ => 0) 5)) := make_n 16 (by omega)
  have hbl := run_build8 1
  rw [show (((1 : UInt8).toNat : Nat) : Int) = 1 from rfl] at hbl
  have HS := Lib.hid hs
  have HT := Lib.hid hT
  clear hs hT
  go_enter Tryd.func7, Tryd.ntmps7
  go_wp2_with (fail)
  rw [show (#[Value.int IntKind.u8 1] : Array Value) = row 1 (fun _ => 1) from by kernel_rfl]
  have hr := (Row.new W 5 16 (fun _ => 0)).alloc (.cells (row 1 fun _ => 1) 5)
  have hn := Row.new (W.alloc (.cells (row 16 fun _ => 0) 5)) 5 1 (fun _ => 1)
  have hb : Below W.heap.size W ((W.alloc (.cells (row 16 fun _ => 0) 5)).alloc (.cells (row 1 fun _ => 1) 5)) := ((Below.refl _ _).alloc (Nat.le_refl _) _).alloc (by simp) _
  simp only [World.size_alloc] at hn
  revert hr hn hb
  generalize (W.alloc (.cells (row 16 fun _ => 0) 5)).alloc (.cells (row 1 fun _ => 1) 5) = w1
  intro hr hb hn
  have hk : Bts w1 (some ⟨W.heap.size, 0, none⟩) 16 16 (fun _ => 0) := Bts.of_cells (fun j hj => by rw [Nat.zero_add]; exact hr.cell j hj) (Nat.le_refl _)
  have hN : Bts w1 (some ⟨W.heap.size + 1, 0, none⟩) 1 1 (fun _ => 1) := Bts.of_cells (fun j hj => by rw [Nat.zero_add]; exact hn.cell j hj) (Nat.le_refl _)
  obtain ⟨E, D, _, hC, _⟩ := cap_of _ 16 16 _ w1 (HS.out.below hb HS.out.lt) hk (.inl rfl)
  have hx := Seal_c _ _ none none 16 16 1 1 0 0 0 0 E D _ (fun _ => 0) (fun _ => 0) w1 hC (HT.out.below hb hg) (Nat.lt_of_lt_of_le hg hb.size) (by omega) (by omega) hN (bts_nil _ _) (bts_nil _ _) (by omega) (by omega)
  clear hC hk hN hr hn hmk hbl HS HT
  refine hx.mono ?_
  rintro e w2 ⟨g, rfl, hg2, hr2, hb2⟩
  have hb := hb.trans (hb2.mono hb.size)
  clear hx hb2 hr2
  go_wp2_with (fail)
  go_ret
  exact ⟨rfl, hb⟩

set_option maxHeartbeats 4000000 in
theorem seals_walk (A N A1 A2 : Option Addr) (kn kc k kc2 m c1 n c2 : Nat) (er : Int) (q : Nat) (f : Nat → UInt8) (W : World) (hs : Row W 0 76 256 boxF) (hT : DeB W) (hg : 2 < W.heap.size)
    (p1 : ∀ w, Below W.heap.size W w → Calls Tryd.prog 8 #[.slice A kn kc, .slice N k kc2, .slice A1 m c1, .slice A2 n c2] w (OutS er q f w))
    (r1 : ∀ w, Below W.heap.size W w → Calls Tryd.prog 9 #[.slice A kn kc, .slice N k kc2, .slice A1 m c1, .slice A2 n c2] w (OutS er q f w)) :
    Calls Tryd.prog 3 #[.slice A kn kc, .slice N k kc2, .slice A1 m c1, .slice A2 n c2] W fun e w' => e = .returned (.bool true) ∧ Below W.heap.size W w' := by
  have P1 := Lib.hid p1
  have R1 := Lib.hid r1
  clear p1 r1
  go_enter Tryd.func3, Tryd.ntmps3
  go_wp2_with (fail)
  refine (oawake_c W hs hT hg).mono ?_
  rintro e w1 ⟨rfl, hb⟩
  clear hs hT
  go_wp2_with (fail)
  refine (P1.out w1 hb).mono ?_
  rintro e w2 ⟨⟨B1, d1, rfl, t1, _⟩, hb1⟩
  have hb := hb.trans (hb1.mono hb.size)
  clear hb1
  go_wp2_with (fail)
  refine (R1.out w2 hb).mono ?_
  rintro e w3 ⟨⟨B2, d2, rfl, t2, _⟩, hb1⟩
  have s1 := run_str (t1.below hb1)
  have s2 := run_str t2
  have hb := hb.trans (hb1.mono hb.size)
  clear hb1 t1 t2 P1 R1
  go_wp2_with (fail)
  go_ret
  exact ⟨rfl, hb⟩
theorem seals_all (A N A1 A2 : Option Addr) (kn kc k kc2 m c1 n c2 : Nat) (key fn fa fp : Nat → UInt8) (W : World) (hs : Row W 0 76 256 boxF) (hT : DeB W) (hg : 2 < W.heap.size)
    (hk : Bts W A kn kc key) (hN : Bts W N k kc2 fn) (ha : Bts W A1 m c1 fa) (hp : Bts W A2 n c2 fp) (hc1 : c1 ≤ 140737488351232) (hc2 : c2 ≤ 140737488351232) :
    Calls Tryd.prog 3 #[.slice A kn kc, .slice N k kc2, .slice A1 m c1, .slice A2 n c2] W fun e w' => e = .returned (.bool true) ∧ Below W.heap.size W w' := by
  obtain ⟨er, q, f, _, p1, r1⟩ := seal_out A N A1 A2 kn kc k kc2 m c1 n c2 key fn fa fp W hs hT hg hk hN ha hp hc1 hc2
  exact seals_walk A N A1 A2 kn kc k kc2 m c1 n c2 er q f W hs hT hg p1 r1
end Go.Proofs.YtajifdnfibojfaaDoor

namespace Go.Proofs.YtajifdnfibojfaaDoor
open Go Go.RowKit Go.ChangeShapes Go.WideShapes Go.ChangeAt
set_option maxRecDepth 100000

theorem g64 : Tryd.prog.globalNamed "math/bits.deBruijn64tab" = some 2 := by kernel_rfl
theorem g64Type : (Tryd.prog.globals[2]?).map (·.type) = some 94 := by kernel_rfl
theorem und64 : Tryd.prog.underlying 94 = some (.array 64 5) := by kernel_rfl
theorem cells64 : Tryd.prog.cellsOf 94 = 64 := by kernel_rfl
def zs64 : List Int := [0, 1, 56, 2, 57, 49, 28, 3, 61, 58, 42, 50, 38, 29, 17, 4, 62, 47, 59, 36, 45, 43, 51, 22, 53, 39, 33, 30, 24, 18, 12, 5, 63, 55, 48, 27, 60, 41, 37, 16, 46, 35, 44, 21, 52, 32, 23, 11, 54, 26, 40, 15, 34, 20, 31, 10, 25, 14, 19, 9, 13, 8, 7, 6]
def zs32 : List Int := [0, 1, 28, 2, 29, 14, 24, 3, 30, 22, 20, 15, 25, 17, 4, 8, 31, 27, 13, 23, 21, 19, 16, 7, 26, 12, 18, 6, 11, 5, 10, 9]
theorem zs64_at : ∀ j : Fin 64, zs64.getD j.val 0 = ((Lib.deBruijn64tab.getD j.val 0 : Nat) : Int) := by decide +kernel
theorem len64 : Lib.deBruijn64tab.length = 64 := by kernel_rfl
set_option maxRecDepth 100000 in
theorem deb_row {W : World} (h : laidMetH Tryd.prog [("math/bits.deBruijn64tab", Rows.laid_math_bits_deBruijn64tab)] W) : DeB W := by
  have ht : Lib.TabIs Tryd.prog W "math/bits.deBruijn64tab" .u8 zs64 := Lib.tabIs_of_head (rest := []) g64 g64Type und64 und8 cells8 cells64 h
  intro j hj
  rw [len64] at hj
  rw [ht.cell g64 j (by show j < 64; exact hj), zs64_at ⟨j, hj⟩]
theorem deb_lt {W : World} (h : DeB W) : 2 < W.heap.size := block_lt_of_cell (h 0 (by rw [len64]; omega))
end Go.Proofs.YtajifdnfibojfaaDoor
