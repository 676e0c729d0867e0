/- The laws of layer 10, walked (mkvp.py writes this text). -/
import Derived.Test.YtglplhbhpaegeaaVr
namespace Go.Proofs.Ytglplhbhpaegeaa
open Go Go.RowKit
set_option maxRecDepth 100000

theorem keep_as (g gd : Nat) (V : Vt) (D : Dk) (Ed Ev : Hl) (hD : DkAt gd D Ed) (hV : VtAt g V Ev) (hg : V.gd = gd) (b : List UInt8) (Ab : Option Addr) (cb : Nat) (hA : Off Ab b.length (bks ([Ed, Ev] : List Hl).flatten)) (hb : b.length ≤ 140737488355328) (hU : D.uns.length ≤ 700000) {e : Nat} {D' : Dk} {V' : Vt} (hk : V.keep D b = (e, D', V')) : Does Try.prog 14 #[.pointer (some ⟨g, 0, none⟩), .slice Ab b.length cb] ([Ed, Ev] : List Hl).flatten (fun w => Vu cByte w Ab b.length cb b) (fun v E' => v = .int .i64 (e : Int) ∧ ∃ E1 E2, E' = ([E1, E2] : List Hl).flatten ∧ DkAt gd D' E1 ∧ VtAt g V' E2) := by
  subst hg
  have h := keep_v g V D Ed Ev hD hV b Ab cb hA hb hU
  rw [hk] at h
  exact h
theorem new_now (m : Nat) : (Dk.new m).now.length = m := List.length_replicate
theorem kept_le {gd : Nat} {S : List Sec} (h : S.length ≤ 4000) : (vtOf gd S).kept.length ≤ 127936 := by
  have h1 := (latest_ok (halfOf S * 64) S).size
  have h2 : halfOf S = (S.length - 2) / 2 := rfl
  show (List.take _ _).length ≤ _
  rw [List.length_take]
  show min (headOf S).size _ ≤ _
  have h3 : (headOf S).size ≤ halfOf S * 64 := h1
  omega
theorem head_new (m : Nat) : headOf (Dk.new m).now = hd0 := by
  have hz : ∀ i, (Dk.new m).now.getD i (fun _ => 0) = fun _ => 0 := fun i => by
    rw [List.getD_eq_getElem?_getD]
    show (List.replicate m _)[i]?.getD _ = _
    rw [List.getElem?_replicate]
    split <;> rfl
  have h0 : numB (lst 64 fun _ => 0) = 0 := by decide
  have hs : ∀ (room i : Nat) (h : Hd), stepH room i (lst 64 fun _ => 0) h = h := fun room i h => by
    unfold stepH
    rw [if_neg (fun q => by have := q.1.1; rw [h0] at this; omega)]
  show stepH _ 1 (lst 64 ((Dk.new m).now.getD 1 fun _ => 0)) (stepH _ 0 (lst 64 ((Dk.new m).now.getD 0 fun _ => 0)) hd0) = hd0
  rw [hz, hz, hs, hs]
theorem vt_new (gd m : Nat) : (vtOf gd (Dk.new m).now).kept = [] ∧ (vtOf gd (Dk.new m).now).number = 0 := by
  constructor
  · show textH _ (headOf (Dk.new m).now) _ = []
    rw [head_new]; rfl
  · show (headOf (Dk.new m).now).number = 0
    rw [head_new]; rfl
/-- Keeping, while the power lasts. -/
theorem keep_free {D : Dk} {gd : Nat} {b : List UInt8} (hR : AtRest D) (hf : D.fused = false) (h4 : 4 ≤ D.now.length) (h5 : D.now.length ≤ 4000) (hb : b.length ≤ halfOf D.now * 64) (hn : (vtOf gd D.now).number < 18446744073709551615) :
    ∃ D', (vtOf gd D.now).keep D b = (0, D', vtOf gd D'.now) ∧ AtRest D' ∧ D'.now.length = D.now.length ∧ (vtOf gd D'.now).kept = b ∧ (vtOf gd D'.now).number = (vtOf gd D.now).number + 1 ∧ D'.fused = false := by
  rcases keep_rest (gd := gd) (b := b) hR rfl h4 h5 hb hn with ⟨D', h1, h2, h3, h4, h5, h6⟩ | ⟨_, _, h, _⟩
  · exact ⟨D', h1, h2, h3, h4, h5, by rw [h6]; exact hf⟩
  · rw [hf] at h; cases h

set_option maxHeartbeats 8000000 in
theorem awake_c  : Pure Try.prog 7 #[] (fun _ => True) (.bool true) := by
  refine pure_of (fn := Try.f7) Try.func7 rfl Try.ntmps7 (Nat.le_of_ble_eq_true rfl) rfl ?_
  intro w0 hH hR
  refine cxSeq ?_
  refine cxReg ?_
  refine pxV (v := (.bool false)) (fun _ _ hF => opAssign rfl rfl) rfl (fun _ _ => rfl) (kA rfl) (by decide) ?_
  refine pxEnd ?_
  refine qxThen ?_
  refine cxSeq ?_
  refine cxReg ?_
  refine pxM hH (fun _ hF => Does.small (new_c 10 10 (by decide) (leb rfl)) (fun w => opCall rfl Try.func9 rfl rfl (Evs.cons (v := (.int .i64 10)) rfl Evs.nil) w)) trivial rfl (fun _ _ => rfl) (kM [false] rfl rfl) (by decide) ?_
  clear hH
  rintro _ E2 w ⟨g1, rfl, hD3⟩ hH
  replace hH : HH w0 [] [E2] w := hH
  refine pxE 0 hH rfl (fun _ hF => Does.small (open_ok g1 (Dk.new 10) E2 hD3 (by rw [new_now]; exact leb rfl) rfl) (fun w => opCall rfl Try.func10 rfl rfl (Evs.cons (v := (.pointer (some ⟨g1, 0, none⟩))) (hF.ev 0 rfl) Evs.nil) w)) trivial rfl (fun _ _ => rfl) (kM [false] rfl rfl) (by decide) ?_
  clear hH
  rintro _ _ w ⟨g4, E5, E6, rfl, rfl, hD7, hV8⟩ hH
  replace hH : HH w0 [] [([E5, E6] : List Hl).flatten] w := hH
  replace hH : HH w0 [] [E5, E6] w := hH.cast (by simp)
  refine pxV (v := (.tuple #[(.pointer (some ⟨g4, 0, none⟩)), (.int .i64 0)])) (fun _ _ hF => opMove rfl (hF.ev 0 rfl)) rfl (fun _ _ => rfl) (kM [false] rfl rfl) (by decide) ?_
  refine pxV (v := (.pointer (some ⟨g4, 0, none⟩))) (fun _ _ hF => opExtract rfl (hF.ev 0 rfl) rfl) rfl (fun _ _ => rfl) (kA rfl) (by decide) ?_
  refine pxV (v := (.int .i64 0)) (fun _ _ hF => opExtract rfl (hF.ev 1 rfl) rfl) rfl (fun _ _ => rfl) (kM [true, false] rfl rfl) (by decide) ?_
  refine pxV (v := (.pointer (some ⟨g4, 0, none⟩))) (fun _ _ hF => opAssign rfl (hF.ev 1 rfl)) rfl (fun _ _ => rfl) (kM [true, false] rfl rfl) (by decide) ?_
  refine pxV (v := (.int .i64 0)) (fun _ _ hF => opAssign rfl (hF.ev 1 rfl)) rfl (fun _ _ => rfl) (kM [true, false] rfl rfl) (by decide) ?_
  refine pxEnd ?_
  refine qxThen ?_
  refine cxSeq ?_
  obtain ⟨D', hkp, hR', hl', hk1, hn1, _⟩ := keep_free (D := Dk.new 10) (gd := g1) (b := [97]) (rest_new 10) rfl (by rw [new_now]; exact leb rfl) (by rw [new_now]; exact leb rfl) (leb rfl) (by rw [(vt_new _ _).2]; decide)
  rw [(vt_new _ _).2] at hn1
  refine cxReg ?_
  refine pxV (v := (.int .i64 0)) (fun _ _ hF => opMove rfl (hF.ev 0 rfl)) rfl (fun _ _ => rfl) (kM [false, true] rfl rfl) (by decide) ?_
  refine pxV (v := (.bool true)) (fun _ _ hF => opEqI rfl (hF.ev 0 rfl) rfl (by decide)) rfl (fun _ _ => rfl) (kM [false, true] rfl rfl) (by decide) ?_
  refine pxV (v := (.bool true)) (fun _ _ hF => opMove rfl (hF.ev 0 rfl)) rfl (fun _ _ => rfl) (kM [false, true] rfl rfl) (by decide) ?_
  refine pxV (v := (.pointer (some ⟨g4, 0, none⟩))) (fun _ _ hF => opMove rfl (hF.ev 1 rfl)) rfl (gOn 0 rfl rfl rfl (by decide)) (kA rfl) (by decide) ?_
  refine pxV (v := (.bool true)) (fun _ _ hF => opNeNil (e := 61) rfl (by kernel_rfl) (hF.ev 0 rfl) rfl rfl) rfl (gOn 1 rfl rfl rfl (by decide)) (kM [false, true, true] rfl rfl) (by decide) ?_
  refine pxV (v := (.bool true)) (fun _ _ hF => opPickT rfl (hF.ev 1 rfl) (hF.ev 0 rfl)) rfl (fun _ _ => rfl) (kM [false, false, true] rfl rfl) (by decide) ?_
  refine pxV (v := (.bool true)) (fun _ _ hF => opMove rfl (hF.ev 0 rfl)) rfl (fun _ _ => rfl) (kM [false, true] rfl rfl) (by decide) ?_
  refine pxV (v := (.pointer (some ⟨g4, 0, none⟩))) (fun _ _ hF => opMove rfl (hF.ev 1 rfl)) rfl (gOn 0 rfl rfl rfl (by decide)) (kA rfl) (by decide) ?_
  refine pxM hH (fun _ hF => smLit1 (e := 5) (sz := 1) (z := (.int .u8 0)) (by_ := 1) (cs := cByte.enc 97) rfl (by kernel_rfl) (by kernel_rfl) rfl (cByte.len 97) (ltb rfl) (leb rfl) rfl) trivial rfl (gOn 1 rfl rfl rfl (by decide)) (kA rfl) (by decide) ?_
  clear hH
  rintro _ _ w ⟨g9, rfl, rfl⟩ hH
  replace hH : HH w0 [] [E5, E6, [bl g9 5 (cByte.enc 97)]] w := hH
  refine pxE 2 hH rfl (fun _ hF => smMark (e := 5) rfl (by kernel_rfl) (by kernel_rfl) (hF.ev 0 rfl)) trivial rfl (gOn 2 rfl rfl rfl (by decide)) (kM [false, true, true, true] rfl rfl) (by decide) ?_
  clear hH
  rintro _ _ w ⟨rfl, rfl⟩ hH
  replace hH : HH w0 [] [E5, E6, [mk g9 5 (cByte.enc 97)]] w := hH
  replace hH : HH w0 [] [([E5, E6] : List Hl).flatten, [mk g9 5 (cByte.enc 97)]] w := hH.cast (by simp)
  refine pxE 0 hH rfl (fun _ hF => Does.small (keep_as g4 g1 (vtOf g1 (Dk.new 10).now) (Dk.new 10) E5 E6 hD7 hV8 rfl ([97]) (some ⟨g9, 0, none⟩) 1 (hH.offM 0 1 rfl rfl rfl) (leb rfl) (Nat.zero_le _) hkp) (fun w => opCall rfl Try.func14 rfl rfl (Evs.cons (v := (.pointer (some ⟨g4, 0, none⟩))) (hF.ev 1 rfl) (Evs.cons (v := (.slice (some ⟨g9, 0, none⟩) 1 1)) (hF.ev 0 rfl) Evs.nil)) w)) ((Bk.lit1 (C := cByte) 97).vuM (hH.blk 1 rfl) rfl) rfl (gOn 2 rfl rfl rfl (by decide)) (kM [false, false, true, true] rfl rfl) (by decide) ?_
  clear hH
  rintro _ _ w ⟨rfl, E10, E11, rfl, hD12, hV13⟩ hH
  replace hH : HH w0 [] [([E10, E11] : List Hl).flatten, [mk g9 5 (cByte.enc 97)]] w := hH
  replace hH : HH w0 [] [E10, E11, [mk g9 5 (cByte.enc 97)]] w := hH.cast (by simp)
  refine pxV (v := (.bool true)) (fun _ _ hF => opEqI rfl (hF.ev 0 rfl) rfl (by decide)) rfl (gOn 1 rfl rfl rfl (by decide)) (kM [false, true, true] rfl rfl) (by decide) ?_
  refine pxV (v := (.bool true)) (fun _ _ hF => opPickT rfl (hF.ev 1 rfl) (hF.ev 0 rfl)) rfl (fun _ _ => rfl) (kM [false, false, true] rfl rfl) (by decide) ?_
  refine pxV (v := (.bool true)) (fun _ _ hF => opMove rfl (hF.ev 0 rfl)) rfl (fun _ _ => rfl) (kM [false, true] rfl rfl) (by decide) ?_
  refine pxV (v := (.pointer (some ⟨g4, 0, none⟩))) (fun _ _ hF => opMove rfl (hF.ev 1 rfl)) rfl (gOn 0 rfl rfl rfl (by decide)) (kA rfl) (by decide) ?_
  obtain ⟨A14, n15, c16, E17, hE19, hO18⟩ := hV13.at'
  obtain rfl : n15 = (vtOf g1 D'.now).kept.length := hO18.len
  replace hH : HH w0 [] [E10, [bl g4 61 #[(.pointer (some ⟨(vtOf g1 D'.now).gd, 0, none⟩)), (.int .i64 ((((vtOf g1 D'.now).half) : Nat) : Int)), (.int .i64 ((((vtOf g1 D'.now).sector) : Nat) : Int)), (.int .u64 ((((vtOf g1 D'.now).number) : Nat) : Int)), (.int .u64 ((((vtOf g1 D'.now).size) : Nat) : Int)), (.int .i64 ((((vtOf g1 D'.now).area) : Nat) : Int)), (.slice A14 ((vtOf g1 D'.now).kept.length) c16), (.bool ((vtOf g1 D'.now).over))]], E17, [mk g9 5 (cByte.enc 97)]] w := hH.cast (by rw [hE19]; simp)
  refine pxM hH (fun _ hF => Does.small (load_c g4 (vtOf g1 D'.now) A14 c16 (by rw [hk1]; exact leb rfl)) (fun w => opCall rfl Try.func12 rfl rfl (Evs.cons (v := (.pointer (some ⟨g4, 0, none⟩))) (hF.ev 0 rfl) Evs.nil) w)) ⟨hH.blk 1 rfl, (hO18.vuAt (hH.has 2 rfl))⟩ rfl (gOn 1 rfl rfl rfl (by decide)) (kM [false, true, true] rfl rfl) (by decide) ?_
  clear hH
  rintro v24 E20 w hO21 hH
  replace hH : HH w0 [] [E10, [bl g4 61 #[(.pointer (some ⟨(vtOf g1 D'.now).gd, 0, none⟩)), (.int .i64 ((((vtOf g1 D'.now).half) : Nat) : Int)), (.int .i64 ((((vtOf g1 D'.now).sector) : Nat) : Int)), (.int .u64 ((((vtOf g1 D'.now).number) : Nat) : Int)), (.int .u64 ((((vtOf g1 D'.now).size) : Nat) : Int)), (.int .i64 ((((vtOf g1 D'.now).area) : Nat) : Int)), (.slice A14 ((vtOf g1 D'.now).kept.length) c16), (.bool ((vtOf g1 D'.now).over))]], E17, [mk g9 5 (cByte.enc 97)], E20] w := hH
  obtain ⟨A22, c23, rfl⟩ := hO21.slice
  refine pxS (v := (.string (strL ((vtOf g1 D'.now).kept)))) (fun w => Vu cByte w A22 ((vtOf g1 D'.now).kept.length) c23 ((vtOf g1 D'.now).kept)) (hO21.vuAt (hH.has 4 rfl)) (fun _ _ hF hS => opStr (e := 5) rfl (by kernel_rfl) (by kernel_rfl) (by kernel_rfl) (hF.ev 0 rfl) hS) rfl (gOn 1 rfl rfl rfl (by decide)) (kM [false, true, true] rfl rfl) (by decide) ?_
  refine pxV (v := (.bool true)) (fun _ _ hF => opEqS rfl (hF.ev 0 rfl) rfl (decide_eq_true (by rw [hk1]))) rfl (gOn 1 rfl rfl rfl (by decide)) (kM [false, true, true] rfl rfl) (by decide) ?_
  refine pxV (v := (.bool true)) (fun _ _ hF => opPickT rfl (hF.ev 1 rfl) (hF.ev 0 rfl)) rfl (fun _ _ => rfl) (kM [false, false, true] rfl rfl) (by decide) ?_
  refine pxV (v := (.bool true)) (fun _ _ hF => opMove rfl (hF.ev 0 rfl)) rfl (fun _ _ => rfl) (kM [false, true] rfl rfl) (by decide) ?_
  refine pxV (v := (.pointer (some ⟨g4, 0, none⟩))) (fun _ _ hF => opMove rfl (hF.ev 1 rfl)) rfl (gOn 0 rfl rfl rfl (by decide)) (kM [true, false] rfl rfl) (by decide) ?_
  refine pxM hH (fun _ hF => Does.small ((Pure.as (v := (.int .u64 ((((vtOf g1 D'.now).number) : Nat) : Int))) (number_c g4 (vtOf g1 D'.now) A14 c16) rfl).does) (fun w => opCall rfl Try.func13 rfl rfl (Evs.cons (v := (.pointer (some ⟨g4, 0, none⟩))) (hF.ev 0 rfl) Evs.nil) w)) (hH.blk 1 rfl) rfl (gOn 1 rfl rfl rfl (by decide)) (kM [false, true] rfl rfl) (by decide) ?_
  clear hH
  rintro _ _ w ⟨rfl, rfl⟩ hH
  replace hH : HH w0 [] [E10, [bl g4 61 #[(.pointer (some ⟨(vtOf g1 D'.now).gd, 0, none⟩)), (.int .i64 ((((vtOf g1 D'.now).half) : Nat) : Int)), (.int .i64 ((((vtOf g1 D'.now).sector) : Nat) : Int)), (.int .u64 ((((vtOf g1 D'.now).number) : Nat) : Int)), (.int .u64 ((((vtOf g1 D'.now).size) : Nat) : Int)), (.int .i64 ((((vtOf g1 D'.now).area) : Nat) : Int)), (.slice A14 ((vtOf g1 D'.now).kept.length) c16), (.bool ((vtOf g1 D'.now).over))]], E17, [mk g9 5 (cByte.enc 97)], E20] w := hH.unpad
  refine pxV (v := (.bool true)) (fun _ _ hF => opEqI rfl (hF.ev 0 rfl) rfl (decide_eq_true (by rw [hn1]; rfl))) rfl (gOn 1 rfl rfl rfl (by decide)) (kM [false, true] rfl rfl) (by decide) ?_
  refine pxV (v := (.bool true)) (fun _ _ hF => opPickT rfl (hF.ev 1 rfl) (hF.ev 0 rfl)) rfl (fun _ _ => rfl) (kM [false, false] rfl rfl) (by decide) ?_
  refine pxV (v := (.bool true)) (fun _ _ hF => opAssign rfl (hF.ev 0 rfl)) rfl (fun _ _ => rfl) (kM [false] rfl rfl) (by decide) ?_
  refine pxEnd ?_
  refine qxThen ?_
  refine cxRet ?_
  refine qxRet1 0 rfl rfl ?_
  exact ⟨rfl, HH.toBelow hH⟩

abbrev SlH := Option Addr × Nat × Nat
def totS (l : List SlH) : Nat := (l.map (·.2.1)).sum
theorem totS_take {l : List SlH} {i : Nat} {x : SlH} (hx : l[i]? = some x) : totS (l.take (i + 1)) = totS (l.take i) + x.2.1 := by
  unfold totS
  rw [List.take_add_one, hx]
  simp
theorem totS_le {l : List SlH} {i : Nat} {x : SlH} (hx : l[i]? = some x) : x.2.1 ≤ totS l := by
  have h1 := totS_take hx
  have h2 : totS l = totS (l.take (i + 1)) + totS (l.drop (i + 1)) := by
    unfold totS
    rw [← List.sum_append, ← List.map_append, List.take_append_drop]
  omega

set_option maxHeartbeats 8000000 in
theorem few_c (raws : List SlH) (A : Option Addr) (c : Nat) (hbig : ∀ x ∈ raws, x.2.1 ≤ 140737488355328) (hlen : raws.length ≤ 140737488355328) : Does Try.prog 8 #[(.slice A raws.length c)] [] (fun w => Vu cSl w A raws.length c raws) (fun v E' => E' = [] ∧ ∃ b, v = .bool b ∧ (b = true → raws.length ≤ 60 ∧ totS raws ≤ 60000)) := by
  refine does_of (fn := Try.f8) Try.func8 rfl Try.ntmps8 (Nat.le_of_ble_eq_true rfl) rfl ?_
  intro w0 hH hR
  replace hH : HH w0 [] [] w0 := hH.only [false]
  refine cxSeq ?_
  refine cxReg ?_
  refine pxV (v := (.bool false)) (fun _ _ hF => opAssign rfl rfl) rfl (fun _ _ => rfl) (kA rfl) (by decide) ?_
  refine pxEnd ?_
  refine qxThen ?_
  refine cxSeq ?_
  refine cxReg ?_
  refine pxV (v := (.int .i64 0)) (fun _ _ hF => opAssign rfl rfl) rfl (fun _ _ => rfl) (kM [false, true] rfl rfl) (by decide) ?_
  refine pxEnd ?_
  refine qxThen ?_
  refine cxSeq ?_
  refine cxSeq ?_
  refine cxReg ?_
  refine pxV (v := (.slice A raws.length c)) (fun _ _ hF => opMove rfl (hF.ev 1 rfl)) rfl (fun _ _ => rfl) (kA rfl) (by decide) ?_
  refine pxV (v := (.int .i64 (((raws.length) : Nat) : Int))) (fun _ _ hF => opLen (e := 32) rfl (by kernel_rfl) (hF.ev 0 rfl)) rfl (fun _ _ => rfl) (kM [false, true, true] rfl rfl) (by decide) ?_
  refine pxV (v := (.int .i64 0)) (fun _ _ hF => opMove rfl rfl) rfl (fun _ _ => rfl) (kA rfl) (by decide) ?_
  refine pxEnd ?_
  refine qxThen ?_
  refine cxBlock ?_
  refine cxLoop (σ := Nat × Nat) (fun x => [(7, (.int .i64 (((x.1) : Nat) : Int))), (6, (.int .i64 (((raws.length) : Nat) : Int))), (3, (.int .i64 (((x.2) : Nat) : Int))), (0, (.slice A raws.length c))]) (fun x w => HH w0 [] [] w ∧ (x.1 ≤ raws.length) ∧ (x.1 ≤ 60) ∧ (x.2 ≤ 60000) ∧ (x.2 = totS (raws.take x.1))) (fun x => raws.length - x.1) (0, 0) ⟨hH, (Nat.zero_le _), (Nat.zero_le _), (Nat.zero_le _), rfl⟩ (slots_at [0, 1, 2, 3] rfl) ?_
  clear hH
  rintro ⟨i, s⟩ w ⟨hH, hi, h60, hs, hT⟩
  change CX _ _ _ _ [(7, (.int .i64 (((i) : Nat) : Int))), (6, (.int .i64 (((raws.length) : Nat) : Int))), (3, (.int .i64 (((s) : Nat) : Int))), (0, (.slice A raws.length c))] _
  replace hH : HH w0 [] [] w := hH
  replace hi : i ≤ raws.length := hi
  replace h60 : i ≤ 60 := h60
  replace hs : s ≤ 60000 := hs
  replace hT : s = totS (raws.take i) := hT
  refine cxSeq ?_
  refine cxReg ?_
  refine pxV (v := (.bool (decide (i < raws.length)))) (fun _ _ hF => opLss rfl (hF.ev 0 rfl) (hF.ev 1 rfl) (dc (by omega))) rfl (fun _ _ => rfl) (kA rfl) (by decide) ?_
  refine pxEnd ?_
  refine qxThen ?_
  refine cxSeq ?_
  refine cxP 0 rfl rfl (fun hc1 => ?_) (fun hc1 => ?_)
  · refine cxSkip ?_
    refine qxThen ?_
    refine cxSeq ?_
    refine cxBlock ?_
    refine cxSeq ?_
    refine cxReg ?_
    refine pxV (v := (.int .i64 (((i) : Nat) : Int))) (fun _ _ hF => opMove rfl (hF.ev 1 rfl)) rfl (fun _ _ => rfl) (kM [false, true, true, true, true] rfl rfl) (by decide) ?_
    refine pxV (v := (.int .i64 (((i) : Nat) : Int))) (fun _ _ hF => opAssign rfl (hF.ev 0 rfl)) rfl (fun _ _ => rfl) (kM [false, true, true, true, true] rfl rfl) (by decide) ?_
    refine pxEnd ?_
    refine qxThen ?_
    refine cxSeq ?_
    obtain ⟨x0, hx0⟩ := get_at raws i (by omega)
    have hb0 := hbig _ (List.mem_of_getElem? hx0)
    refine cxReg ?_
    refine pxV (v := (.int .i64 (((s) : Nat) : Int))) (fun _ _ hF => opMove rfl (hF.ev 3 rfl)) rfl (fun _ _ => rfl) (kM [true, true, true, false, true] rfl rfl) (by decide) ?_
    refine pxV (v := (.slice A raws.length c)) (fun _ _ hF => opMove rfl (hF.ev 4 rfl)) rfl (fun _ _ => rfl) (kA rfl) (by decide) ?_
    refine pxV (v := (.int .i64 (((i) : Nat) : Int))) (fun _ _ hF => opMove rfl (hF.ev 2 rfl)) rfl (fun _ _ => rfl) (kA rfl) (by decide) ?_
    have hi2 : i < raws.length := by omega
    obtain ⟨b3, off4, rfl, hL5, hb6, hR7⟩ := hR.blk (by decide) (Off.nil _ _) (by omega)
    have := hR.cap
    have hj10 : i < raws.length := by first | exact hi2 | (simp only [List.length_drop, List.length_take]; omega) | omega
    refine pxV (v := (.pointer (some ⟨b3, off4 + i * 1, none⟩))) (fun _ _ hF => opIndex (i := i) (e := 32) (sz := 1) rfl (by kernel_rfl) (by kernel_rfl) (hF.ev 1 rfl) (hF.ev 0 rfl) rfl hi2) rfl (fun _ _ => rfl) (kM [false, false, true, true, true, true, true] rfl rfl) (by decide) ?_
    refine pxS (v := (.slice x0.1 x0.2.1 x0.2.2)) (fun w => HoldsL cSl w b3 off4 raws) (hH.holdsL hL5 hb6 hR7) (fun _ _ hF hS => opLoadT (C := cSl) (y := x0) rfl (hF.ev 0 rfl) (by kernel_rfl) (hS i _ hx0) rfl) rfl (fun _ _ => rfl) (kM [false, true, true, true, true, true] rfl rfl) (by decide) ?_
    refine pxV (v := (.int .i64 (((x0.2.1) : Nat) : Int))) (fun _ _ hF => opLen (e := 5) rfl (by kernel_rfl) (hF.ev 0 rfl)) rfl (fun _ _ => rfl) (kM [false, true, true, true, true, true] rfl rfl) (by decide) ?_
    refine pxV (v := (.int .i64 (((s + x0.2.1) : Nat) : Int))) (fun _ _ hF => opAdd rfl (hF.ev 1 rfl) (hF.ev 0 rfl) (wI rfl (by omega) (by omega))) rfl (fun _ _ => rfl) (kM [false, false, true, true, true, true] rfl rfl) (by decide) ?_
    refine pxV (v := (.int .i64 (((s + x0.2.1) : Nat) : Int))) (fun _ _ hF => opAssign rfl (hF.ev 0 rfl)) rfl (fun _ _ => rfl) (kM [false, true, true, true, true] rfl rfl) (by decide) ?_
    refine pxEnd ?_
    refine qxThen ?_
    refine cxSeq ?_
    refine cxReg ?_
    refine pxV (v := (.int .i64 (((i) : Nat) : Int))) (fun _ _ hF => opMove rfl (hF.ev 1 rfl)) rfl (fun _ _ => rfl) (kM [true, false, true, true, true] rfl rfl) (by decide) ?_
    refine pxV (v := (.bool (decide (i ≥ 60)))) (fun _ _ hF => opGeq rfl (hF.ev 0 rfl) rfl (dc (by omega))) rfl (fun _ _ => rfl) (kM [false, true, true, true, true] rfl rfl) (by decide) ?_
    refine pxV (v := (.bool (decide (i ≥ 60)))) (fun _ _ hF => opMove rfl (hF.ev 0 rfl)) rfl (fun _ _ => rfl) (kM [false, true, true, true, true] rfl rfl) (by decide) ?_
    refine pxSplitP 0 rfl (l1 := [(19, (.bool true)), (3, (.int .i64 (((s + x0.2.1) : Nat) : Int))), (7, (.int .i64 (((i) : Nat) : Int))), (6, (.int .i64 (((raws.length) : Nat) : Int))), (0, (.slice (some ⟨b3, off4, none⟩) raws.length c))]) (l2 := [(19, (.bool false)), (3, (.int .i64 (((s + x0.2.1) : Nat) : Int))), (7, (.int .i64 (((i) : Nat) : Int))), (6, (.int .i64 (((raws.length) : Nat) : Int))), (0, (.slice (some ⟨b3, off4, none⟩) raws.length c))]) rfl rfl (fun hg11 => ?_) (fun hg11 => ?_)
    · refine pxU rfl (gOff 0 rfl rfl rfl (by decide)) (kA rfl) (by decide) ?_
      refine pxU rfl (gOff 0 rfl rfl rfl (by decide)) (kA rfl) (by decide) ?_
      refine pxV (v := (.bool true)) (fun _ _ hF => opPickT rfl (hF.ev 0 rfl) rfl) rfl (fun _ _ => rfl) (kM [false, true, true, true, true] rfl rfl) (by decide) ?_
      refine pxEnd ?_
      refine qxThen ?_
      refine cxT 0 rfl rfl ?_
      refine cxSeq ?_
      refine cxReg ?_
      refine pxV (v := (.bool false)) (fun _ _ hF => opAssign rfl rfl) rfl (fun _ _ => rfl) (kM [false, false, false, false, false] rfl rfl) (by decide) ?_
      refine pxEnd ?_
      refine qxThen ?_
      refine cxRet ?_
      refine qxInR ?_
      refine qxThenR ?_
      refine qxThenR ?_
      refine qxInR ?_
      refine qxThenR ?_
      refine qxRet1 0 rfl rfl ?_
      exact ⟨_, _, rfl, ⟨rfl, false, rfl, fun h => by cases h⟩, hH⟩
    · refine pxV (v := (.int .i64 (((s + x0.2.1) : Nat) : Int))) (fun _ _ hF => opMove rfl (hF.ev 1 rfl)) rfl (gOn 0 rfl rfl rfl (by decide)) (kA rfl) (by decide) ?_
      refine pxV (v := (.bool (decide (s + x0.2.1 > 60000)))) (fun _ _ hF => opGtr rfl (hF.ev 0 rfl) rfl (dc (by omega))) rfl (gOn 1 rfl rfl rfl (by decide)) (kM [false, true, true, true, true, true] rfl rfl) (by decide) ?_
      refine pxV (v := (.bool (decide (s + x0.2.1 > 60000)))) (fun _ _ hF => opPickF rfl (hF.ev 1 rfl) (hF.ev 0 rfl)) rfl (fun _ _ => rfl) (kM [false, false, true, true, true, true] rfl rfl) (by decide) ?_
      refine pxEnd ?_
      refine qxThen ?_
      refine cxP 0 rfl rfl (fun hc12 => ?_) (fun hc12 => ?_)
      · refine cxSeq ?_
        refine cxReg ?_
        refine pxV (v := (.bool false)) (fun _ _ hF => opAssign rfl rfl) rfl (fun _ _ => rfl) (kM [false, false, false, false, false] rfl rfl) (by decide) ?_
        refine pxEnd ?_
        refine qxThen ?_
        refine cxRet ?_
        refine qxInR ?_
        refine qxThenR ?_
        refine qxThenR ?_
        refine qxInR ?_
        refine qxThenR ?_
        refine qxRet1 0 rfl rfl ?_
        exact ⟨_, _, rfl, ⟨rfl, false, rfl, fun h => by cases h⟩, hH⟩
      · refine cxSkip ?_
        refine qxInN ?_
        refine qxThen ?_
        refine cxReg ?_
        refine pxV (v := (.int .i64 (((i + 1) : Nat) : Int))) (fun _ _ hF => opAdd rfl (hF.ev 2 rfl) rfl (wI (by omega) (by omega) (by omega))) rfl (fun _ _ => rfl) (kM [false, true, false, true, true] rfl rfl) (by decide) ?_
        refine pxV (v := (.int .i64 (((i + 1) : Nat) : Int))) (fun _ _ hF => opMove rfl (hF.ev 0 rfl)) rfl (fun _ _ => rfl) (kM [false, true, true, true] rfl rfl) (by decide) ?_
        refine pxEnd ?_
        exact qxRound (i + 1, s + x0.2.1) ⟨hH, (show (i + 1) ≤ raws.length from (by omega)), (show (i + 1) ≤ 60 from (by omega)), (show (s + x0.2.1) ≤ 60000 from (by omega)), (by rw [hT, totS_take hx0])⟩ (by omega) (slots_at [0, 2, 1, 3] rfl)
  · refine cxExit ?_
    refine qxThenE ?_
    refine qxThenE ?_
    refine qxInE ?_
    refine qxThen ?_
    refine cxSeq ?_
    refine cxReg ?_
    refine pxV (v := (.bool true)) (fun _ _ hF => opAssign rfl rfl) rfl (fun _ _ => rfl) (kM [false, false, false, false, false] rfl rfl) (by decide) ?_
    refine pxEnd ?_
    refine qxThen ?_
    refine cxRet ?_
    refine qxRet1 0 rfl rfl ?_
    exact ⟨_, _, rfl, ⟨rfl, true, rfl, fun _ => ⟨by omega, by rw [List.take_of_length_le (by omega)] at hT; omega⟩⟩, hH⟩

set_option maxHeartbeats 8000000 in
theorem nil_l (x : UInt8) (A : Option Addr) (n c : Nat) : Pure Try.prog 6 #[(.int .u8 (((x.toNat) : Nat) : Int)), (.slice A n c)] (fun _ => True) (.bool true) := by
  refine pure_of (fn := Try.f6) Try.func6 rfl Try.ntmps6 (Nat.le_of_ble_eq_true rfl) rfl ?_
  intro w0 hH hR
  have hx := x.toNat_lt
  refine cxSeq ?_
  refine cxReg ?_
  refine pxV (v := (.bool false)) (fun _ _ hF => opAssign rfl rfl) rfl (fun _ _ => rfl) (kA rfl) (by decide) ?_
  refine pxEnd ?_
  refine qxThen ?_
  refine cxSeq ?_
  refine cxSeq ?_
  refine cxReg ?_
  refine pxM hH (fun _ hF => Does.small ((awake_c ).does) (fun w => opCall rfl Try.func7 rfl rfl Evs.nil w)) trivial rfl (fun _ _ => rfl) (kM [false, true, true] rfl rfl) (by decide) ?_
  clear hH
  rintro _ _ w ⟨rfl, rfl⟩ hH
  replace hH : HH w0 [] [] w := hH.unpad
  refine pxV (v := (.bool false)) (fun _ _ hF => opNot rfl (hF.ev 0 rfl) rfl) rfl (fun _ _ => rfl) (kM [false, true, true] rfl rfl) (by decide) ?_
  refine pxEnd ?_
  refine qxThen ?_
  refine cxF 0 rfl rfl ?_
  refine cxSkip ?_
  refine qxThen ?_
  refine cxSeq ?_
  refine cxReg ?_
  refine pxV (v := (.pointer none)) (fun _ _ hF => opAssign rfl rfl) rfl (fun _ _ => rfl) (kM [false, true, true] rfl rfl) (by decide) ?_
  refine pxEnd ?_
  refine qxThen ?_
  refine cxSeq ?_
  refine cxReg ?_
  refine pxV (v := (.int .u8 (((x.toNat) : Nat) : Int))) (fun _ _ hF => opMove rfl (hF.ev 1 rfl)) rfl (fun _ _ => rfl) (kM [true, false, true] rfl rfl) (by decide) ?_
  refine pxV (v := (.int .u8 (((x.toNat % 4) : Nat) : Int))) (fun _ _ hF => opRem (z := ((x.toNat % 4 : Nat) : Int)) rfl (hF.ev 0 rfl) rfl (by omega) remN) rfl (fun _ _ => rfl) (kM [false, true, true] rfl rfl) (by decide) ?_
  refine pxV (v := (.int .i64 (((x.toNat % 4) : Nat) : Int))) (fun _ _ hF => opConvI (k' := .i64) rfl (by kernel_rfl) (by kernel_rfl) (hF.ev 0 rfl) (wI rfl (by omega) (by omega))) rfl (fun _ _ => rfl) (kM [false, true, true] rfl rfl) (by decide) ?_
  refine pxM hH (fun _ hF => Does.small (new_c (((x.toNat % 4) : Nat) : Int) (x.toNat % 4) (by omega) (by omega)) (fun w => opCall rfl Try.func9 rfl rfl (Evs.cons (v := (.int .i64 (((x.toNat % 4) : Nat) : Int))) (hF.ev 0 rfl) Evs.nil) w)) trivial rfl (fun _ _ => rfl) (kM [false, true, true] rfl rfl) (by decide) ?_
  clear hH
  rintro _ E2 w ⟨g1, rfl, hD3⟩ hH
  replace hH : HH w0 [] [E2] w := hH
  refine pxE 0 hH rfl (fun _ hF => Does.small (open_sh g1 (Dk.new (x.toNat % 4)) E2 hD3 (by rw [new_now]; omega)) (fun w => opCall rfl Try.func10 rfl rfl (Evs.cons (v := (.pointer (some ⟨g1, 0, none⟩))) (hF.ev 0 rfl) Evs.nil) w)) trivial rfl (fun _ _ => rfl) (kM [false, true, true] rfl rfl) (by decide) ?_
  clear hH
  rintro _ E4 w ⟨rfl, hD5⟩ hH
  replace hH : HH w0 [] [E4] w := hH
  refine pxV (v := (.tuple #[(.pointer none), (.int .i64 1)])) (fun _ _ hF => opMove rfl (hF.ev 0 rfl)) rfl (fun _ _ => rfl) (kM [false, true, true] rfl rfl) (by decide) ?_
  refine pxV (v := (.pointer none)) (fun _ _ hF => opExtract rfl (hF.ev 0 rfl) rfl) rfl (fun _ _ => rfl) (kA rfl) (by decide) ?_
  refine pxV (v := (.int .i64 1)) (fun _ _ hF => opExtract rfl (hF.ev 1 rfl) rfl) rfl (fun _ _ => rfl) (kM [true, false, true, true] rfl rfl) (by decide) ?_
  refine pxV (v := (.pointer none)) (fun _ _ hF => opAssign rfl (hF.ev 1 rfl)) rfl (fun _ _ => rfl) (kM [true, false, true, true] rfl rfl) (by decide) ?_
  refine pxV (v := (.int .i64 1)) (fun _ _ hF => opAssign rfl (hF.ev 1 rfl)) rfl (fun _ _ => rfl) (kM [false, false, true, true] rfl rfl) (by decide) ?_
  refine pxEnd ?_
  refine qxThen ?_
  refine cxSeq ?_
  refine cxReg ?_
  refine pxM hH (fun _ hF => Does.small (open_nil.does) (fun w => opCall rfl Try.func10 rfl rfl (Evs.cons (v := (.pointer none)) rfl Evs.nil) w)) trivial rfl (fun _ _ => rfl) (kA rfl) (by decide) ?_
  clear hH
  rintro _ _ w ⟨rfl, rfl⟩ hH
  replace hH : HH w0 [] [E4] w := hH.unpad
  refine pxV (v := (.tuple #[(.pointer none), (.int .i64 1)])) (fun _ _ hF => opMove rfl (hF.ev 0 rfl)) rfl (fun _ _ => rfl) (kM [false, true, true, true] rfl rfl) (by decide) ?_
  refine pxV (v := (.pointer none)) (fun _ _ hF => opExtract rfl (hF.ev 0 rfl) rfl) rfl (fun _ _ => rfl) (kA rfl) (by decide) ?_
  refine pxV (v := (.int .i64 1)) (fun _ _ hF => opExtract rfl (hF.ev 1 rfl) rfl) rfl (fun _ _ => rfl) (kM [true, false, true, true, true] rfl rfl) (by decide) ?_
  refine pxV (v := (.pointer none)) (fun _ _ hF => opAssign rfl (hF.ev 1 rfl)) rfl (fun _ _ => rfl) (kM [true, false, true, true, true] rfl rfl) (by decide) ?_
  refine pxV (v := (.int .i64 1)) (fun _ _ hF => opAssign rfl (hF.ev 1 rfl)) rfl (fun _ _ => rfl) (kM [false, false, true, true, true] rfl rfl) (by decide) ?_
  refine pxEnd ?_
  refine qxThen ?_
  refine cxSeq ?_
  refine cxReg ?_
  refine pxV (v := (.int .i64 1)) (fun _ _ hF => opMove rfl (hF.ev 1 rfl)) rfl (fun _ _ => rfl) (kM [true, false, true, true] rfl rfl) (by decide) ?_
  refine pxV (v := (.bool true)) (fun _ _ hF => opEqI rfl (hF.ev 0 rfl) rfl (by decide)) rfl (fun _ _ => rfl) (kM [false, true, true, true] rfl rfl) (by decide) ?_
  refine pxV (v := (.bool true)) (fun _ _ hF => opMove rfl (hF.ev 0 rfl)) rfl (fun _ _ => rfl) (kM [false, true, true, true] rfl rfl) (by decide) ?_
  refine pxV (v := (.int .i64 1)) (fun _ _ hF => opMove rfl (hF.ev 1 rfl)) rfl (gOn 0 rfl rfl rfl (by decide)) (kM [true, false, true, true] rfl rfl) (by decide) ?_
  refine pxV (v := (.bool true)) (fun _ _ hF => opEqI rfl (hF.ev 0 rfl) rfl (by decide)) rfl (gOn 1 rfl rfl rfl (by decide)) (kM [false, true, true, true] rfl rfl) (by decide) ?_
  refine pxV (v := (.bool true)) (fun _ _ hF => opPickT rfl (hF.ev 1 rfl) (hF.ev 0 rfl)) rfl (fun _ _ => rfl) (kM [false, false, true, true] rfl rfl) (by decide) ?_
  refine pxV (v := (.bool true)) (fun _ _ hF => opMove rfl (hF.ev 0 rfl)) rfl (fun _ _ => rfl) (kM [false, true, true] rfl rfl) (by decide) ?_
  refine pxV (v := (.pointer none)) (fun _ _ hF => opMove rfl (hF.ev 1 rfl)) rfl (gOn 0 rfl rfl rfl (by decide)) (kA rfl) (by decide) ?_
  refine pxV (v := (.slice A n c)) (fun _ _ hF => opMove rfl (hF.ev 3 rfl)) rfl (gOn 1 rfl rfl rfl (by decide)) (kM [true, true, true, false] rfl rfl) (by decide) ?_
  refine pxM hH (fun _ hF => Does.small ((keep_n A n c).does) (fun w => opCall rfl Try.func14 rfl rfl (Evs.cons (v := (.pointer none)) (hF.ev 1 rfl) (Evs.cons (v := (.slice A n c)) (hF.ev 0 rfl) Evs.nil)) w)) trivial rfl (gOn 2 rfl rfl rfl (by decide)) (kM [false, false, true, true] rfl rfl) (by decide) ?_
  clear hH
  rintro _ _ w ⟨rfl, rfl⟩ hH
  replace hH : HH w0 [] [E4] w := hH.unpad
  refine pxV (v := (.bool true)) (fun _ _ hF => opEqI rfl (hF.ev 0 rfl) rfl (by decide)) rfl (gOn 1 rfl rfl rfl (by decide)) (kM [false, true, true] rfl rfl) (by decide) ?_
  refine pxV (v := (.bool true)) (fun _ _ hF => opPickT rfl (hF.ev 1 rfl) (hF.ev 0 rfl)) rfl (fun _ _ => rfl) (kM [false, false, true] rfl rfl) (by decide) ?_
  refine pxV (v := (.bool true)) (fun _ _ hF => opMove rfl (hF.ev 0 rfl)) rfl (fun _ _ => rfl) (kM [false, true] rfl rfl) (by decide) ?_
  refine pxV (v := (.pointer none)) (fun _ _ hF => opMove rfl (hF.ev 1 rfl)) rfl (gOn 0 rfl rfl rfl (by decide)) (kA rfl) (by decide) ?_
  refine pxM hH (fun _ hF => Does.small (load_n.does) (fun w => opCall rfl Try.func12 rfl rfl (Evs.cons (v := (.pointer none)) (hF.ev 0 rfl) Evs.nil) w)) trivial rfl (gOn 1 rfl rfl rfl (by decide)) (kM [false, true, true] rfl rfl) (by decide) ?_
  clear hH
  rintro _ _ w ⟨rfl, rfl⟩ hH
  replace hH : HH w0 [] [E4] w := hH.unpad
  refine pxV (v := (.int .i64 0)) (fun _ _ hF => opLen (e := 5) rfl (by kernel_rfl) (hF.ev 0 rfl)) rfl (gOn 1 rfl rfl rfl (by decide)) (kM [false, true, true] rfl rfl) (by decide) ?_
  refine pxV (v := (.bool true)) (fun _ _ hF => opEqI rfl (hF.ev 0 rfl) rfl (by decide)) rfl (gOn 1 rfl rfl rfl (by decide)) (kM [false, true, true] rfl rfl) (by decide) ?_
  refine pxV (v := (.bool true)) (fun _ _ hF => opPickT rfl (hF.ev 1 rfl) (hF.ev 0 rfl)) rfl (fun _ _ => rfl) (kM [false, false, true] rfl rfl) (by decide) ?_
  refine pxV (v := (.bool true)) (fun _ _ hF => opMove rfl (hF.ev 0 rfl)) rfl (fun _ _ => rfl) (kM [false, true] rfl rfl) (by decide) ?_
  refine pxV (v := (.pointer none)) (fun _ _ hF => opMove rfl (hF.ev 1 rfl)) rfl (gOn 0 rfl rfl rfl (by decide)) (kA rfl) (by decide) ?_
  refine pxM hH (fun _ hF => Does.small (number_n.does) (fun w => opCall rfl Try.func13 rfl rfl (Evs.cons (v := (.pointer none)) (hF.ev 0 rfl) Evs.nil) w)) trivial rfl (gOn 1 rfl rfl rfl (by decide)) (kM [false, true, true] rfl rfl) (by decide) ?_
  clear hH
  rintro _ _ w ⟨rfl, rfl⟩ hH
  replace hH : HH w0 [] [E4] w := hH.unpad
  refine pxV (v := (.bool true)) (fun _ _ hF => opEqI rfl (hF.ev 0 rfl) rfl (by decide)) rfl (gOn 1 rfl rfl rfl (by decide)) (kM [false, true, true] rfl rfl) (by decide) ?_
  refine pxV (v := (.bool true)) (fun _ _ hF => opPickT rfl (hF.ev 1 rfl) (hF.ev 0 rfl)) rfl (fun _ _ => rfl) (kM [false, false, true] rfl rfl) (by decide) ?_
  refine pxV (v := (.bool true)) (fun _ _ hF => opMove rfl (hF.ev 0 rfl)) rfl (fun _ _ => rfl) (kM [false, true] rfl rfl) (by decide) ?_
  refine pxV (v := (.pointer none)) (fun _ _ hF => opMove rfl (hF.ev 1 rfl)) rfl (gOn 0 rfl rfl rfl (by decide)) (kA rfl) (by decide) ?_
  refine pxM hH (fun _ hF => Does.small (room_n.does) (fun w => opCall rfl Try.func11 rfl rfl (Evs.cons (v := (.pointer none)) (hF.ev 0 rfl) Evs.nil) w)) trivial rfl (gOn 1 rfl rfl rfl (by decide)) (kM [false, true, true] rfl rfl) (by decide) ?_
  clear hH
  rintro _ _ w ⟨rfl, rfl⟩ hH
  replace hH : HH w0 [] [E4] w := hH.unpad
  refine pxV (v := (.bool true)) (fun _ _ hF => opEqI rfl (hF.ev 0 rfl) rfl (by decide)) rfl (gOn 1 rfl rfl rfl (by decide)) (kM [false, true, true] rfl rfl) (by decide) ?_
  refine pxV (v := (.bool true)) (fun _ _ hF => opPickT rfl (hF.ev 1 rfl) (hF.ev 0 rfl)) rfl (fun _ _ => rfl) (kM [false, false, true] rfl rfl) (by decide) ?_
  refine pxV (v := (.bool true)) (fun _ _ hF => opMove rfl (hF.ev 0 rfl)) rfl (fun _ _ => rfl) (kM [false, true] rfl rfl) (by decide) ?_
  refine pxV (v := (.pointer none)) (fun _ _ hF => opMove rfl (hF.ev 1 rfl)) rfl (gOn 0 rfl rfl rfl (by decide)) (kM [true, false] rfl rfl) (by decide) ?_
  refine pxM hH (fun _ hF => Does.small (over_n.does) (fun w => opCall rfl Try.func17 rfl rfl (Evs.cons (v := (.pointer none)) (hF.ev 0 rfl) Evs.nil) w)) trivial rfl (gOn 1 rfl rfl rfl (by decide)) (kM [false, true] rfl rfl) (by decide) ?_
  clear hH
  rintro _ _ w ⟨rfl, rfl⟩ hH
  replace hH : HH w0 [] [E4] w := hH.unpad
  refine pxV (v := (.bool true)) (fun _ _ hF => opNot rfl (hF.ev 0 rfl) rfl) rfl (gOn 1 rfl rfl rfl (by decide)) (kM [false, true] rfl rfl) (by decide) ?_
  refine pxV (v := (.bool true)) (fun _ _ hF => opPickT rfl (hF.ev 1 rfl) (hF.ev 0 rfl)) rfl (fun _ _ => rfl) (kM [false, false] rfl rfl) (by decide) ?_
  refine pxV (v := (.bool true)) (fun _ _ hF => opAssign rfl (hF.ev 0 rfl)) rfl (fun _ _ => rfl) (kM [false] rfl rfl) (by decide) ?_
  refine pxEnd ?_
  refine qxThen ?_
  refine cxRet ?_
  refine qxRet1 0 rfl rfl ?_
  exact ⟨rfl, HH.toBelow hH⟩

theorem found_v (gd : Nat) (A : Option Addr) (c : Nat) (S : List Sec) (hl : 4 ≤ S.length) (h5 : S.length ≤ 4000) : Does Try.prog 15 #[.slice A S.length c] [] (fun w => Vu cSec w A S.length c S) (fun v E' => ∃ s, v = .tuple #[s, .int .u64 ((vtOf gd S).number : Int)] ∧ OwnT cByte 5 s (vtOf gd S).kept E') := found_r A c S hl h5

set_option maxHeartbeats 8000000 in
theorem plays_l (sz : UInt8) (raws : List SlH) (A : Option Addr) (c : Nat) (hbig : ∀ x ∈ raws, x.2.1 ≤ 140737488355328) (hlen : raws.length ≤ 140737488355328) : Pure Try.prog 3 #[(.int .u8 (((sz.toNat) : Nat) : Int)), (.slice A raws.length c)] (fun w => Vu cSl w A raws.length c raws ∧ ∀ x ∈ raws, ∃ bytes, x.2.1 = bytes.length ∧ Vu cByte w x.1 bytes.length x.2.2 bytes) (.bool true) := by
  refine pure_of (fn := Try.f3) Try.func3 rfl Try.ntmps3 (Nat.le_of_ble_eq_true rfl) rfl ?_
  intro w0 hH hR
  have hx := sz.toNat_lt
  refine cxSeq ?_
  refine cxReg ?_
  refine pxV (v := (.bool false)) (fun _ _ hF => opAssign rfl rfl) rfl (fun _ _ => rfl) (kA rfl) (by decide) ?_
  refine pxEnd ?_
  refine qxThen ?_
  refine cxSeq ?_
  refine cxSeq ?_
  refine cxReg ?_
  refine pxM hH (fun _ hF => Does.small ((awake_c ).does) (fun w => opCall rfl Try.func7 rfl rfl Evs.nil w)) trivial rfl (fun _ _ => rfl) (kM [false, true, true] rfl rfl) (by decide) ?_
  clear hH
  rintro _ _ w ⟨rfl, rfl⟩ hH
  replace hH : HH w0 [] [] w := hH.unpad
  refine pxV (v := (.bool false)) (fun _ _ hF => opNot rfl (hF.ev 0 rfl) rfl) rfl (fun _ _ => rfl) (kM [false, true, true] rfl rfl) (by decide) ?_
  refine pxV (v := (.bool false)) (fun _ _ hF => opMove rfl (hF.ev 0 rfl)) rfl (fun _ _ => rfl) (kM [false, true, true] rfl rfl) (by decide) ?_
  refine pxV (v := (.slice A raws.length c)) (fun _ _ hF => opMove rfl (hF.ev 2 rfl)) rfl (gOn 0 rfl rfl rfl (by decide)) (kA rfl) (by decide) ?_
  refine pxM hH (fun _ hF => Does.small (few_c raws A c hbig hlen) (fun w => opCall rfl Try.func8 rfl rfl (Evs.cons (v := (.slice A raws.length c)) (hF.ev 0 rfl) Evs.nil) w)) (hH.vu hR.1 (by decide) (Off.nil _ _)) rfl (gOn 1 rfl rfl rfl (by decide)) (kM [false, true, true, true] rfl rfl) (by decide) ?_
  clear hH
  rintro _ _ w ⟨rfl, b1, rfl, hfew⟩ hH
  replace hH : HH w0 [] [] w := hH.unpad
  refine pxV (v := (.bool (!(b1)))) (fun _ _ hF => opNot rfl (hF.ev 0 rfl) rfl) rfl (gOn 1 rfl rfl rfl (by decide)) (kM [false, true, true, true] rfl rfl) (by decide) ?_
  refine pxV (v := (.bool (!(b1)))) (fun _ _ hF => opPickF rfl (hF.ev 1 rfl) (hF.ev 0 rfl)) rfl (fun _ _ => rfl) (kM [false, false, true, true] rfl rfl) (by decide) ?_
  refine pxEnd ?_
  refine qxThen ?_
  refine cxB 0 rfl rfl (fun hc1 => ?_) (fun hc1 => ?_)
  · replace hc1 : b1 = false := by simpa using hc1
    refine cxSeq ?_
    refine cxReg ?_
    refine pxM hH (fun _ hF => Does.small ((awake_c ).does) (fun w => opCall rfl Try.func7 rfl rfl Evs.nil w)) trivial rfl (fun _ _ => rfl) (kM [false, false, false] rfl rfl) (by decide) ?_
    clear hH
    rintro _ _ w ⟨rfl, rfl⟩ hH
    replace hH : HH w0 [] [] w := hH.unpad
    refine pxV (v := (.bool true)) (fun _ _ hF => opAssign rfl (hF.ev 0 rfl)) rfl (fun _ _ => rfl) (kM [false] rfl rfl) (by decide) ?_
    refine pxEnd ?_
    refine qxThen ?_
    refine cxRet ?_
    refine qxThenR ?_
    refine qxRet1 0 rfl rfl ?_
    exact ⟨rfl, HH.toBelow hH⟩
  · replace hc1 : b1 = true := by simpa using hc1
    obtain ⟨h60, htot⟩ := hfew (by simpa using hc1)
    refine cxSkip ?_
    refine qxThen ?_
    refine cxSeq ?_
    refine cxReg ?_
    refine pxV (v := (.int .u8 (((sz.toNat) : Nat) : Int))) (fun _ _ hF => opMove rfl (hF.ev 1 rfl)) rfl (fun _ _ => rfl) (kM [false, true, true] rfl rfl) (by decide) ?_
    refine pxV (v := (.int .i64 (((sz.toNat) : Nat) : Int))) (fun _ _ hF => opConvI (k' := .i64) rfl (by kernel_rfl) (by kernel_rfl) (hF.ev 0 rfl) (wI rfl (by omega) (by omega))) rfl (fun _ _ => rfl) (kM [false, true, true] rfl rfl) (by decide) ?_
    refine pxV (v := (.int .i64 (((4 + sz.toNat) : Nat) : Int))) (fun _ _ hF => opAdd rfl rfl (hF.ev 0 rfl) (wI (by omega) (by omega) (by omega))) rfl (fun _ _ => rfl) (kM [false, true, true] rfl rfl) (by decide) ?_
    refine pxM hH (fun _ hF => Does.small (new_c (((4 + sz.toNat) : Nat) : Int) (4 + sz.toNat) (by omega) (by omega)) (fun w => opCall rfl Try.func9 rfl rfl (Evs.cons (v := (.int .i64 (((4 + sz.toNat) : Nat) : Int))) (hF.ev 0 rfl) Evs.nil) w)) trivial rfl (fun _ _ => rfl) (kM [false, true, true] rfl rfl) (by decide) ?_
    clear hH
    rintro _ E3 w ⟨g2, rfl, hD4⟩ hH
    replace hH : HH w0 [] [E3] w := hH
    refine pxV (v := (.pointer (some ⟨g2, 0, none⟩))) (fun _ _ hF => opAssign rfl (hF.ev 0 rfl)) rfl (fun _ _ => rfl) (kM [false, true, true] rfl rfl) (by decide) ?_
    refine pxEnd ?_
    refine qxThen ?_
    refine cxSeq ?_
    have hln : (Dk.new (4 + sz.toNat)).now.length = (4 + sz.toNat) := new_now _
    refine cxReg ?_
    refine pxV (v := (.pointer (some ⟨g2, 0, none⟩))) (fun _ _ hF => opMove rfl (hF.ev 0 rfl)) rfl (fun _ _ => rfl) (kA rfl) (by decide) ?_
    refine pxE 0 hH rfl (fun _ hF => Does.small (open_ok g2 (Dk.new (4 + sz.toNat)) E3 hD4 (by omega) (rest_new (4 + sz.toNat)).up) (fun w => opCall rfl Try.func10 rfl rfl (Evs.cons (v := (.pointer (some ⟨g2, 0, none⟩))) (hF.ev 0 rfl) Evs.nil) w)) trivial rfl (fun _ _ => rfl) (kM [false, true, true, true] rfl rfl) (by decide) ?_
    clear hH
    rintro _ _ w ⟨g5, E6, E7, rfl, rfl, hD8, hV9⟩ hH
    replace hH : HH w0 [] [([E6, E7] : List Hl).flatten] w := hH
    replace hH : HH w0 [] [E6, E7] w := hH.cast (by simp)
    refine pxV (v := (.tuple #[(.pointer (some ⟨g5, 0, none⟩)), (.int .i64 0)])) (fun _ _ hF => opMove rfl (hF.ev 0 rfl)) rfl (fun _ _ => rfl) (kM [false, true, true, true] rfl rfl) (by decide) ?_
    refine pxV (v := (.pointer (some ⟨g5, 0, none⟩))) (fun _ _ hF => opExtract rfl (hF.ev 0 rfl) rfl) rfl (fun _ _ => rfl) (kA rfl) (by decide) ?_
    refine pxV (v := (.int .i64 0)) (fun _ _ hF => opExtract rfl (hF.ev 1 rfl) rfl) rfl (fun _ _ => rfl) (kM [true, false, true, true, true] rfl rfl) (by decide) ?_
    refine pxV (v := (.pointer (some ⟨g5, 0, none⟩))) (fun _ _ hF => opAssign rfl (hF.ev 1 rfl)) rfl (fun _ _ => rfl) (kM [true, false, true, true, true] rfl rfl) (by decide) ?_
    refine pxV (v := (.int .i64 0)) (fun _ _ hF => opAssign rfl (hF.ev 1 rfl)) rfl (fun _ _ => rfl) (kM [true, false, true, true, true] rfl rfl) (by decide) ?_
    refine pxEnd ?_
    refine qxThen ?_
    refine cxSeq ?_
    refine cxReg ?_
    refine pxV (v := (.int .u8 (((sz.toNat) : Nat) : Int))) (fun _ _ hF => opMove rfl (hF.ev 3 rfl)) rfl (fun _ _ => rfl) (kM [true, true, true, false, true] rfl rfl) (by decide) ?_
    refine pxV (v := (.int .i64 (((sz.toNat) : Nat) : Int))) (fun _ _ hF => opConvI (k' := .i64) rfl (by kernel_rfl) (by kernel_rfl) (hF.ev 0 rfl) (wI rfl (by omega) (by omega))) rfl (fun _ _ => rfl) (kM [false, true, true, true, true] rfl rfl) (by decide) ?_
    refine pxV (v := (.int .i64 (((2 + sz.toNat) : Nat) : Int))) (fun _ _ hF => opAdd rfl rfl (hF.ev 0 rfl) (wI (by omega) (by omega) (by omega))) rfl (fun _ _ => rfl) (kM [false, true, true, true, true] rfl rfl) (by decide) ?_
    refine pxV (v := (.int .i64 ((((2 + sz.toNat) / 2) : Nat) : Int))) (fun _ _ hF => opQuo (z := (((2 + sz.toNat) / 2 : Nat) : Int)) rfl (hF.ev 0 rfl) rfl (by omega) (wI quoN (by omega) (by omega))) rfl (fun _ _ => rfl) (kM [false, true, true, true, true] rfl rfl) (by decide) ?_
    refine pxV (v := (.int .i64 (((64 * ((2 + sz.toNat) / 2)) : Nat) : Int))) (fun _ _ hF => opMul rfl rfl (hF.ev 0 rfl) (wI (by omega) (by omega) (by omega))) rfl (fun _ _ => rfl) (kM [false, true, true, true, true] rfl rfl) (by decide) ?_
    refine pxV (v := (.int .i64 (((64 * ((2 + sz.toNat) / 2)) : Nat) : Int))) (fun _ _ hF => opAssign rfl (hF.ev 0 rfl)) rfl (fun _ _ => rfl) (kM [false, true, true, true, true] rfl rfl) (by decide) ?_
    refine pxEnd ?_
    refine qxThen ?_
    refine cxSeq ?_
    refine cxSeq ?_
    have hhf : halfOf (Dk.new (4 + sz.toNat)).now = (2 + sz.toNat) / 2 := by unfold halfOf; omega
    refine cxReg ?_
    refine pxV (v := (.int .i64 0)) (fun _ _ hF => opMove rfl (hF.ev 1 rfl)) rfl (fun _ _ => rfl) (kM [true, false, true, true, true] rfl rfl) (by decide) ?_
    refine pxV (v := (.bool false)) (fun _ _ hF => opNeI rfl (hF.ev 0 rfl) rfl (by decide)) rfl (fun _ _ => rfl) (kM [false, true, true, true, true] rfl rfl) (by decide) ?_
    refine pxV (v := (.bool false)) (fun _ _ hF => opMove rfl (hF.ev 0 rfl)) rfl (fun _ _ => rfl) (kM [false, true, true, true, true] rfl rfl) (by decide) ?_
    refine pxV (v := (.pointer (some ⟨g5, 0, none⟩))) (fun _ _ hF => opMove rfl (hF.ev 2 rfl)) rfl (gOn 0 rfl rfl rfl (by decide)) (kA rfl) (by decide) ?_
    obtain ⟨A10, n11, c12, E13, hE15, hO14⟩ := hV9.at'
    obtain rfl : n11 = (vtOf g2 (Dk.new (4 + sz.toNat)).now).kept.length := hO14.len
    replace hH : HH w0 [] [E6, [bl g5 61 #[(.pointer (some ⟨(vtOf g2 (Dk.new (4 + sz.toNat)).now).gd, 0, none⟩)), (.int .i64 ((((vtOf g2 (Dk.new (4 + sz.toNat)).now).half) : Nat) : Int)), (.int .i64 ((((vtOf g2 (Dk.new (4 + sz.toNat)).now).sector) : Nat) : Int)), (.int .u64 ((((vtOf g2 (Dk.new (4 + sz.toNat)).now).number) : Nat) : Int)), (.int .u64 ((((vtOf g2 (Dk.new (4 + sz.toNat)).now).size) : Nat) : Int)), (.int .i64 ((((vtOf g2 (Dk.new (4 + sz.toNat)).now).area) : Nat) : Int)), (.slice A10 ((vtOf g2 (Dk.new (4 + sz.toNat)).now).kept.length) c12), (.bool ((vtOf g2 (Dk.new (4 + sz.toNat)).now).over))]], E13] w := hH.cast (by rw [hE15]; simp)
    refine pxM hH (fun _ hF => Does.small ((Pure.as (v := (.int .i64 (((((vtOf g2 (Dk.new (4 + sz.toNat)).now).half) * 64) : Nat) : Int))) (room_c g5 (vtOf g2 (Dk.new (4 + sz.toNat)).now) A10 c12 (by show halfOf _ ≤ 1999; unfold halfOf; omega)) rfl).does) (fun w => opCall rfl Try.func11 rfl rfl (Evs.cons (v := (.pointer (some ⟨g5, 0, none⟩))) (hF.ev 0 rfl) Evs.nil) w)) (hH.blk 1 rfl) rfl (gOn 1 rfl rfl rfl (by decide)) (kM [false, true, true, true, true, true] rfl rfl) (by decide) ?_
    clear hH
    rintro _ _ w ⟨rfl, rfl⟩ hH
    replace hH : HH w0 [] [E6, [bl g5 61 #[(.pointer (some ⟨(vtOf g2 (Dk.new (4 + sz.toNat)).now).gd, 0, none⟩)), (.int .i64 ((((vtOf g2 (Dk.new (4 + sz.toNat)).now).half) : Nat) : Int)), (.int .i64 ((((vtOf g2 (Dk.new (4 + sz.toNat)).now).sector) : Nat) : Int)), (.int .u64 ((((vtOf g2 (Dk.new (4 + sz.toNat)).now).number) : Nat) : Int)), (.int .u64 ((((vtOf g2 (Dk.new (4 + sz.toNat)).now).size) : Nat) : Int)), (.int .i64 ((((vtOf g2 (Dk.new (4 + sz.toNat)).now).area) : Nat) : Int)), (.slice A10 ((vtOf g2 (Dk.new (4 + sz.toNat)).now).kept.length) c12), (.bool ((vtOf g2 (Dk.new (4 + sz.toNat)).now).over))]], E13] w := hH.unpad
    refine pxV (v := (.int .i64 (((64 * ((2 + sz.toNat) / 2)) : Nat) : Int))) (fun _ _ hF => opMove rfl (hF.ev 2 rfl)) rfl (gOn 1 rfl rfl rfl (by decide)) (kA rfl) (by decide) ?_
    refine pxV (v := (.bool false)) (fun _ _ hF => opNeI rfl (hF.ev 1 rfl) (hF.ev 0 rfl) (decide_eq_false (by show ¬ (((halfOf (Dk.new (4 + sz.toNat)).now * 64 : Nat) : Int) ≠ ((64 * ((2 + sz.toNat) / 2) : Nat) : Int)); omega))) rfl (gOn 2 rfl rfl rfl (by decide)) (kM [false, false, true, true, true, true, true] rfl rfl) (by decide) ?_
    refine pxV (v := (.bool false)) (fun _ _ hF => opPickF rfl (hF.ev 1 rfl) (hF.ev 0 rfl)) rfl (fun _ _ => rfl) (kM [false, false, true, true, true, true] rfl rfl) (by decide) ?_
    refine pxV (v := (.bool false)) (fun _ _ hF => opMove rfl (hF.ev 0 rfl)) rfl (fun _ _ => rfl) (kM [false, true, true, true, true] rfl rfl) (by decide) ?_
    refine pxV (v := (.pointer (some ⟨g5, 0, none⟩))) (fun _ _ hF => opMove rfl (hF.ev 2 rfl)) rfl (gOn 0 rfl rfl rfl (by decide)) (kA rfl) (by decide) ?_
    refine pxM hH (fun _ hF => Does.small (load_c g5 (vtOf g2 (Dk.new (4 + sz.toNat)).now) A10 c12 (Nat.le_trans (kept_le (by omega)) (by decide))) (fun w => opCall rfl Try.func12 rfl rfl (Evs.cons (v := (.pointer (some ⟨g5, 0, none⟩))) (hF.ev 0 rfl) Evs.nil) w)) ⟨hH.blk 1 rfl, (hO14.vuAt (hH.has 2 rfl))⟩ rfl (gOn 1 rfl rfl rfl (by decide)) (kM [false, true, true, true, true, true] rfl rfl) (by decide) ?_
    clear hH
    rintro v20 E16 w hO17 hH
    replace hH : HH w0 [] [E6, [bl g5 61 #[(.pointer (some ⟨(vtOf g2 (Dk.new (4 + sz.toNat)).now).gd, 0, none⟩)), (.int .i64 ((((vtOf g2 (Dk.new (4 + sz.toNat)).now).half) : Nat) : Int)), (.int .i64 ((((vtOf g2 (Dk.new (4 + sz.toNat)).now).sector) : Nat) : Int)), (.int .u64 ((((vtOf g2 (Dk.new (4 + sz.toNat)).now).number) : Nat) : Int)), (.int .u64 ((((vtOf g2 (Dk.new (4 + sz.toNat)).now).size) : Nat) : Int)), (.int .i64 ((((vtOf g2 (Dk.new (4 + sz.toNat)).now).area) : Nat) : Int)), (.slice A10 ((vtOf g2 (Dk.new (4 + sz.toNat)).now).kept.length) c12), (.bool ((vtOf g2 (Dk.new (4 + sz.toNat)).now).over))]], E13, E16] w := hH
    obtain ⟨A18, c19, rfl⟩ := hO17.slice
    refine pxV (v := (.int .i64 ((((vtOf g2 (Dk.new (4 + sz.toNat)).now).kept.length) : Nat) : Int))) (fun _ _ hF => opLen (e := 5) rfl (by kernel_rfl) (hF.ev 0 rfl)) rfl (gOn 1 rfl rfl rfl (by decide)) (kM [false, true, true, true, true, true] rfl rfl) (by decide) ?_
    refine pxV (v := (.bool false)) (fun _ _ hF => opNeI rfl (hF.ev 0 rfl) rfl (decide_eq_false (by rw [(vt_new g2 (4 + sz.toNat)).1]; simp))) rfl (gOn 1 rfl rfl rfl (by decide)) (kM [false, true, true, true, true, true] rfl rfl) (by decide) ?_
    refine pxV (v := (.bool false)) (fun _ _ hF => opPickF rfl (hF.ev 1 rfl) (hF.ev 0 rfl)) rfl (fun _ _ => rfl) (kM [false, false, true, true, true, true] rfl rfl) (by decide) ?_
    refine pxV (v := (.bool false)) (fun _ _ hF => opMove rfl (hF.ev 0 rfl)) rfl (fun _ _ => rfl) (kM [false, true, true, true, true] rfl rfl) (by decide) ?_
    refine pxV (v := (.pointer (some ⟨g5, 0, none⟩))) (fun _ _ hF => opMove rfl (hF.ev 2 rfl)) rfl (gOn 0 rfl rfl rfl (by decide)) (kA rfl) (by decide) ?_
    refine pxM hH (fun _ hF => Does.small ((Pure.as (v := (.int .u64 ((((vtOf g2 (Dk.new (4 + sz.toNat)).now).number) : Nat) : Int))) (number_c g5 (vtOf g2 (Dk.new (4 + sz.toNat)).now) A10 c12) rfl).does) (fun w => opCall rfl Try.func13 rfl rfl (Evs.cons (v := (.pointer (some ⟨g5, 0, none⟩))) (hF.ev 0 rfl) Evs.nil) w)) (hH.blk 1 rfl) rfl (gOn 1 rfl rfl rfl (by decide)) (kM [false, true, true, true, true, true] rfl rfl) (by decide) ?_
    clear hH
    rintro _ _ w ⟨rfl, rfl⟩ hH
    replace hH : HH w0 [] [E6, [bl g5 61 #[(.pointer (some ⟨(vtOf g2 (Dk.new (4 + sz.toNat)).now).gd, 0, none⟩)), (.int .i64 ((((vtOf g2 (Dk.new (4 + sz.toNat)).now).half) : Nat) : Int)), (.int .i64 ((((vtOf g2 (Dk.new (4 + sz.toNat)).now).sector) : Nat) : Int)), (.int .u64 ((((vtOf g2 (Dk.new (4 + sz.toNat)).now).number) : Nat) : Int)), (.int .u64 ((((vtOf g2 (Dk.new (4 + sz.toNat)).now).size) : Nat) : Int)), (.int .i64 ((((vtOf g2 (Dk.new (4 + sz.toNat)).now).area) : Nat) : Int)), (.slice A10 ((vtOf g2 (Dk.new (4 + sz.toNat)).now).kept.length) c12), (.bool ((vtOf g2 (Dk.new (4 + sz.toNat)).now).over))]], E13, E16] w := hH.unpad
    refine pxV (v := (.bool false)) (fun _ _ hF => opNeI rfl (hF.ev 0 rfl) rfl (decide_eq_false (by rw [(vt_new g2 (4 + sz.toNat)).2]; simp))) rfl (gOn 1 rfl rfl rfl (by decide)) (kM [false, true, true, true, true, true] rfl rfl) (by decide) ?_
    refine pxV (v := (.bool false)) (fun _ _ hF => opPickF rfl (hF.ev 1 rfl) (hF.ev 0 rfl)) rfl (fun _ _ => rfl) (kM [false, false, true, true, true, true] rfl rfl) (by decide) ?_
    refine pxEnd ?_
    refine qxThen ?_
    refine cxF 0 rfl rfl ?_
    refine cxSkip ?_
    refine qxThen ?_
    refine cxSeq ?_
    refine cxReg ?_
    refine pxV (v := (.slice none 0 0)) (fun _ _ hF => opAssign rfl rfl) rfl (fun _ _ => rfl) (kM [false, true, true, true, true] rfl rfl) (by decide) ?_
    refine pxEnd ?_
    refine qxThen ?_
    refine cxSeq ?_
    refine cxReg ?_
    refine pxV (v := (.int .u64 0)) (fun _ _ hF => opAssign rfl rfl) rfl (fun _ _ => rfl) (kA rfl) (by decide) ?_
    refine pxEnd ?_
    refine qxThen ?_
    refine cxSeq ?_
    refine cxSeq ?_
    refine cxReg ?_
    refine pxV (v := (.slice A raws.length c)) (fun _ _ hF => opMove rfl (hF.ev 5 rfl)) rfl (fun _ _ => rfl) (kA rfl) (by decide) ?_
    refine pxV (v := (.int .i64 (((raws.length) : Nat) : Int))) (fun _ _ hF => opLen (e := 32) rfl (by kernel_rfl) (hF.ev 0 rfl)) rfl (fun _ _ => rfl) (kM [false, true, true, true, true, true, true] rfl rfl) (by decide) ?_
    refine pxV (v := (.int .i64 0)) (fun _ _ hF => opMove rfl rfl) rfl (fun _ _ => rfl) (kA rfl) (by decide) ?_
    refine pxEnd ?_
    refine qxThen ?_
    refine cxBlock ?_
    obtain ⟨E22, hE23, hD24⟩ : ∃ E, E = ([[bl g5 61 #[(.pointer (some ⟨(vtOf g2 (Dk.new (4 + sz.toNat)).now).gd, 0, none⟩)), (.int .i64 ((((vtOf g2 (Dk.new (4 + sz.toNat)).now).half) : Nat) : Int)), (.int .i64 ((((vtOf g2 (Dk.new (4 + sz.toNat)).now).sector) : Nat) : Int)), (.int .u64 ((((vtOf g2 (Dk.new (4 + sz.toNat)).now).number) : Nat) : Int)), (.int .u64 ((((vtOf g2 (Dk.new (4 + sz.toNat)).now).size) : Nat) : Int)), (.int .i64 ((((vtOf g2 (Dk.new (4 + sz.toNat)).now).area) : Nat) : Int)), (.slice A10 ((vtOf g2 (Dk.new (4 + sz.toNat)).now).kept.length) c12), (.bool ((vtOf g2 (Dk.new (4 + sz.toNat)).now).over))]], E13] : List Hl).flatten ∧ VtAt g5 (vtOf g2 (Dk.new (4 + sz.toNat)).now) E := ⟨_, rfl, hV9.ok, _, _, _, _, rfl, hO14⟩
    replace hH : HH w0 [] [E6, E22, E16] w := hH.cast (by rw [hE23]; simp)
    replace hH : HH w0 [] [E6, E22] w := hH.only [true, true, false]
    refine cxLoop (σ := Nat × Dk × Hl × Hl × (List UInt8) × (Option Addr) × Nat × Nat) (fun x => [(60, (.int .i64 (((x.1) : Nat) : Int))), (59, (.int .i64 (((raws.length) : Nat) : Int))), (10, (.int .u64 (((x.2.2.2.2.2.2.2) : Nat) : Int))), (9, (.slice x.2.2.2.2.2.1 x.2.2.2.2.1.length x.2.2.2.2.2.2.1)), (8, (.int .i64 (((64 * ((2 + sz.toNat) / 2)) : Nat) : Int))), (6, (.pointer (some ⟨g5, 0, none⟩))), (5, (.pointer (some ⟨g2, 0, none⟩))), (1, (.slice A raws.length c))]) (fun x w => HH w0 [] [x.2.2.1, x.2.2.2.1] w ∧ (x.1 ≤ raws.length) ∧ (DkAt g2 x.2.1 x.2.2.1) ∧ (VtAt g5 (vtOf g2 x.2.1.now) x.2.2.2.1) ∧ (AtRest x.2.1) ∧ (x.2.1.now.length = (4 + sz.toNat)) ∧ (x.2.1.fused = false) ∧ (Vu cByte w0 x.2.2.2.2.2.1 x.2.2.2.2.1.length x.2.2.2.2.2.2.1 x.2.2.2.2.1) ∧ ((vtOf g2 x.2.1.now).kept = x.2.2.2.2.1) ∧ ((vtOf g2 x.2.1.now).number = x.2.2.2.2.2.2.2) ∧ (x.2.2.2.2.2.2.2 ≤ x.1)) (fun x => raws.length - x.1) (0, (Dk.new (4 + sz.toNat)), E6, E22, [], none, 0, 0) ⟨hH, (Nat.zero_le _), hD8, hD24, (rest_new _), hln, rfl, (Vu.none _ _), (vt_new g2 (4 + sz.toNat)).1, (vt_new g2 (4 + sz.toNat)).2, (Nat.le_refl _)⟩ (slots_at [0, 1, 2, 3, 4, 5, 6, 7] rfl) ?_
    clear hH
    rintro ⟨i, D, Ed, Ev, W, Aw, cw, n⟩ w ⟨hH, hi, hD, hV, hRt, hl, hf, hW, hkp, hnp, hni⟩
    change CX _ _ _ _ [(60, (.int .i64 (((i) : Nat) : Int))), (59, (.int .i64 (((raws.length) : Nat) : Int))), (10, (.int .u64 (((n) : Nat) : Int))), (9, (.slice Aw W.length cw)), (8, (.int .i64 (((64 * ((2 + sz.toNat) / 2)) : Nat) : Int))), (6, (.pointer (some ⟨g5, 0, none⟩))), (5, (.pointer (some ⟨g2, 0, none⟩))), (1, (.slice A raws.length c))] _
    replace hH : HH w0 [] [Ed, Ev] w := hH
    replace hi : i ≤ raws.length := hi
    replace hD : DkAt g2 D Ed := hD
    replace hV : VtAt g5 (vtOf g2 D.now) Ev := hV
    replace hRt : AtRest D := hRt
    replace hl : D.now.length = (4 + sz.toNat) := hl
    replace hf : D.fused = false := hf
    replace hW : Vu cByte w0 Aw W.length cw W := hW
    replace hkp : (vtOf g2 D.now).kept = W := hkp
    replace hnp : (vtOf g2 D.now).number = n := hnp
    replace hni : n ≤ i := hni
    refine cxSeq ?_
    refine cxReg ?_
    refine pxV (v := (.bool (decide (i < raws.length)))) (fun _ _ hF => opLss rfl (hF.ev 0 rfl) (hF.ev 1 rfl) (dc (by omega))) rfl (fun _ _ => rfl) (kA rfl) (by decide) ?_
    refine pxEnd ?_
    refine qxThen ?_
    refine cxSeq ?_
    refine cxP 0 rfl rfl (fun hc25 => ?_) (fun hc25 => ?_)
    · refine cxSkip ?_
      refine qxThen ?_
      refine cxSeq ?_
      refine cxBlock ?_
      refine cxSeq ?_
      refine cxReg ?_
      refine pxV (v := (.int .i64 (((i) : Nat) : Int))) (fun _ _ hF => opMove rfl (hF.ev 1 rfl)) rfl (fun _ _ => rfl) (kM [false, true, true, true, true, true, true, true, true] rfl rfl) (by decide) ?_
      refine pxV (v := (.int .i64 (((i) : Nat) : Int))) (fun _ _ hF => opAssign rfl (hF.ev 0 rfl)) rfl (fun _ _ => rfl) (kM [false, true, true, true, true, true, true, true, true] rfl rfl) (by decide) ?_
      refine pxEnd ?_
      refine qxThen ?_
      refine cxSeq ?_
      obtain ⟨⟨A0, n0, c0⟩, hx0⟩ := get_at raws i (by omega)
      obtain ⟨bytes, hnb, hvb⟩ := hR.2 _ (List.mem_of_getElem? hx0)
      obtain rfl : n0 = bytes.length := hnb
      have hbl : bytes.length ≤ totS raws := totS_le hx0
      have hhf : halfOf D.now = (2 + sz.toNat) / 2 := by unfold halfOf; omega
      by_cases hlong : halfOf D.now * 64 < bytes.length
      · have hk0 : (vtOf g2 D.now).keep D bytes = (6, D, vtOf g2 D.now) := keep_long rfl hlong
        refine cxReg ?_
        refine pxV (v := (.pointer (some ⟨g5, 0, none⟩))) (fun _ _ hF => opMove rfl (hF.ev 6 rfl)) rfl (fun _ _ => rfl) (kA rfl) (by decide) ?_
        refine pxV (v := (.slice A raws.length c)) (fun _ _ hF => opMove rfl (hF.ev 9 rfl)) rfl (fun _ _ => rfl) (kA rfl) (by decide) ?_
        refine pxV (v := (.int .i64 (((i) : Nat) : Int))) (fun _ _ hF => opMove rfl (hF.ev 2 rfl)) rfl (fun _ _ => rfl) (kA rfl) (by decide) ?_
        have hi26 : i < raws.length := by omega
        obtain ⟨b27, off28, rfl, hL29, hb30, hR31⟩ := hR.1.blk (by decide) (Off.nil _ _) (by omega)
        have := hR.1.cap
        have hj34 : i < raws.length := by first | exact hi26 | (simp only [List.length_drop, List.length_take]; omega) | omega
        refine pxV (v := (.pointer (some ⟨b27, off28 + i * 1, none⟩))) (fun _ _ hF => opIndex (i := i) (e := 32) (sz := 1) rfl (by kernel_rfl) (by kernel_rfl) (hF.ev 1 rfl) (hF.ev 0 rfl) rfl hi26) rfl (fun _ _ => rfl) (kM [false, false, true, true, true, true, true, true, true, true, true, true] rfl rfl) (by decide) ?_
        refine pxS (v := (.slice A0 bytes.length c0)) (fun w => HoldsL cSl w b27 off28 raws) (hH.holdsL hL29 hb30 hR31) (fun _ _ hF hS => opLoadT (C := cSl) (y := (A0, bytes.length, c0)) rfl (hF.ev 0 rfl) (by kernel_rfl) (hS i _ hx0) rfl) rfl (fun _ _ => rfl) (kM [false, true, true, true, true, true, true, true, true, true, true] rfl rfl) (by decide) ?_
        replace hH : HH w0 [] [([Ed, Ev] : List Hl).flatten] w := hH.cast (by simp)
        refine pxE 0 hH rfl (fun _ hF => Does.small (keep_as g5 g2 (vtOf g2 D.now) D Ed Ev hD hV rfl bytes A0 c0 (hH.off 0 rfl hvb (by decide) (Off.nil _ _)) (by omega) (by rw [hRt.uns]; exact Nat.zero_le _) hk0) (fun w => opCall rfl Try.func14 rfl rfl (Evs.cons (v := (.pointer (some ⟨g5, 0, none⟩))) (hF.ev 1 rfl) (Evs.cons (v := (.slice A0 bytes.length c0)) (hF.ev 0 rfl) Evs.nil)) w)) (hH.vu hvb (by decide) (Off.nil _ _)) rfl (fun _ _ => rfl) (kM [false, false, true, true, true, true, true, true, true, true, true] rfl rfl) (by decide) ?_
        clear hH
        rintro _ _ w ⟨rfl, E35, E36, rfl, hD37, hV38⟩ hH
        replace hH : HH w0 [] [([E35, E36] : List Hl).flatten] w := hH
        replace hH : HH w0 [] [E35, E36] w := hH.cast (by simp)
        refine pxV (v := (.int .i64 6)) (fun _ _ hF => opAssign rfl (hF.ev 0 rfl)) rfl (fun _ _ => rfl) (kM [false, true, true, true, true, true, true, true, true, true] rfl rfl) (by decide) ?_
        refine pxEnd ?_
        refine qxThen ?_
        refine cxSeq ?_
        refine cxSeq ?_
        refine cxReg ?_
        refine pxV (v := (.slice (some ⟨b27, off28, none⟩) raws.length c)) (fun _ _ hF => opMove rfl (hF.ev 9 rfl)) rfl (fun _ _ => rfl) (kA rfl) (by decide) ?_
        refine pxV (v := (.int .i64 (((i) : Nat) : Int))) (fun _ _ hF => opMove rfl (hF.ev 2 rfl)) rfl (fun _ _ => rfl) (kA rfl) (by decide) ?_
        have hi39 : i < raws.length := by omega
        have hj42 : i < raws.length := by first | exact hi39 | (simp only [List.length_drop, List.length_take]; omega) | omega
        refine pxV (v := (.pointer (some ⟨b27, off28 + i * 1, none⟩))) (fun _ _ hF => opIndex (i := i) (e := 32) (sz := 1) rfl (by kernel_rfl) (by kernel_rfl) (hF.ev 1 rfl) (hF.ev 0 rfl) rfl hi39) rfl (fun _ _ => rfl) (kM [false, false, true, true, true, true, true, true, true, true, true, true] rfl rfl) (by decide) ?_
        refine pxS (v := (.slice A0 bytes.length c0)) (fun w => HoldsL cSl w b27 off28 raws) (hH.holdsL hL29 hb30 hR31) (fun _ _ hF hS => opLoadT (C := cSl) (y := (A0, bytes.length, c0)) rfl (hF.ev 0 rfl) (by kernel_rfl) (hS i _ hx0) rfl) rfl (fun _ _ => rfl) (kM [false, true, true, true, true, true, true, true, true, true, true] rfl rfl) (by decide) ?_
        refine pxV (v := (.int .i64 (((bytes.length) : Nat) : Int))) (fun _ _ hF => opLen (e := 5) rfl (by kernel_rfl) (hF.ev 0 rfl)) rfl (fun _ _ => rfl) (kM [false, true, true, true, true, true, true, true, true, true, true] rfl rfl) (by decide) ?_
        refine pxV (v := (.int .i64 (((64 * ((2 + sz.toNat) / 2)) : Nat) : Int))) (fun _ _ hF => opMove rfl (hF.ev 7 rfl)) rfl (fun _ _ => rfl) (kA rfl) (by decide) ?_
        refine pxV (v := (.bool true)) (fun _ _ hF => opGtr rfl (hF.ev 1 rfl) (hF.ev 0 rfl) (decide_eq_true (by omega))) rfl (fun _ _ => rfl) (kM [false, false, true, true, true, true, true, true, true, true, true, true] rfl rfl) (by decide) ?_
        refine pxEnd ?_
        refine qxThen ?_
        refine cxT 0 rfl rfl ?_
        refine cxSeq ?_
        refine cxReg ?_
        refine pxV (v := (.int .i64 6)) (fun _ _ hF => opMove rfl (hF.ev 1 rfl)) rfl (fun _ _ => rfl) (kM [false, false, false, true, true, true, true, true, true, true, true] rfl rfl) (by decide) ?_
        refine pxV (v := (.bool false)) (fun _ _ hF => opNeI rfl (hF.ev 0 rfl) rfl (by decide)) rfl (fun _ _ => rfl) (kM [false, true, true, true, true, true, true, true, true] rfl rfl) (by decide) ?_
        refine pxEnd ?_
        refine qxThen ?_
        refine cxF 0 rfl rfl ?_
        refine cxSkip ?_
        refine qxThen ?_
        refine cxSeq ?_
        refine cxReg ?_
        refine pxV (v := (.pointer (some ⟨g2, 0, none⟩))) (fun _ _ hF => opMove rfl (hF.ev 7 rfl)) rfl (fun _ _ => rfl) (kM [false, true, true, true, true, true, true, true, true] rfl rfl) (by decide) ?_
        refine pxE 0 hH rfl (fun _ hF => Does.small (sectors_l g2 D E35 hD37 (by omega) hRt.up) (fun w => opCall rfl Try.func16 rfl rfl (Evs.cons (v := (.pointer (some ⟨g2, 0, none⟩))) (hF.ev 0 rfl) Evs.nil) w)) trivial rfl (fun _ _ => rfl) (kM [false, true, true, true, true, true, true, true, true] rfl rfl) (by decide) ?_
        clear hH
        rintro v44 _ w ⟨E45, E46, rfl, hD47, hO48⟩ hH
        replace hH : HH w0 [] [([E45, E46] : List Hl).flatten, E36] w := hH
        obtain ⟨A49, c50, rfl⟩ := hO48.slice
        replace hH : HH w0 [] [E45, E46, E36] w := hH.cast (by simp)
        refine pxM hH (fun _ hF => Does.small (found_v g2 A49 c50 D.now (by omega) (by omega)) (fun w => opCall rfl Try.func15 rfl rfl (Evs.cons (v := (.slice A49 D.now.length c50)) (hF.ev 0 rfl) Evs.nil) w)) (hO48.vuAt (hH.has 1 rfl)) rfl (fun _ _ => rfl) (kM [false, true, true, true, true, true, true, true, true] rfl rfl) (by decide) ?_
        clear hH
        rintro _ E53 w ⟨s52, rfl, hO54⟩ hH
        replace hH : HH w0 [] [E45, E46, E36, E53] w := hH
        obtain ⟨A55, c56, rfl⟩ := hO54.slice
        refine pxV (v := (.tuple #[(.slice A55 ((vtOf g2 D.now).kept.length) c56), (.int .u64 ((((vtOf g2 D.now).number) : Nat) : Int))])) (fun _ _ hF => opMove rfl (hF.ev 0 rfl)) rfl (fun _ _ => rfl) (kM [false, true, true, true, true, true, true, true, true] rfl rfl) (by decide) ?_
        refine pxV (v := (.slice A55 ((vtOf g2 D.now).kept.length) c56)) (fun _ _ hF => opExtract rfl (hF.ev 0 rfl) rfl) rfl (fun _ _ => rfl) (kA rfl) (by decide) ?_
        refine pxV (v := (.int .u64 ((((vtOf g2 D.now).number) : Nat) : Int))) (fun _ _ hF => opExtract rfl (hF.ev 1 rfl) rfl) rfl (fun _ _ => rfl) (kM [true, false, true, true, true, true, true, true, true, true] rfl rfl) (by decide) ?_
        refine pxV (v := (.slice A55 ((vtOf g2 D.now).kept.length) c56)) (fun _ _ hF => opAssign rfl (hF.ev 1 rfl)) rfl (fun _ _ => rfl) (kM [true, false, true, true, true, true, true, true, true, true] rfl rfl) (by decide) ?_
        refine pxV (v := (.int .u64 ((((vtOf g2 D.now).number) : Nat) : Int))) (fun _ _ hF => opAssign rfl (hF.ev 1 rfl)) rfl (fun _ _ => rfl) (kM [true, false, true, true, true, true, true, true, true, true] rfl rfl) (by decide) ?_
        refine pxEnd ?_
        refine qxThen ?_
        refine cxSeq ?_
        refine cxReg ?_
        refine pxV (v := (.pointer (some ⟨g2, 0, none⟩))) (fun _ _ hF => opMove rfl (hF.ev 8 rfl)) rfl (fun _ _ => rfl) (kA rfl) (by decide) ?_
        refine pxE 0 hH rfl (fun _ hF => Does.small (open_ok g2 D E45 hD47 (by omega) hRt.up) (fun w => opCall rfl Try.func10 rfl rfl (Evs.cons (v := (.pointer (some ⟨g2, 0, none⟩))) (hF.ev 0 rfl) Evs.nil) w)) trivial rfl (fun _ _ => rfl) (kM [false, true, true, true, true, true, true, true, true, true, true] rfl rfl) (by decide) ?_
        clear hH
        rintro _ _ w ⟨g57, E58, E59, rfl, rfl, hD60, hV61⟩ hH
        replace hH : HH w0 [] [([E58, E59] : List Hl).flatten, E46, E36, E53] w := hH
        replace hH : HH w0 [] [E58, E59, E46, E36, E53] w := hH.cast (by simp)
        refine pxV (v := (.tuple #[(.pointer (some ⟨g57, 0, none⟩)), (.int .i64 0)])) (fun _ _ hF => opMove rfl (hF.ev 0 rfl)) rfl (fun _ _ => rfl) (kM [false, true, true, true, true, true, true, true, true, true, true] rfl rfl) (by decide) ?_
        refine pxV (v := (.pointer (some ⟨g57, 0, none⟩))) (fun _ _ hF => opExtract rfl (hF.ev 0 rfl) rfl) rfl (fun _ _ => rfl) (kA rfl) (by decide) ?_
        refine pxV (v := (.int .i64 0)) (fun _ _ hF => opExtract rfl (hF.ev 1 rfl) rfl) rfl (fun _ _ => rfl) (kM [true, false, true, true, true, true, true, true, true, true, true, true] rfl rfl) (by decide) ?_
        refine pxV (v := (.pointer (some ⟨g57, 0, none⟩))) (fun _ _ hF => opAssign rfl (hF.ev 1 rfl)) rfl (fun _ _ => rfl) (kM [true, false, true, true, true, true, true, true, true, true, true, true] rfl rfl) (by decide) ?_
        refine pxV (v := (.int .i64 0)) (fun _ _ hF => opAssign rfl (hF.ev 1 rfl)) rfl (fun _ _ => rfl) (kM [true, false, true, true, true, true, true, true, true, true, true, true] rfl rfl) (by decide) ?_
        refine pxEnd ?_
        refine qxThen ?_
        refine cxSeq ?_
        refine cxRegX mixedOrders (by kernel_rfl) ?_
        replace hH := hH.drew
        refine rxV 0 rfl (by kernel_rfl) rfl (fun _ _ => rfl) (fun _ _ hF => opMove rfl (hF.ev 3 rfl)) (kM [true, true, true, false, true, true, true, true, true, true, true, true] rfl rfl) (by decide) (v := (.slice A55 ((vtOf g2 D.now).kept.length) c56)) ?_
        refine rxS (fun w => Vu cByte w A55 ((vtOf g2 D.now).kept.length) c56 ((vtOf g2 D.now).kept)) 1 rfl (by kernel_rfl) rfl (fun _ _ => rfl) (hO54.vuAt (hH.has 4 rfl)) (fun _ _ hF hS => opStr (e := 5) rfl (by kernel_rfl) (by kernel_rfl) (by kernel_rfl) (hF.ev 0 rfl) hS) (kM [false, true, true, true, true, true, true, true, true, true, true, true] rfl rfl) (by decide) (v := (.string (strL ((vtOf g2 D.now).kept)))) ?_
        refine rxV 2 rfl (by kernel_rfl) rfl (fun _ _ => rfl) (fun _ _ hF => opMove rfl (hF.ev 7 rfl)) (kA rfl) (by decide) (v := (.slice Aw W.length cw)) ?_
        refine rxS (fun w => Vu cByte w Aw W.length cw W) 3 rfl (by kernel_rfl) rfl (fun _ _ => rfl) (hH.vu hW (by decide) (Off.nil _ _)) (fun _ _ hF hS => opStr (e := 5) rfl (by kernel_rfl) (by kernel_rfl) (by kernel_rfl) (hF.ev 0 rfl) hS) (kM [false, true, true, true, true, true, true, true, true, true, true, true, true] rfl rfl) (by decide) (v := (.string (strL W))) ?_
        refine rxV 4 rfl (by kernel_rfl) rfl (fun _ _ => rfl) (fun _ _ hF => opNeS rfl (hF.ev 1 rfl) (hF.ev 0 rfl) (decide_eq_false (fun h => h (congrArg strL hkp)))) (kM [false, false, true, true, true, true, true, true, true, true, true, true, true] rfl rfl) (by decide) (v := (.bool false)) ?_
        refine rxV 5 rfl (by kernel_rfl) rfl (fun _ _ => rfl) (fun _ _ hF => opMove rfl (hF.ev 0 rfl)) (kM [false, true, true, true, true, true, true, true, true, true, true, true] rfl rfl) (by decide) (v := (.bool false)) ?_
        refine rxV 6 rfl (by kernel_rfl) rfl (gOn 0 rfl rfl rfl (by decide)) (fun _ _ hF => opMove rfl (hF.ev 3 rfl)) (kM [true, true, true, false, true, true, true, true, true, true, true, true] rfl rfl) (by decide) (v := (.int .u64 ((((vtOf g2 D.now).number) : Nat) : Int))) ?_
        refine rxV 7 rfl (by kernel_rfl) rfl (gOn 1 rfl rfl rfl (by decide)) (fun _ _ hF => opMove rfl (hF.ev 6 rfl)) (kA rfl) (by decide) (v := (.int .u64 (((n) : Nat) : Int))) ?_
        refine rxV 8 rfl (by kernel_rfl) rfl (gOn 2 rfl rfl rfl (by decide)) (fun _ _ hF => opNeI rfl (hF.ev 1 rfl) (hF.ev 0 rfl) (decide_eq_false (fun h => h (by rw [hnp])))) (kM [false, false, true, true, true, true, true, true, true, true, true, true, true] rfl rfl) (by decide) (v := (.bool false)) ?_
        refine rxV 9 rfl (by kernel_rfl) rfl (fun _ _ => rfl) (fun _ _ hF => opPickF rfl (hF.ev 1 rfl) (hF.ev 0 rfl)) (kM [false, false, true, true, true, true, true, true, true, true, true, true] rfl rfl) (by decide) (v := (.bool false)) ?_
        refine rxV 10 rfl (by kernel_rfl) rfl (fun _ _ => rfl) (fun _ _ hF => opMove rfl (hF.ev 0 rfl)) (kM [false, true, true, true, true, true, true, true, true, true, true] rfl rfl) (by decide) (v := (.bool false)) ?_
        refine rxV 11 rfl (by kernel_rfl) rfl (gOn 0 rfl rfl rfl (by decide)) (fun _ _ hF => opMove rfl (hF.ev 1 rfl)) (kM [true, false, true, true, true, true, true, true, true, true, true] rfl rfl) (by decide) (v := (.int .i64 0)) ?_
        refine rxV 12 rfl (by kernel_rfl) rfl (gOn 1 rfl rfl rfl (by decide)) (fun _ _ hF => opNeI rfl (hF.ev 0 rfl) rfl (by decide)) (kM [false, true, true, true, true, true, true, true, true, true, true] rfl rfl) (by decide) (v := (.bool false)) ?_
        refine rxV 13 rfl (by kernel_rfl) rfl (fun _ _ => rfl) (fun _ _ hF => opPickF rfl (hF.ev 1 rfl) (hF.ev 0 rfl)) (kM [false, false, true, true, true, true, true, true, true, true, true] rfl rfl) (by decide) (v := (.bool false)) ?_
        refine rxV 14 rfl (by kernel_rfl) rfl (fun _ _ => rfl) (fun _ _ hF => opMove rfl (hF.ev 0 rfl)) (kM [false, true, true, true, true, true, true, true, true, true] rfl rfl) (by decide) (v := (.bool false)) ?_
        refine rxV 15 rfl (by kernel_rfl) rfl (gOn 0 rfl rfl rfl (by decide)) (fun _ _ hF => opMove rfl (hF.ev 1 rfl)) (kA rfl) (by decide) (v := (.pointer (some ⟨g57, 0, none⟩))) ?_
        refine rxV 18 rfl (by kernel_rfl) rfl (gOn 1 rfl rfl rfl (by decide)) (fun _ _ hF => opMove rfl (hF.ev 6 rfl)) (kA rfl) (by decide) (v := (.slice Aw W.length cw)) ?_
        refine rxS (fun w => Vu cByte w Aw W.length cw W) 19 rfl (by kernel_rfl) rfl (gOn 2 rfl rfl rfl (by decide)) (hH.vu hW (by decide) (Off.nil _ _)) (fun _ _ hF hS => opStr (e := 5) rfl (by kernel_rfl) (by kernel_rfl) (by kernel_rfl) (hF.ev 0 rfl) hS) (kM [false, true, true, true, true, true, true, true, true, true, true, true] rfl rfl) (by decide) (v := (.string (strL W))) ?_
        refine rx1 16 (by kernel_rfl) ?_
        obtain ⟨A62, n63, c64, E65, hE67, hO66⟩ := hV61.at'
        obtain rfl : n63 = (vtOf g2 D.now).kept.length := hO66.len
        replace hH : HH w0 [] [E58, [bl g57 61 #[(.pointer (some ⟨(vtOf g2 D.now).gd, 0, none⟩)), (.int .i64 ((((vtOf g2 D.now).half) : Nat) : Int)), (.int .i64 ((((vtOf g2 D.now).sector) : Nat) : Int)), (.int .u64 ((((vtOf g2 D.now).number) : Nat) : Int)), (.int .u64 ((((vtOf g2 D.now).size) : Nat) : Int)), (.int .i64 ((((vtOf g2 D.now).area) : Nat) : Int)), (.slice A62 ((vtOf g2 D.now).kept.length) c64), (.bool ((vtOf g2 D.now).over))]], E65, E46, E36, E53] w.drew := hH.cast (by rw [hE67]; simp)
        refine moM rfl hH (fun _ hF => Does.small (load_c g57 (vtOf g2 D.now) A62 c64 (Nat.le_trans (kept_le (by omega)) (by decide))) (fun w => opCall rfl Try.func12 rfl rfl (Evs.cons (v := (.pointer (some ⟨g57, 0, none⟩))) (hF.ev 1 rfl) Evs.nil) w)) ⟨hH.blk 1 rfl, (hO66.vuAt (hH.has 2 rfl))⟩ rfl (gOn 2 rfl rfl rfl (by decide)) (kM [true, false, true, true, true, true, true, true, true, true, true, true] rfl rfl) (by decide) (PendOk.keep (PendOk.go [14, 10, 5, 4] (by kernel_rfl) (PendOk.go [14, 10, 5, 4] (by kernel_rfl) (PendOk.nil _ [])))) ?_
        clear hH
        rintro v72 E68 w hO69 hH
        replace hH : HH w0 [] [E58, [bl g57 61 #[(.pointer (some ⟨(vtOf g2 D.now).gd, 0, none⟩)), (.int .i64 ((((vtOf g2 D.now).half) : Nat) : Int)), (.int .i64 ((((vtOf g2 D.now).sector) : Nat) : Int)), (.int .u64 ((((vtOf g2 D.now).number) : Nat) : Int)), (.int .u64 ((((vtOf g2 D.now).size) : Nat) : Int)), (.int .i64 ((((vtOf g2 D.now).area) : Nat) : Int)), (.slice A62 ((vtOf g2 D.now).kept.length) c64), (.bool ((vtOf g2 D.now).over))]], E65, E46, E36, E53, E68] w := hH
        obtain ⟨A70, c71, rfl⟩ := hO69.slice
        refine ⟨(by
          intro s hs
          simp only [List.mem_cons, List.not_mem_nil, or_false] at hs
          rcases hs with rfl
          · exact (hH.vu hW (by decide) (Off.nil _ _))
          ), ?_⟩
        refine rxS (fun w => Vu cByte w A70 ((vtOf g2 D.now).kept.length) c71 ((vtOf g2 D.now).kept)) 17 rfl (by kernel_rfl) rfl (gOn 2 rfl rfl rfl (by decide)) (hO69.vuAt (hH.has 6 rfl)) (fun _ _ hF hS => opStr (e := 5) rfl (by kernel_rfl) (by kernel_rfl) (by kernel_rfl) (hF.ev 0 rfl) hS) (kM [false, true, true, true, true, true, true, true, true, true, true, true] rfl rfl) (by decide) (v := (.string (strL ((vtOf g2 D.now).kept)))) ?_
        refine rxV 20 rfl (by kernel_rfl) rfl (gOn 2 rfl rfl rfl (by decide)) (fun _ _ hF => opNeS rfl (hF.ev 0 rfl) (hF.ev 1 rfl) (decide_eq_false (fun h => h (congrArg strL hkp)))) (kM [false, false, true, true, true, true, true, true, true, true, true, true] rfl rfl) (by decide) (v := (.bool false)) ?_
        refine rxV 21 rfl (by kernel_rfl) rfl (fun _ _ => rfl) (fun _ _ hF => opPickF rfl (hF.ev 1 rfl) (hF.ev 0 rfl)) (kM [false, false, true, true, true, true, true, true, true, true, true] rfl rfl) (by decide) (v := (.bool false)) ?_
        refine rxV 22 rfl (by kernel_rfl) rfl (fun _ _ => rfl) (fun _ _ hF => opMove rfl (hF.ev 0 rfl)) (kM [false, true, true, true, true, true, true, true, true, true] rfl rfl) (by decide) (v := (.bool false)) ?_
        refine rxV 23 rfl (by kernel_rfl) rfl (gOn 0 rfl rfl rfl (by decide)) (fun _ _ hF => opMove rfl (hF.ev 1 rfl)) (kM [true, false, true, true, true, true, true, true, true, true] rfl rfl) (by decide) (v := (.pointer (some ⟨g57, 0, none⟩))) ?_
        refine rxV 25 rfl (by kernel_rfl) rfl (gOn 1 rfl rfl rfl (by decide)) (fun _ _ hF => opMove rfl (hF.ev 4 rfl)) (kA rfl) (by decide) (v := (.int .u64 (((n) : Nat) : Int))) ?_
        refine rx1 24 (by kernel_rfl) ?_
        refine moM rfl hH (fun _ hF => Does.small ((Pure.as (v := (.int .u64 ((((vtOf g2 D.now).number) : Nat) : Int))) (number_c g57 (vtOf g2 D.now) A62 c64) rfl).does) (fun w => opCall rfl Try.func13 rfl rfl (Evs.cons (v := (.pointer (some ⟨g57, 0, none⟩))) (hF.ev 1 rfl) Evs.nil) w)) (hH.blk 1 rfl) rfl (gOn 2 rfl rfl rfl (by decide)) (kM [true, false, true, true, true, true, true, true, true, true, true] rfl rfl) (by decide) (PendOk.go [22, 21, 20] (by kernel_rfl) (PendOk.go [22, 21, 20] (by kernel_rfl) (PendOk.nil _ []))) ?_
        clear hH
        rintro _ _ w ⟨rfl, rfl⟩ hH
        replace hH : HH w0 [] [E58, [bl g57 61 #[(.pointer (some ⟨(vtOf g2 D.now).gd, 0, none⟩)), (.int .i64 ((((vtOf g2 D.now).half) : Nat) : Int)), (.int .i64 ((((vtOf g2 D.now).sector) : Nat) : Int)), (.int .u64 ((((vtOf g2 D.now).number) : Nat) : Int)), (.int .u64 ((((vtOf g2 D.now).size) : Nat) : Int)), (.int .i64 ((((vtOf g2 D.now).area) : Nat) : Int)), (.slice A62 ((vtOf g2 D.now).kept.length) c64), (.bool ((vtOf g2 D.now).over))]], E65, E46, E36, E53, E68] w := hH.unpad
        refine ⟨(fun _ hs => by cases hs), ?_⟩
        refine rxV 26 rfl (by kernel_rfl) rfl (gOn 2 rfl rfl rfl (by decide)) (fun _ _ hF => opNeI rfl (hF.ev 0 rfl) (hF.ev 1 rfl) (decide_eq_false (fun h => h (by rw [hnp])))) (kM [false, false, true, true, true, true, true, true, true, true, true] rfl rfl) (by decide) (v := (.bool false)) ?_
        refine rxV 27 rfl (by kernel_rfl) rfl (fun _ _ => rfl) (fun _ _ hF => opPickF rfl (hF.ev 1 rfl) (hF.ev 0 rfl)) (kM [false, false, true, true, true, true, true, true, true, true] rfl rfl) (by decide) (v := (.bool false)) ?_
        refine rxV 28 rfl (by kernel_rfl) rfl (fun _ _ => rfl) (fun _ _ hF => opMove rfl (hF.ev 0 rfl)) (kM [false, true, true, true, true, true, true, true, true] rfl rfl) (by decide) (v := (.bool false)) ?_
        refine rxV 29 rfl (by kernel_rfl) rfl (gOn 0 rfl rfl rfl (by decide)) (fun _ _ hF => opMove rfl (hF.ev 6 rfl)) (kA rfl) (by decide) (v := (.pointer (some ⟨g5, 0, none⟩))) ?_
        refine rxV 32 rfl (by kernel_rfl) rfl (gOn 1 rfl rfl rfl (by decide)) (fun _ _ hF => opMove rfl (hF.ev 5 rfl)) (kA rfl) (by decide) (v := (.slice Aw W.length cw)) ?_
        refine rxS (fun w => Vu cByte w Aw W.length cw W) 33 rfl (by kernel_rfl) rfl (gOn 2 rfl rfl rfl (by decide)) (hH.vu hW (by decide) (Off.nil _ _)) (fun _ _ hF hS => opStr (e := 5) rfl (by kernel_rfl) (by kernel_rfl) (by kernel_rfl) (hF.ev 0 rfl) hS) (kM [false, true, true, true, true, true, true, true, true, true, true] rfl rfl) (by decide) (v := (.string (strL W))) ?_
        refine rx1 30 (by kernel_rfl) ?_
        obtain ⟨A74, n75, c76, E77, hE79, hO78⟩ := hV38.at'
        obtain rfl : n75 = (vtOf g2 D.now).kept.length := hO78.len
        replace hH : HH w0 [] [E58, [bl g57 61 #[(.pointer (some ⟨(vtOf g2 D.now).gd, 0, none⟩)), (.int .i64 ((((vtOf g2 D.now).half) : Nat) : Int)), (.int .i64 ((((vtOf g2 D.now).sector) : Nat) : Int)), (.int .u64 ((((vtOf g2 D.now).number) : Nat) : Int)), (.int .u64 ((((vtOf g2 D.now).size) : Nat) : Int)), (.int .i64 ((((vtOf g2 D.now).area) : Nat) : Int)), (.slice A62 ((vtOf g2 D.now).kept.length) c64), (.bool ((vtOf g2 D.now).over))]], E65, E46, [bl g5 61 #[(.pointer (some ⟨(vtOf g2 D.now).gd, 0, none⟩)), (.int .i64 ((((vtOf g2 D.now).half) : Nat) : Int)), (.int .i64 ((((vtOf g2 D.now).sector) : Nat) : Int)), (.int .u64 ((((vtOf g2 D.now).number) : Nat) : Int)), (.int .u64 ((((vtOf g2 D.now).size) : Nat) : Int)), (.int .i64 ((((vtOf g2 D.now).area) : Nat) : Int)), (.slice A74 ((vtOf g2 D.now).kept.length) c76), (.bool ((vtOf g2 D.now).over))]], E77, E53, E68] w := hH.cast (by rw [hE79]; simp)
        refine moM rfl hH (fun _ hF => Does.small (load_c g5 (vtOf g2 D.now) A74 c76 (Nat.le_trans (kept_le (by omega)) (by decide))) (fun w => opCall rfl Try.func12 rfl rfl (Evs.cons (v := (.pointer (some ⟨g5, 0, none⟩))) (hF.ev 1 rfl) Evs.nil) w)) ⟨hH.blk 4 rfl, (hO78.vuAt (hH.has 5 rfl))⟩ rfl (gOn 2 rfl rfl rfl (by decide)) (kM [true, false, true, true, true, true, true, true, true, true, true] rfl rfl) (by decide) (PendOk.keep (PendOk.nil _ [])) ?_
        clear hH
        rintro v84 E80 w hO81 hH
        replace hH : HH w0 [] [E58, [bl g57 61 #[(.pointer (some ⟨(vtOf g2 D.now).gd, 0, none⟩)), (.int .i64 ((((vtOf g2 D.now).half) : Nat) : Int)), (.int .i64 ((((vtOf g2 D.now).sector) : Nat) : Int)), (.int .u64 ((((vtOf g2 D.now).number) : Nat) : Int)), (.int .u64 ((((vtOf g2 D.now).size) : Nat) : Int)), (.int .i64 ((((vtOf g2 D.now).area) : Nat) : Int)), (.slice A62 ((vtOf g2 D.now).kept.length) c64), (.bool ((vtOf g2 D.now).over))]], E65, E46, [bl g5 61 #[(.pointer (some ⟨(vtOf g2 D.now).gd, 0, none⟩)), (.int .i64 ((((vtOf g2 D.now).half) : Nat) : Int)), (.int .i64 ((((vtOf g2 D.now).sector) : Nat) : Int)), (.int .u64 ((((vtOf g2 D.now).number) : Nat) : Int)), (.int .u64 ((((vtOf g2 D.now).size) : Nat) : Int)), (.int .i64 ((((vtOf g2 D.now).area) : Nat) : Int)), (.slice A74 ((vtOf g2 D.now).kept.length) c76), (.bool ((vtOf g2 D.now).over))]], E77, E53, E68, E80] w := hH
        obtain ⟨A82, c83, rfl⟩ := hO81.slice
        refine ⟨(by
          intro s hs
          simp only [List.mem_cons, List.not_mem_nil, or_false] at hs
          rcases hs with rfl
          · exact (hH.vu hW (by decide) (Off.nil _ _))
          ), ?_⟩
        refine rxS (fun w => Vu cByte w A82 ((vtOf g2 D.now).kept.length) c83 ((vtOf g2 D.now).kept)) 31 rfl (by kernel_rfl) rfl (gOn 2 rfl rfl rfl (by decide)) (hO81.vuAt (hH.has 8 rfl)) (fun _ _ hF hS => opStr (e := 5) rfl (by kernel_rfl) (by kernel_rfl) (by kernel_rfl) (hF.ev 0 rfl) hS) (kM [false, true, true, true, true, true, true, true, true, true, true] rfl rfl) (by decide) (v := (.string (strL ((vtOf g2 D.now).kept)))) ?_
        refine rxV 34 rfl (by kernel_rfl) rfl (gOn 2 rfl rfl rfl (by decide)) (fun _ _ hF => opNeS rfl (hF.ev 0 rfl) (hF.ev 1 rfl) (decide_eq_false (fun h => h (congrArg strL hkp)))) (kM [false, false, true, true, true, true, true, true, true, true, true] rfl rfl) (by decide) (v := (.bool false)) ?_
        refine rxV 35 rfl (by kernel_rfl) rfl (fun _ _ => rfl) (fun _ _ hF => opPickF rfl (hF.ev 1 rfl) (hF.ev 0 rfl)) (kM [false, false, true, true, true, true, true, true, true, true] rfl rfl) (by decide) (v := (.bool false)) ?_
        refine rxV 36 rfl (by kernel_rfl) rfl (fun _ _ => rfl) (fun _ _ hF => opMove rfl (hF.ev 0 rfl)) (kM [false, true, true, true, true, true, true, true, true] rfl rfl) (by decide) (v := (.bool false)) ?_
        refine rxV 37 rfl (by kernel_rfl) rfl (gOn 0 rfl rfl rfl (by decide)) (fun _ _ hF => opMove rfl (hF.ev 6 rfl)) (kA rfl) (by decide) (v := (.pointer (some ⟨g5, 0, none⟩))) ?_
        refine rxV 39 rfl (by kernel_rfl) rfl (gOn 1 rfl rfl rfl (by decide)) (fun _ _ hF => opMove rfl (hF.ev 4 rfl)) (kA rfl) (by decide) (v := (.int .u64 (((n) : Nat) : Int))) ?_
        refine rx1 38 (by kernel_rfl) ?_
        refine moM rfl hH (fun _ hF => Does.small ((Pure.as (v := (.int .u64 ((((vtOf g2 D.now).number) : Nat) : Int))) (number_c g5 (vtOf g2 D.now) A74 c76) rfl).does) (fun w => opCall rfl Try.func13 rfl rfl (Evs.cons (v := (.pointer (some ⟨g5, 0, none⟩))) (hF.ev 1 rfl) Evs.nil) w)) (hH.blk 4 rfl) rfl (gOn 2 rfl rfl rfl (by decide)) (kM [true, false, true, true, true, true, true, true, true, true, true] rfl rfl) (by decide) (PendOk.go [36, 35, 34] (by kernel_rfl) (PendOk.go [36, 35, 34] (by kernel_rfl) (PendOk.nil _ []))) ?_
        clear hH
        rintro _ _ w ⟨rfl, rfl⟩ hH
        replace hH : HH w0 [] [E58, [bl g57 61 #[(.pointer (some ⟨(vtOf g2 D.now).gd, 0, none⟩)), (.int .i64 ((((vtOf g2 D.now).half) : Nat) : Int)), (.int .i64 ((((vtOf g2 D.now).sector) : Nat) : Int)), (.int .u64 ((((vtOf g2 D.now).number) : Nat) : Int)), (.int .u64 ((((vtOf g2 D.now).size) : Nat) : Int)), (.int .i64 ((((vtOf g2 D.now).area) : Nat) : Int)), (.slice A62 ((vtOf g2 D.now).kept.length) c64), (.bool ((vtOf g2 D.now).over))]], E65, E46, [bl g5 61 #[(.pointer (some ⟨(vtOf g2 D.now).gd, 0, none⟩)), (.int .i64 ((((vtOf g2 D.now).half) : Nat) : Int)), (.int .i64 ((((vtOf g2 D.now).sector) : Nat) : Int)), (.int .u64 ((((vtOf g2 D.now).number) : Nat) : Int)), (.int .u64 ((((vtOf g2 D.now).size) : Nat) : Int)), (.int .i64 ((((vtOf g2 D.now).area) : Nat) : Int)), (.slice A74 ((vtOf g2 D.now).kept.length) c76), (.bool ((vtOf g2 D.now).over))]], E77, E53, E68, E80] w := hH.unpad
        refine ⟨(fun _ hs => by cases hs), ?_⟩
        refine rxV 40 rfl (by kernel_rfl) rfl (gOn 2 rfl rfl rfl (by decide)) (fun _ _ hF => opNeI rfl (hF.ev 0 rfl) (hF.ev 1 rfl) (decide_eq_false (fun h => h (by rw [hnp])))) (kM [false, false, true, true, true, true, true, true, true, true, true] rfl rfl) (by decide) (v := (.bool false)) ?_
        refine rxV 41 rfl (by kernel_rfl) rfl (fun _ _ => rfl) (fun _ _ hF => opPickF rfl (hF.ev 1 rfl) (hF.ev 0 rfl)) (kM [false, false, true, true, true, true, true, true, true, true] rfl rfl) (by decide) (v := (.bool false)) ?_
        refine rxV 42 rfl (by kernel_rfl) rfl (fun _ _ => rfl) (fun _ _ hF => opMove rfl (hF.ev 0 rfl)) (kM [false, true, true, true, true, true, true, true, true] rfl rfl) (by decide) (v := (.bool false)) ?_
        refine rxV 43 rfl (by kernel_rfl) rfl (gOn 0 rfl rfl rfl (by decide)) (fun _ _ hF => opMove rfl (hF.ev 6 rfl)) (kA rfl) (by decide) (v := (.pointer (some ⟨g5, 0, none⟩))) ?_
        refine rx1 44 (by kernel_rfl) ?_
        refine moM rfl hH (fun _ hF => Does.small ((Pure.as (v := (.bool false)) (over_c g5 (vtOf g2 D.now) A74 c76) rfl).does) (fun w => opCall rfl Try.func17 rfl rfl (Evs.cons (v := (.pointer (some ⟨g5, 0, none⟩))) (hF.ev 0 rfl) Evs.nil) w)) (hH.blk 4 rfl) rfl (gOn 1 rfl rfl rfl (by decide)) (kM [false, true, true, true, true, true, true, true, true, true] rfl rfl) (by decide) (PendOk.nil _ []) ?_
        clear hH
        rintro _ _ w ⟨rfl, rfl⟩ hH
        replace hH : HH w0 [] [E58, [bl g57 61 #[(.pointer (some ⟨(vtOf g2 D.now).gd, 0, none⟩)), (.int .i64 ((((vtOf g2 D.now).half) : Nat) : Int)), (.int .i64 ((((vtOf g2 D.now).sector) : Nat) : Int)), (.int .u64 ((((vtOf g2 D.now).number) : Nat) : Int)), (.int .u64 ((((vtOf g2 D.now).size) : Nat) : Int)), (.int .i64 ((((vtOf g2 D.now).area) : Nat) : Int)), (.slice A62 ((vtOf g2 D.now).kept.length) c64), (.bool ((vtOf g2 D.now).over))]], E65, E46, [bl g5 61 #[(.pointer (some ⟨(vtOf g2 D.now).gd, 0, none⟩)), (.int .i64 ((((vtOf g2 D.now).half) : Nat) : Int)), (.int .i64 ((((vtOf g2 D.now).sector) : Nat) : Int)), (.int .u64 ((((vtOf g2 D.now).number) : Nat) : Int)), (.int .u64 ((((vtOf g2 D.now).size) : Nat) : Int)), (.int .i64 ((((vtOf g2 D.now).area) : Nat) : Int)), (.slice A74 ((vtOf g2 D.now).kept.length) c76), (.bool ((vtOf g2 D.now).over))]], E77, E53, E68, E80] w := hH.unpad
        refine ⟨(fun _ hs => by cases hs), ?_⟩
        refine rxV 45 rfl (by kernel_rfl) rfl (fun _ _ => rfl) (fun _ _ hF => opPickF rfl (hF.ev 1 rfl) (hF.ev 0 rfl)) (kM [false, false, true, true, true, true, true, true, true, true] rfl rfl) (by decide) (v := (.bool false)) ?_
        refine rxV 46 rfl (by kernel_rfl) rfl (fun _ _ => rfl) (fun _ _ hF => opMove rfl (hF.ev 0 rfl)) (kM [false, true, true, true, true, true, true, true, true] rfl rfl) (by decide) (v := (.bool false)) ?_
        refine rxV 47 rfl (by kernel_rfl) rfl (gOn 0 rfl rfl rfl (by decide)) (fun _ _ hF => opMove rfl (hF.ev 7 rfl)) (kA rfl) (by decide) (v := (.pointer (some ⟨g2, 0, none⟩))) ?_
        refine rx1 48 (by kernel_rfl) ?_
        refine moE 0 rfl hH rfl (fun _ hF => Does.small (unsynced_c g2 D E58 hD60 ) (fun w => opCall rfl Try.func18 rfl rfl (Evs.cons (v := (.pointer (some ⟨g2, 0, none⟩))) (hF.ev 0 rfl) Evs.nil) w)) trivial rfl (gOn 1 rfl rfl rfl (by decide)) (kM [false, true, true, true, true, true, true, true, true, true] rfl rfl) (by decide) (PendOk.nil _ []) ?_
        clear hH
        rintro _ E86 w ⟨rfl, hD87⟩ hH
        replace hH : HH w0 [] [E86, [bl g57 61 #[(.pointer (some ⟨(vtOf g2 D.now).gd, 0, none⟩)), (.int .i64 ((((vtOf g2 D.now).half) : Nat) : Int)), (.int .i64 ((((vtOf g2 D.now).sector) : Nat) : Int)), (.int .u64 ((((vtOf g2 D.now).number) : Nat) : Int)), (.int .u64 ((((vtOf g2 D.now).size) : Nat) : Int)), (.int .i64 ((((vtOf g2 D.now).area) : Nat) : Int)), (.slice A62 ((vtOf g2 D.now).kept.length) c64), (.bool ((vtOf g2 D.now).over))]], E65, E46, [bl g5 61 #[(.pointer (some ⟨(vtOf g2 D.now).gd, 0, none⟩)), (.int .i64 ((((vtOf g2 D.now).half) : Nat) : Int)), (.int .i64 ((((vtOf g2 D.now).sector) : Nat) : Int)), (.int .u64 ((((vtOf g2 D.now).number) : Nat) : Int)), (.int .u64 ((((vtOf g2 D.now).size) : Nat) : Int)), (.int .i64 ((((vtOf g2 D.now).area) : Nat) : Int)), (.slice A74 ((vtOf g2 D.now).kept.length) c76), (.bool ((vtOf g2 D.now).over))]], E77, E53, E68, E80] w := hH
        refine ⟨(fun _ hs => by cases hs), ?_⟩
        refine rxV 49 rfl (by kernel_rfl) rfl (gOn 1 rfl rfl rfl (by decide)) (fun _ _ hF => opNeI rfl (hF.ev 0 rfl) rfl (decide_eq_false (by rw [hRt.uns]; simp))) (kM [false, true, true, true, true, true, true, true, true, true] rfl rfl) (by decide) (v := (.bool false)) ?_
        refine rxV 50 rfl (by kernel_rfl) rfl (fun _ _ => rfl) (fun _ _ hF => opPickF rfl (hF.ev 1 rfl) (hF.ev 0 rfl)) (kM [false, false, true, true, true, true, true, true, true, true] rfl rfl) (by decide) (v := (.bool false)) ?_
        refine rxEnd (by kernel_rfl) ?_
        refine qxThen ?_
        refine cxF 0 rfl rfl ?_
        refine cxSkip ?_
        refine qxInN ?_
        refine qxThen ?_
        refine cxReg ?_
        refine pxV (v := (.int .i64 (((i + 1) : Nat) : Int))) (fun _ _ hF => opAdd rfl (hF.ev 1 rfl) rfl (wI (by omega) (by omega) (by omega))) rfl (fun _ _ => rfl) (kM [false, false, true, true, true, true, true, true, true] rfl rfl) (by decide) ?_
        refine pxV (v := (.int .i64 (((i + 1) : Nat) : Int))) (fun _ _ hF => opMove rfl (hF.ev 0 rfl)) rfl (fun _ _ => rfl) (kM [false, true, true, true, true, true, true, true] rfl rfl) (by decide) ?_
        refine pxEnd ?_
        obtain ⟨E88, hE89, hD90⟩ : ∃ E, E = ([[bl g5 61 #[(.pointer (some ⟨(vtOf g2 D.now).gd, 0, none⟩)), (.int .i64 ((((vtOf g2 D.now).half) : Nat) : Int)), (.int .i64 ((((vtOf g2 D.now).sector) : Nat) : Int)), (.int .u64 ((((vtOf g2 D.now).number) : Nat) : Int)), (.int .u64 ((((vtOf g2 D.now).size) : Nat) : Int)), (.int .i64 ((((vtOf g2 D.now).area) : Nat) : Int)), (.slice A74 ((vtOf g2 D.now).kept.length) c76), (.bool ((vtOf g2 D.now).over))]], E77] : List Hl).flatten ∧ VtAt g5 (vtOf g2 D.now) E := ⟨_, rfl, hV38.ok, _, _, _, _, rfl, hO78⟩
        replace hH : HH w0 [] [E86, [bl g57 61 #[(.pointer (some ⟨(vtOf g2 D.now).gd, 0, none⟩)), (.int .i64 ((((vtOf g2 D.now).half) : Nat) : Int)), (.int .i64 ((((vtOf g2 D.now).sector) : Nat) : Int)), (.int .u64 ((((vtOf g2 D.now).number) : Nat) : Int)), (.int .u64 ((((vtOf g2 D.now).size) : Nat) : Int)), (.int .i64 ((((vtOf g2 D.now).area) : Nat) : Int)), (.slice A62 ((vtOf g2 D.now).kept.length) c64), (.bool ((vtOf g2 D.now).over))]], E65, E46, E88, E53, E68, E80] w := hH.cast (by rw [hE89]; simp)
        replace hH : HH w0 [] [E86, E88] w := hH.only [true, false, false, false, true, false, false, false]
        exact qxRound (i + 1, D, E86, E88, W, Aw, cw, n) ⟨hH, (show (i + 1) ≤ raws.length from (by omega)), hD87, hD90, hRt, (hl), hf, hW, hkp, hnp, (show n ≤ (i + 1) from (by omega))⟩ (by omega) (slots_at [0, 1, 2, 3, 4, 5, 6, 7] rfl)
      · obtain ⟨D', hk0, hR', hl', hk1, hn1, hf'⟩ := keep_free (gd := g2) (b := bytes) hRt hf (by omega) (by omega) (by omega) (by omega)
        have hl2 : D'.now.length = (4 + sz.toNat) := hl'.trans hl
        have hhf' : halfOf D'.now = (2 + sz.toNat) / 2 := by unfold halfOf; omega
        have hn2 : (vtOf g2 D'.now).number = n + 1 := by rw [hn1, hnp]
        refine cxReg ?_
        refine pxV (v := (.pointer (some ⟨g5, 0, none⟩))) (fun _ _ hF => opMove rfl (hF.ev 6 rfl)) rfl (fun _ _ => rfl) (kA rfl) (by decide) ?_
        refine pxV (v := (.slice A raws.length c)) (fun _ _ hF => opMove rfl (hF.ev 9 rfl)) rfl (fun _ _ => rfl) (kA rfl) (by decide) ?_
        refine pxV (v := (.int .i64 (((i) : Nat) : Int))) (fun _ _ hF => opMove rfl (hF.ev 2 rfl)) rfl (fun _ _ => rfl) (kA rfl) (by decide) ?_
        have hi91 : i < raws.length := by omega
        obtain ⟨b92, off93, rfl, hL94, hb95, hR96⟩ := hR.1.blk (by decide) (Off.nil _ _) (by omega)
        have := hR.1.cap
        have hj99 : i < raws.length := by first | exact hi91 | (simp only [List.length_drop, List.length_take]; omega) | omega
        refine pxV (v := (.pointer (some ⟨b92, off93 + i * 1, none⟩))) (fun _ _ hF => opIndex (i := i) (e := 32) (sz := 1) rfl (by kernel_rfl) (by kernel_rfl) (hF.ev 1 rfl) (hF.ev 0 rfl) rfl hi91) rfl (fun _ _ => rfl) (kM [false, false, true, true, true, true, true, true, true, true, true, true] rfl rfl) (by decide) ?_
        refine pxS (v := (.slice A0 bytes.length c0)) (fun w => HoldsL cSl w b92 off93 raws) (hH.holdsL hL94 hb95 hR96) (fun _ _ hF hS => opLoadT (C := cSl) (y := (A0, bytes.length, c0)) rfl (hF.ev 0 rfl) (by kernel_rfl) (hS i _ hx0) rfl) rfl (fun _ _ => rfl) (kM [false, true, true, true, true, true, true, true, true, true, true] rfl rfl) (by decide) ?_
        replace hH : HH w0 [] [([Ed, Ev] : List Hl).flatten] w := hH.cast (by simp)
        refine pxE 0 hH rfl (fun _ hF => Does.small (keep_as g5 g2 (vtOf g2 D.now) D Ed Ev hD hV rfl bytes A0 c0 (hH.off 0 rfl hvb (by decide) (Off.nil _ _)) (by omega) (by rw [hRt.uns]; exact Nat.zero_le _) hk0) (fun w => opCall rfl Try.func14 rfl rfl (Evs.cons (v := (.pointer (some ⟨g5, 0, none⟩))) (hF.ev 1 rfl) (Evs.cons (v := (.slice A0 bytes.length c0)) (hF.ev 0 rfl) Evs.nil)) w)) (hH.vu hvb (by decide) (Off.nil _ _)) rfl (fun _ _ => rfl) (kM [false, false, true, true, true, true, true, true, true, true, true] rfl rfl) (by decide) ?_
        clear hH
        rintro _ _ w ⟨rfl, E100, E101, rfl, hD102, hV103⟩ hH
        replace hH : HH w0 [] [([E100, E101] : List Hl).flatten] w := hH
        replace hH : HH w0 [] [E100, E101] w := hH.cast (by simp)
        refine pxV (v := (.int .i64 0)) (fun _ _ hF => opAssign rfl (hF.ev 0 rfl)) rfl (fun _ _ => rfl) (kM [false, true, true, true, true, true, true, true, true, true] rfl rfl) (by decide) ?_
        refine pxEnd ?_
        refine qxThen ?_
        refine cxSeq ?_
        refine cxSeq ?_
        refine cxReg ?_
        refine pxV (v := (.slice (some ⟨b92, off93, none⟩) raws.length c)) (fun _ _ hF => opMove rfl (hF.ev 9 rfl)) rfl (fun _ _ => rfl) (kA rfl) (by decide) ?_
        refine pxV (v := (.int .i64 (((i) : Nat) : Int))) (fun _ _ hF => opMove rfl (hF.ev 2 rfl)) rfl (fun _ _ => rfl) (kA rfl) (by decide) ?_
        have hi104 : i < raws.length := by omega
        have hj107 : i < raws.length := by first | exact hi104 | (simp only [List.length_drop, List.length_take]; omega) | omega
        refine pxV (v := (.pointer (some ⟨b92, off93 + i * 1, none⟩))) (fun _ _ hF => opIndex (i := i) (e := 32) (sz := 1) rfl (by kernel_rfl) (by kernel_rfl) (hF.ev 1 rfl) (hF.ev 0 rfl) rfl hi104) rfl (fun _ _ => rfl) (kM [false, false, true, true, true, true, true, true, true, true, true, true] rfl rfl) (by decide) ?_
        refine pxS (v := (.slice A0 bytes.length c0)) (fun w => HoldsL cSl w b92 off93 raws) (hH.holdsL hL94 hb95 hR96) (fun _ _ hF hS => opLoadT (C := cSl) (y := (A0, bytes.length, c0)) rfl (hF.ev 0 rfl) (by kernel_rfl) (hS i _ hx0) rfl) rfl (fun _ _ => rfl) (kM [false, true, true, true, true, true, true, true, true, true, true] rfl rfl) (by decide) ?_
        refine pxV (v := (.int .i64 (((bytes.length) : Nat) : Int))) (fun _ _ hF => opLen (e := 5) rfl (by kernel_rfl) (hF.ev 0 rfl)) rfl (fun _ _ => rfl) (kM [false, true, true, true, true, true, true, true, true, true, true] rfl rfl) (by decide) ?_
        refine pxV (v := (.int .i64 (((64 * ((2 + sz.toNat) / 2)) : Nat) : Int))) (fun _ _ hF => opMove rfl (hF.ev 7 rfl)) rfl (fun _ _ => rfl) (kA rfl) (by decide) ?_
        refine pxV (v := (.bool false)) (fun _ _ hF => opGtr rfl (hF.ev 1 rfl) (hF.ev 0 rfl) (decide_eq_false (by omega))) rfl (fun _ _ => rfl) (kM [false, false, true, true, true, true, true, true, true, true, true, true] rfl rfl) (by decide) ?_
        refine pxEnd ?_
        refine qxThen ?_
        refine cxF 0 rfl rfl ?_
        refine cxSeq ?_
        refine cxReg ?_
        refine pxV (v := (.slice (some ⟨b92, off93, none⟩) raws.length c)) (fun _ _ hF => opMove rfl (hF.ev 10 rfl)) rfl (fun _ _ => rfl) (kM [false, true, true, true, true, true, false, true, true, true, true] rfl rfl) (by decide) ?_
        refine pxV (v := (.int .i64 (((i) : Nat) : Int))) (fun _ _ hF => opMove rfl (hF.ev 2 rfl)) rfl (fun _ _ => rfl) (kM [true, true, false, true, true, true, true, true, true, true] rfl rfl) (by decide) ?_
        have hi108 : i < raws.length := by omega
        have hj111 : i < raws.length := by first | exact hi108 | (simp only [List.length_drop, List.length_take]; omega) | omega
        refine pxV (v := (.pointer (some ⟨b92, off93 + i * 1, none⟩))) (fun _ _ hF => opIndex (i := i) (e := 32) (sz := 1) rfl (by kernel_rfl) (by kernel_rfl) (hF.ev 1 rfl) (hF.ev 0 rfl) rfl hi108) rfl (fun _ _ => rfl) (kM [false, false, true, true, true, true, true, true, true, true] rfl rfl) (by decide) ?_
        refine pxS (v := (.slice A0 bytes.length c0)) (fun w => HoldsL cSl w b92 off93 raws) (hH.holdsL hL94 hb95 hR96) (fun _ _ hF hS => opLoadT (C := cSl) (y := (A0, bytes.length, c0)) rfl (hF.ev 0 rfl) (by kernel_rfl) (hS i _ hx0) rfl) rfl (fun _ _ => rfl) (kM [false, true, true, true, true, true, true, true, true] rfl rfl) (by decide) ?_
        refine pxV (v := (.slice A0 bytes.length c0)) (fun _ _ hF => opAssign rfl (hF.ev 0 rfl)) rfl (fun _ _ => rfl) (kM [false, true, true, true, true, true, true, true, true] rfl rfl) (by decide) ?_
        refine pxEnd ?_
        refine qxThen ?_
        refine cxSeq ?_
        refine cxReg ?_
        refine pxV (v := (.int .u64 (((n) : Nat) : Int))) (fun _ _ hF => opMove rfl (hF.ev 4 rfl)) rfl (fun _ _ => rfl) (kM [true, true, true, true, false, true, true, true, true] rfl rfl) (by decide) ?_
        refine pxV (v := (.int .u64 (((n + 1) : Nat) : Int))) (fun _ _ hF => opAddU (m := n) (j := 1) (z := (n + 1)) rfl rfl (hF.ev 0 rfl) rfl (Nat.mod_eq_of_lt (by show _ < 18446744073709551616; omega))) rfl (fun _ _ => rfl) (kM [false, true, true, true, true, true, true, true, true] rfl rfl) (by decide) ?_
        refine pxV (v := (.int .u64 (((n + 1) : Nat) : Int))) (fun _ _ hF => opAssign rfl (hF.ev 0 rfl)) rfl (fun _ _ => rfl) (kM [false, true, true, true, true, true, true, true, true] rfl rfl) (by decide) ?_
        refine pxEnd ?_
        refine qxThen ?_
        refine cxSeq ?_
        refine cxReg ?_
        refine pxV (v := (.int .i64 0)) (fun _ _ hF => opMove rfl (hF.ev 2 rfl)) rfl (fun _ _ => rfl) (kM [true, true, false, true, true, true, true, true, true] rfl rfl) (by decide) ?_
        refine pxV (v := (.bool false)) (fun _ _ hF => opNeI rfl (hF.ev 0 rfl) rfl (by decide)) rfl (fun _ _ => rfl) (kM [false, true, true, true, true, true, true, true, true] rfl rfl) (by decide) ?_
        refine pxEnd ?_
        refine qxThen ?_
        refine cxF 0 rfl rfl ?_
        refine cxSkip ?_
        refine qxThen ?_
        refine cxSeq ?_
        refine cxReg ?_
        refine pxV (v := (.pointer (some ⟨g2, 0, none⟩))) (fun _ _ hF => opMove rfl (hF.ev 7 rfl)) rfl (fun _ _ => rfl) (kM [false, true, true, true, true, true, true, true, true] rfl rfl) (by decide) ?_
        refine pxE 0 hH rfl (fun _ hF => Does.small (sectors_l g2 D' E100 hD102 (by omega) hR'.up) (fun w => opCall rfl Try.func16 rfl rfl (Evs.cons (v := (.pointer (some ⟨g2, 0, none⟩))) (hF.ev 0 rfl) Evs.nil) w)) trivial rfl (fun _ _ => rfl) (kM [false, true, true, true, true, true, true, true, true] rfl rfl) (by decide) ?_
        clear hH
        rintro v113 _ w ⟨E114, E115, rfl, hD116, hO117⟩ hH
        replace hH : HH w0 [] [([E114, E115] : List Hl).flatten, E101] w := hH
        obtain ⟨A118, c119, rfl⟩ := hO117.slice
        replace hH : HH w0 [] [E114, E115, E101] w := hH.cast (by simp)
        refine pxM hH (fun _ hF => Does.small (found_v g2 A118 c119 D'.now (by omega) (by omega)) (fun w => opCall rfl Try.func15 rfl rfl (Evs.cons (v := (.slice A118 D'.now.length c119)) (hF.ev 0 rfl) Evs.nil) w)) (hO117.vuAt (hH.has 1 rfl)) rfl (fun _ _ => rfl) (kM [false, true, true, true, true, true, true, true, true] rfl rfl) (by decide) ?_
        clear hH
        rintro _ E122 w ⟨s121, rfl, hO123⟩ hH
        replace hH : HH w0 [] [E114, E115, E101, E122] w := hH
        obtain ⟨A124, c125, rfl⟩ := hO123.slice
        refine pxV (v := (.tuple #[(.slice A124 ((vtOf g2 D'.now).kept.length) c125), (.int .u64 ((((vtOf g2 D'.now).number) : Nat) : Int))])) (fun _ _ hF => opMove rfl (hF.ev 0 rfl)) rfl (fun _ _ => rfl) (kM [false, true, true, true, true, true, true, true, true] rfl rfl) (by decide) ?_
        refine pxV (v := (.slice A124 ((vtOf g2 D'.now).kept.length) c125)) (fun _ _ hF => opExtract rfl (hF.ev 0 rfl) rfl) rfl (fun _ _ => rfl) (kA rfl) (by decide) ?_
        refine pxV (v := (.int .u64 ((((vtOf g2 D'.now).number) : Nat) : Int))) (fun _ _ hF => opExtract rfl (hF.ev 1 rfl) rfl) rfl (fun _ _ => rfl) (kM [true, false, true, true, true, true, true, true, true, true] rfl rfl) (by decide) ?_
        refine pxV (v := (.slice A124 ((vtOf g2 D'.now).kept.length) c125)) (fun _ _ hF => opAssign rfl (hF.ev 1 rfl)) rfl (fun _ _ => rfl) (kM [true, false, true, true, true, true, true, true, true, true] rfl rfl) (by decide) ?_
        refine pxV (v := (.int .u64 ((((vtOf g2 D'.now).number) : Nat) : Int))) (fun _ _ hF => opAssign rfl (hF.ev 1 rfl)) rfl (fun _ _ => rfl) (kM [true, false, true, true, true, true, true, true, true, true] rfl rfl) (by decide) ?_
        refine pxEnd ?_
        refine qxThen ?_
        refine cxSeq ?_
        refine cxReg ?_
        refine pxV (v := (.pointer (some ⟨g2, 0, none⟩))) (fun _ _ hF => opMove rfl (hF.ev 8 rfl)) rfl (fun _ _ => rfl) (kA rfl) (by decide) ?_
        refine pxE 0 hH rfl (fun _ hF => Does.small (open_ok g2 D' E114 hD116 (by omega) hR'.up) (fun w => opCall rfl Try.func10 rfl rfl (Evs.cons (v := (.pointer (some ⟨g2, 0, none⟩))) (hF.ev 0 rfl) Evs.nil) w)) trivial rfl (fun _ _ => rfl) (kM [false, true, true, true, true, true, true, true, true, true, true] rfl rfl) (by decide) ?_
        clear hH
        rintro _ _ w ⟨g126, E127, E128, rfl, rfl, hD129, hV130⟩ hH
        replace hH : HH w0 [] [([E127, E128] : List Hl).flatten, E115, E101, E122] w := hH
        replace hH : HH w0 [] [E127, E128, E115, E101, E122] w := hH.cast (by simp)
        refine pxV (v := (.tuple #[(.pointer (some ⟨g126, 0, none⟩)), (.int .i64 0)])) (fun _ _ hF => opMove rfl (hF.ev 0 rfl)) rfl (fun _ _ => rfl) (kM [false, true, true, true, true, true, true, true, true, true, true] rfl rfl) (by decide) ?_
        refine pxV (v := (.pointer (some ⟨g126, 0, none⟩))) (fun _ _ hF => opExtract rfl (hF.ev 0 rfl) rfl) rfl (fun _ _ => rfl) (kA rfl) (by decide) ?_
        refine pxV (v := (.int .i64 0)) (fun _ _ hF => opExtract rfl (hF.ev 1 rfl) rfl) rfl (fun _ _ => rfl) (kM [true, false, true, true, true, true, true, true, true, true, true, true] rfl rfl) (by decide) ?_
        refine pxV (v := (.pointer (some ⟨g126, 0, none⟩))) (fun _ _ hF => opAssign rfl (hF.ev 1 rfl)) rfl (fun _ _ => rfl) (kM [true, false, true, true, true, true, true, true, true, true, true, true] rfl rfl) (by decide) ?_
        refine pxV (v := (.int .i64 0)) (fun _ _ hF => opAssign rfl (hF.ev 1 rfl)) rfl (fun _ _ => rfl) (kM [true, false, true, true, true, true, true, true, true, true, true, true] rfl rfl) (by decide) ?_
        refine pxEnd ?_
        refine qxThen ?_
        refine cxSeq ?_
        refine cxRegX mixedOrders (by kernel_rfl) ?_
        replace hH := hH.drew
        refine rxV 0 rfl (by kernel_rfl) rfl (fun _ _ => rfl) (fun _ _ hF => opMove rfl (hF.ev 3 rfl)) (kM [true, true, true, false, true, true, true, true, true, true, true, true] rfl rfl) (by decide) (v := (.slice A124 ((vtOf g2 D'.now).kept.length) c125)) ?_
        refine rxS (fun w => Vu cByte w A124 ((vtOf g2 D'.now).kept.length) c125 ((vtOf g2 D'.now).kept)) 1 rfl (by kernel_rfl) rfl (fun _ _ => rfl) (hO123.vuAt (hH.has 4 rfl)) (fun _ _ hF hS => opStr (e := 5) rfl (by kernel_rfl) (by kernel_rfl) (by kernel_rfl) (hF.ev 0 rfl) hS) (kM [false, true, true, true, true, true, true, true, true, true, true, true] rfl rfl) (by decide) (v := (.string (strL ((vtOf g2 D'.now).kept)))) ?_
        refine rxV 2 rfl (by kernel_rfl) rfl (fun _ _ => rfl) (fun _ _ hF => opMove rfl (hF.ev 5 rfl)) (kA rfl) (by decide) (v := (.slice A0 bytes.length c0)) ?_
        refine rxS (fun w => Vu cByte w A0 bytes.length c0 bytes) 3 rfl (by kernel_rfl) rfl (fun _ _ => rfl) (hH.vu hvb (by decide) (Off.nil _ _)) (fun _ _ hF hS => opStr (e := 5) rfl (by kernel_rfl) (by kernel_rfl) (by kernel_rfl) (hF.ev 0 rfl) hS) (kM [false, true, true, true, true, true, true, true, true, true, true, true, true] rfl rfl) (by decide) (v := (.string (strL bytes))) ?_
        refine rxV 4 rfl (by kernel_rfl) rfl (fun _ _ => rfl) (fun _ _ hF => opNeS rfl (hF.ev 1 rfl) (hF.ev 0 rfl) (decide_eq_false (fun h => h (congrArg strL hk1)))) (kM [false, false, true, true, true, true, true, true, true, true, true, true, true] rfl rfl) (by decide) (v := (.bool false)) ?_
        refine rxV 5 rfl (by kernel_rfl) rfl (fun _ _ => rfl) (fun _ _ hF => opMove rfl (hF.ev 0 rfl)) (kM [false, true, true, true, true, true, true, true, true, true, true, true] rfl rfl) (by decide) (v := (.bool false)) ?_
        refine rxV 6 rfl (by kernel_rfl) rfl (gOn 0 rfl rfl rfl (by decide)) (fun _ _ hF => opMove rfl (hF.ev 3 rfl)) (kM [true, true, true, false, true, true, true, true, true, true, true, true] rfl rfl) (by decide) (v := (.int .u64 ((((vtOf g2 D'.now).number) : Nat) : Int))) ?_
        refine rxV 7 rfl (by kernel_rfl) rfl (gOn 1 rfl rfl rfl (by decide)) (fun _ _ hF => opMove rfl (hF.ev 4 rfl)) (kA rfl) (by decide) (v := (.int .u64 (((n + 1) : Nat) : Int))) ?_
        refine rxV 8 rfl (by kernel_rfl) rfl (gOn 2 rfl rfl rfl (by decide)) (fun _ _ hF => opNeI rfl (hF.ev 1 rfl) (hF.ev 0 rfl) (decide_eq_false (fun h => h (by rw [hn2])))) (kM [false, false, true, true, true, true, true, true, true, true, true, true, true] rfl rfl) (by decide) (v := (.bool false)) ?_
        refine rxV 9 rfl (by kernel_rfl) rfl (fun _ _ => rfl) (fun _ _ hF => opPickF rfl (hF.ev 1 rfl) (hF.ev 0 rfl)) (kM [false, false, true, true, true, true, true, true, true, true, true, true] rfl rfl) (by decide) (v := (.bool false)) ?_
        refine rxV 10 rfl (by kernel_rfl) rfl (fun _ _ => rfl) (fun _ _ hF => opMove rfl (hF.ev 0 rfl)) (kM [false, true, true, true, true, true, true, true, true, true, true] rfl rfl) (by decide) (v := (.bool false)) ?_
        refine rxV 11 rfl (by kernel_rfl) rfl (gOn 0 rfl rfl rfl (by decide)) (fun _ _ hF => opMove rfl (hF.ev 1 rfl)) (kM [true, false, true, true, true, true, true, true, true, true, true] rfl rfl) (by decide) (v := (.int .i64 0)) ?_
        refine rxV 12 rfl (by kernel_rfl) rfl (gOn 1 rfl rfl rfl (by decide)) (fun _ _ hF => opNeI rfl (hF.ev 0 rfl) rfl (by decide)) (kM [false, true, true, true, true, true, true, true, true, true, true] rfl rfl) (by decide) (v := (.bool false)) ?_
        refine rxV 13 rfl (by kernel_rfl) rfl (fun _ _ => rfl) (fun _ _ hF => opPickF rfl (hF.ev 1 rfl) (hF.ev 0 rfl)) (kM [false, false, true, true, true, true, true, true, true, true, true] rfl rfl) (by decide) (v := (.bool false)) ?_
        refine rxV 14 rfl (by kernel_rfl) rfl (fun _ _ => rfl) (fun _ _ hF => opMove rfl (hF.ev 0 rfl)) (kM [false, true, true, true, true, true, true, true, true, true] rfl rfl) (by decide) (v := (.bool false)) ?_
        refine rxV 15 rfl (by kernel_rfl) rfl (gOn 0 rfl rfl rfl (by decide)) (fun _ _ hF => opMove rfl (hF.ev 1 rfl)) (kA rfl) (by decide) (v := (.pointer (some ⟨g126, 0, none⟩))) ?_
        refine rxV 18 rfl (by kernel_rfl) rfl (gOn 1 rfl rfl rfl (by decide)) (fun _ _ hF => opMove rfl (hF.ev 4 rfl)) (kA rfl) (by decide) (v := (.slice A0 bytes.length c0)) ?_
        refine rxS (fun w => Vu cByte w A0 bytes.length c0 bytes) 19 rfl (by kernel_rfl) rfl (gOn 2 rfl rfl rfl (by decide)) (hH.vu hvb (by decide) (Off.nil _ _)) (fun _ _ hF hS => opStr (e := 5) rfl (by kernel_rfl) (by kernel_rfl) (by kernel_rfl) (hF.ev 0 rfl) hS) (kM [false, true, true, true, true, true, true, true, true, true, true, true] rfl rfl) (by decide) (v := (.string (strL bytes))) ?_
        refine rx1 16 (by kernel_rfl) ?_
        obtain ⟨A131, n132, c133, E134, hE136, hO135⟩ := hV130.at'
        obtain rfl : n132 = (vtOf g2 D'.now).kept.length := hO135.len
        replace hH : HH w0 [] [E127, [bl g126 61 #[(.pointer (some ⟨(vtOf g2 D'.now).gd, 0, none⟩)), (.int .i64 ((((vtOf g2 D'.now).half) : Nat) : Int)), (.int .i64 ((((vtOf g2 D'.now).sector) : Nat) : Int)), (.int .u64 ((((vtOf g2 D'.now).number) : Nat) : Int)), (.int .u64 ((((vtOf g2 D'.now).size) : Nat) : Int)), (.int .i64 ((((vtOf g2 D'.now).area) : Nat) : Int)), (.slice A131 ((vtOf g2 D'.now).kept.length) c133), (.bool ((vtOf g2 D'.now).over))]], E134, E115, E101, E122] w.drew := hH.cast (by rw [hE136]; simp)
        refine moM rfl hH (fun _ hF => Does.small (load_c g126 (vtOf g2 D'.now) A131 c133 (Nat.le_trans (kept_le (by omega)) (by decide))) (fun w => opCall rfl Try.func12 rfl rfl (Evs.cons (v := (.pointer (some ⟨g126, 0, none⟩))) (hF.ev 1 rfl) Evs.nil) w)) ⟨hH.blk 1 rfl, (hO135.vuAt (hH.has 2 rfl))⟩ rfl (gOn 2 rfl rfl rfl (by decide)) (kM [true, false, true, true, true, true, true, true, true, true, true, true] rfl rfl) (by decide) (PendOk.keep (PendOk.go [14, 10, 5, 4] (by kernel_rfl) (PendOk.go [14, 10, 5, 4] (by kernel_rfl) (PendOk.nil _ [])))) ?_
        clear hH
        rintro v141 E137 w hO138 hH
        replace hH : HH w0 [] [E127, [bl g126 61 #[(.pointer (some ⟨(vtOf g2 D'.now).gd, 0, none⟩)), (.int .i64 ((((vtOf g2 D'.now).half) : Nat) : Int)), (.int .i64 ((((vtOf g2 D'.now).sector) : Nat) : Int)), (.int .u64 ((((vtOf g2 D'.now).number) : Nat) : Int)), (.int .u64 ((((vtOf g2 D'.now).size) : Nat) : Int)), (.int .i64 ((((vtOf g2 D'.now).area) : Nat) : Int)), (.slice A131 ((vtOf g2 D'.now).kept.length) c133), (.bool ((vtOf g2 D'.now).over))]], E134, E115, E101, E122, E137] w := hH
        obtain ⟨A139, c140, rfl⟩ := hO138.slice
        refine ⟨(by
          intro s hs
          simp only [List.mem_cons, List.not_mem_nil, or_false] at hs
          rcases hs with rfl
          · exact (hH.vu hvb (by decide) (Off.nil _ _))
          ), ?_⟩
        refine rxS (fun w => Vu cByte w A139 ((vtOf g2 D'.now).kept.length) c140 ((vtOf g2 D'.now).kept)) 17 rfl (by kernel_rfl) rfl (gOn 2 rfl rfl rfl (by decide)) (hO138.vuAt (hH.has 6 rfl)) (fun _ _ hF hS => opStr (e := 5) rfl (by kernel_rfl) (by kernel_rfl) (by kernel_rfl) (hF.ev 0 rfl) hS) (kM [false, true, true, true, true, true, true, true, true, true, true, true] rfl rfl) (by decide) (v := (.string (strL ((vtOf g2 D'.now).kept)))) ?_
        refine rxV 20 rfl (by kernel_rfl) rfl (gOn 2 rfl rfl rfl (by decide)) (fun _ _ hF => opNeS rfl (hF.ev 0 rfl) (hF.ev 1 rfl) (decide_eq_false (fun h => h (congrArg strL hk1)))) (kM [false, false, true, true, true, true, true, true, true, true, true, true] rfl rfl) (by decide) (v := (.bool false)) ?_
        refine rxV 21 rfl (by kernel_rfl) rfl (fun _ _ => rfl) (fun _ _ hF => opPickF rfl (hF.ev 1 rfl) (hF.ev 0 rfl)) (kM [false, false, true, true, true, true, true, true, true, true, true] rfl rfl) (by decide) (v := (.bool false)) ?_
        refine rxV 22 rfl (by kernel_rfl) rfl (fun _ _ => rfl) (fun _ _ hF => opMove rfl (hF.ev 0 rfl)) (kM [false, true, true, true, true, true, true, true, true, true] rfl rfl) (by decide) (v := (.bool false)) ?_
        refine rxV 23 rfl (by kernel_rfl) rfl (gOn 0 rfl rfl rfl (by decide)) (fun _ _ hF => opMove rfl (hF.ev 1 rfl)) (kM [true, false, true, true, true, true, true, true, true, true] rfl rfl) (by decide) (v := (.pointer (some ⟨g126, 0, none⟩))) ?_
        refine rxV 25 rfl (by kernel_rfl) rfl (gOn 1 rfl rfl rfl (by decide)) (fun _ _ hF => opMove rfl (hF.ev 2 rfl)) (kA rfl) (by decide) (v := (.int .u64 (((n + 1) : Nat) : Int))) ?_
        refine rx1 24 (by kernel_rfl) ?_
        refine moM rfl hH (fun _ hF => Does.small ((Pure.as (v := (.int .u64 ((((vtOf g2 D'.now).number) : Nat) : Int))) (number_c g126 (vtOf g2 D'.now) A131 c133) rfl).does) (fun w => opCall rfl Try.func13 rfl rfl (Evs.cons (v := (.pointer (some ⟨g126, 0, none⟩))) (hF.ev 1 rfl) Evs.nil) w)) (hH.blk 1 rfl) rfl (gOn 2 rfl rfl rfl (by decide)) (kM [true, false, true, true, true, true, true, true, true, true, true] rfl rfl) (by decide) (PendOk.go [22, 21, 20] (by kernel_rfl) (PendOk.go [22, 21, 20] (by kernel_rfl) (PendOk.nil _ []))) ?_
        clear hH
        rintro _ _ w ⟨rfl, rfl⟩ hH
        replace hH : HH w0 [] [E127, [bl g126 61 #[(.pointer (some ⟨(vtOf g2 D'.now).gd, 0, none⟩)), (.int .i64 ((((vtOf g2 D'.now).half) : Nat) : Int)), (.int .i64 ((((vtOf g2 D'.now).sector) : Nat) : Int)), (.int .u64 ((((vtOf g2 D'.now).number) : Nat) : Int)), (.int .u64 ((((vtOf g2 D'.now).size) : Nat) : Int)), (.int .i64 ((((vtOf g2 D'.now).area) : Nat) : Int)), (.slice A131 ((vtOf g2 D'.now).kept.length) c133), (.bool ((vtOf g2 D'.now).over))]], E134, E115, E101, E122, E137] w := hH.unpad
        refine ⟨(fun _ hs => by cases hs), ?_⟩
        refine rxV 26 rfl (by kernel_rfl) rfl (gOn 2 rfl rfl rfl (by decide)) (fun _ _ hF => opNeI rfl (hF.ev 0 rfl) (hF.ev 1 rfl) (decide_eq_false (fun h => h (by rw [hn2])))) (kM [false, false, true, true, true, true, true, true, true, true, true] rfl rfl) (by decide) (v := (.bool false)) ?_
        refine rxV 27 rfl (by kernel_rfl) rfl (fun _ _ => rfl) (fun _ _ hF => opPickF rfl (hF.ev 1 rfl) (hF.ev 0 rfl)) (kM [false, false, true, true, true, true, true, true, true, true] rfl rfl) (by decide) (v := (.bool false)) ?_
        refine rxV 28 rfl (by kernel_rfl) rfl (fun _ _ => rfl) (fun _ _ hF => opMove rfl (hF.ev 0 rfl)) (kM [false, true, true, true, true, true, true, true, true] rfl rfl) (by decide) (v := (.bool false)) ?_
        refine rxV 29 rfl (by kernel_rfl) rfl (gOn 0 rfl rfl rfl (by decide)) (fun _ _ hF => opMove rfl (hF.ev 6 rfl)) (kA rfl) (by decide) (v := (.pointer (some ⟨g5, 0, none⟩))) ?_
        refine rxV 32 rfl (by kernel_rfl) rfl (gOn 1 rfl rfl rfl (by decide)) (fun _ _ hF => opMove rfl (hF.ev 3 rfl)) (kA rfl) (by decide) (v := (.slice A0 bytes.length c0)) ?_
        refine rxS (fun w => Vu cByte w A0 bytes.length c0 bytes) 33 rfl (by kernel_rfl) rfl (gOn 2 rfl rfl rfl (by decide)) (hH.vu hvb (by decide) (Off.nil _ _)) (fun _ _ hF hS => opStr (e := 5) rfl (by kernel_rfl) (by kernel_rfl) (by kernel_rfl) (hF.ev 0 rfl) hS) (kM [false, true, true, true, true, true, true, true, true, true, true] rfl rfl) (by decide) (v := (.string (strL bytes))) ?_
        refine rx1 30 (by kernel_rfl) ?_
        obtain ⟨A143, n144, c145, E146, hE148, hO147⟩ := hV103.at'
        obtain rfl : n144 = (vtOf g2 D'.now).kept.length := hO147.len
        replace hH : HH w0 [] [E127, [bl g126 61 #[(.pointer (some ⟨(vtOf g2 D'.now).gd, 0, none⟩)), (.int .i64 ((((vtOf g2 D'.now).half) : Nat) : Int)), (.int .i64 ((((vtOf g2 D'.now).sector) : Nat) : Int)), (.int .u64 ((((vtOf g2 D'.now).number) : Nat) : Int)), (.int .u64 ((((vtOf g2 D'.now).size) : Nat) : Int)), (.int .i64 ((((vtOf g2 D'.now).area) : Nat) : Int)), (.slice A131 ((vtOf g2 D'.now).kept.length) c133), (.bool ((vtOf g2 D'.now).over))]], E134, E115, [bl g5 61 #[(.pointer (some ⟨(vtOf g2 D'.now).gd, 0, none⟩)), (.int .i64 ((((vtOf g2 D'.now).half) : Nat) : Int)), (.int .i64 ((((vtOf g2 D'.now).sector) : Nat) : Int)), (.int .u64 ((((vtOf g2 D'.now).number) : Nat) : Int)), (.int .u64 ((((vtOf g2 D'.now).size) : Nat) : Int)), (.int .i64 ((((vtOf g2 D'.now).area) : Nat) : Int)), (.slice A143 ((vtOf g2 D'.now).kept.length) c145), (.bool ((vtOf g2 D'.now).over))]], E146, E122, E137] w := hH.cast (by rw [hE148]; simp)
        refine moM rfl hH (fun _ hF => Does.small (load_c g5 (vtOf g2 D'.now) A143 c145 (Nat.le_trans (kept_le (by omega)) (by decide))) (fun w => opCall rfl Try.func12 rfl rfl (Evs.cons (v := (.pointer (some ⟨g5, 0, none⟩))) (hF.ev 1 rfl) Evs.nil) w)) ⟨hH.blk 4 rfl, (hO147.vuAt (hH.has 5 rfl))⟩ rfl (gOn 2 rfl rfl rfl (by decide)) (kM [true, false, true, true, true, true, true, true, true, true, true] rfl rfl) (by decide) (PendOk.keep (PendOk.nil _ [])) ?_
        clear hH
        rintro v153 E149 w hO150 hH
        replace hH : HH w0 [] [E127, [bl g126 61 #[(.pointer (some ⟨(vtOf g2 D'.now).gd, 0, none⟩)), (.int .i64 ((((vtOf g2 D'.now).half) : Nat) : Int)), (.int .i64 ((((vtOf g2 D'.now).sector) : Nat) : Int)), (.int .u64 ((((vtOf g2 D'.now).number) : Nat) : Int)), (.int .u64 ((((vtOf g2 D'.now).size) : Nat) : Int)), (.int .i64 ((((vtOf g2 D'.now).area) : Nat) : Int)), (.slice A131 ((vtOf g2 D'.now).kept.length) c133), (.bool ((vtOf g2 D'.now).over))]], E134, E115, [bl g5 61 #[(.pointer (some ⟨(vtOf g2 D'.now).gd, 0, none⟩)), (.int .i64 ((((vtOf g2 D'.now).half) : Nat) : Int)), (.int .i64 ((((vtOf g2 D'.now).sector) : Nat) : Int)), (.int .u64 ((((vtOf g2 D'.now).number) : Nat) : Int)), (.int .u64 ((((vtOf g2 D'.now).size) : Nat) : Int)), (.int .i64 ((((vtOf g2 D'.now).area) : Nat) : Int)), (.slice A143 ((vtOf g2 D'.now).kept.length) c145), (.bool ((vtOf g2 D'.now).over))]], E146, E122, E137, E149] w := hH
        obtain ⟨A151, c152, rfl⟩ := hO150.slice
        refine ⟨(by
          intro s hs
          simp only [List.mem_cons, List.not_mem_nil, or_false] at hs
          rcases hs with rfl
          · exact (hH.vu hvb (by decide) (Off.nil _ _))
          ), ?_⟩
        refine rxS (fun w => Vu cByte w A151 ((vtOf g2 D'.now).kept.length) c152 ((vtOf g2 D'.now).kept)) 31 rfl (by kernel_rfl) rfl (gOn 2 rfl rfl rfl (by decide)) (hO150.vuAt (hH.has 8 rfl)) (fun _ _ hF hS => opStr (e := 5) rfl (by kernel_rfl) (by kernel_rfl) (by kernel_rfl) (hF.ev 0 rfl) hS) (kM [false, true, true, true, true, true, true, true, true, true, true] rfl rfl) (by decide) (v := (.string (strL ((vtOf g2 D'.now).kept)))) ?_
        refine rxV 34 rfl (by kernel_rfl) rfl (gOn 2 rfl rfl rfl (by decide)) (fun _ _ hF => opNeS rfl (hF.ev 0 rfl) (hF.ev 1 rfl) (decide_eq_false (fun h => h (congrArg strL hk1)))) (kM [false, false, true, true, true, true, true, true, true, true, true] rfl rfl) (by decide) (v := (.bool false)) ?_
        refine rxV 35 rfl (by kernel_rfl) rfl (fun _ _ => rfl) (fun _ _ hF => opPickF rfl (hF.ev 1 rfl) (hF.ev 0 rfl)) (kM [false, false, true, true, true, true, true, true, true, true] rfl rfl) (by decide) (v := (.bool false)) ?_
        refine rxV 36 rfl (by kernel_rfl) rfl (fun _ _ => rfl) (fun _ _ hF => opMove rfl (hF.ev 0 rfl)) (kM [false, true, true, true, true, true, true, true, true] rfl rfl) (by decide) (v := (.bool false)) ?_
        refine rxV 37 rfl (by kernel_rfl) rfl (gOn 0 rfl rfl rfl (by decide)) (fun _ _ hF => opMove rfl (hF.ev 6 rfl)) (kA rfl) (by decide) (v := (.pointer (some ⟨g5, 0, none⟩))) ?_
        refine rxV 39 rfl (by kernel_rfl) rfl (gOn 1 rfl rfl rfl (by decide)) (fun _ _ hF => opMove rfl (hF.ev 2 rfl)) (kA rfl) (by decide) (v := (.int .u64 (((n + 1) : Nat) : Int))) ?_
        refine rx1 38 (by kernel_rfl) ?_
        refine moM rfl hH (fun _ hF => Does.small ((Pure.as (v := (.int .u64 ((((vtOf g2 D'.now).number) : Nat) : Int))) (number_c g5 (vtOf g2 D'.now) A143 c145) rfl).does) (fun w => opCall rfl Try.func13 rfl rfl (Evs.cons (v := (.pointer (some ⟨g5, 0, none⟩))) (hF.ev 1 rfl) Evs.nil) w)) (hH.blk 4 rfl) rfl (gOn 2 rfl rfl rfl (by decide)) (kM [true, false, true, true, true, true, true, true, true, true, true] rfl rfl) (by decide) (PendOk.go [36, 35, 34] (by kernel_rfl) (PendOk.go [36, 35, 34] (by kernel_rfl) (PendOk.nil _ []))) ?_
        clear hH
        rintro _ _ w ⟨rfl, rfl⟩ hH
        replace hH : HH w0 [] [E127, [bl g126 61 #[(.pointer (some ⟨(vtOf g2 D'.now).gd, 0, none⟩)), (.int .i64 ((((vtOf g2 D'.now).half) : Nat) : Int)), (.int .i64 ((((vtOf g2 D'.now).sector) : Nat) : Int)), (.int .u64 ((((vtOf g2 D'.now).number) : Nat) : Int)), (.int .u64 ((((vtOf g2 D'.now).size) : Nat) : Int)), (.int .i64 ((((vtOf g2 D'.now).area) : Nat) : Int)), (.slice A131 ((vtOf g2 D'.now).kept.length) c133), (.bool ((vtOf g2 D'.now).over))]], E134, E115, [bl g5 61 #[(.pointer (some ⟨(vtOf g2 D'.now).gd, 0, none⟩)), (.int .i64 ((((vtOf g2 D'.now).half) : Nat) : Int)), (.int .i64 ((((vtOf g2 D'.now).sector) : Nat) : Int)), (.int .u64 ((((vtOf g2 D'.now).number) : Nat) : Int)), (.int .u64 ((((vtOf g2 D'.now).size) : Nat) : Int)), (.int .i64 ((((vtOf g2 D'.now).area) : Nat) : Int)), (.slice A143 ((vtOf g2 D'.now).kept.length) c145), (.bool ((vtOf g2 D'.now).over))]], E146, E122, E137, E149] w := hH.unpad
        refine ⟨(fun _ hs => by cases hs), ?_⟩
        refine rxV 40 rfl (by kernel_rfl) rfl (gOn 2 rfl rfl rfl (by decide)) (fun _ _ hF => opNeI rfl (hF.ev 0 rfl) (hF.ev 1 rfl) (decide_eq_false (fun h => h (by rw [hn2])))) (kM [false, false, true, true, true, true, true, true, true, true, true] rfl rfl) (by decide) (v := (.bool false)) ?_
        refine rxV 41 rfl (by kernel_rfl) rfl (fun _ _ => rfl) (fun _ _ hF => opPickF rfl (hF.ev 1 rfl) (hF.ev 0 rfl)) (kM [false, false, true, true, true, true, true, true, true, true] rfl rfl) (by decide) (v := (.bool false)) ?_
        refine rxV 42 rfl (by kernel_rfl) rfl (fun _ _ => rfl) (fun _ _ hF => opMove rfl (hF.ev 0 rfl)) (kM [false, true, true, true, true, true, true, true, true] rfl rfl) (by decide) (v := (.bool false)) ?_
        refine rxV 43 rfl (by kernel_rfl) rfl (gOn 0 rfl rfl rfl (by decide)) (fun _ _ hF => opMove rfl (hF.ev 6 rfl)) (kA rfl) (by decide) (v := (.pointer (some ⟨g5, 0, none⟩))) ?_
        refine rx1 44 (by kernel_rfl) ?_
        refine moM rfl hH (fun _ hF => Does.small ((Pure.as (v := (.bool false)) (over_c g5 (vtOf g2 D'.now) A143 c145) rfl).does) (fun w => opCall rfl Try.func17 rfl rfl (Evs.cons (v := (.pointer (some ⟨g5, 0, none⟩))) (hF.ev 0 rfl) Evs.nil) w)) (hH.blk 4 rfl) rfl (gOn 1 rfl rfl rfl (by decide)) (kM [false, true, true, true, true, true, true, true, true, true] rfl rfl) (by decide) (PendOk.nil _ []) ?_
        clear hH
        rintro _ _ w ⟨rfl, rfl⟩ hH
        replace hH : HH w0 [] [E127, [bl g126 61 #[(.pointer (some ⟨(vtOf g2 D'.now).gd, 0, none⟩)), (.int .i64 ((((vtOf g2 D'.now).half) : Nat) : Int)), (.int .i64 ((((vtOf g2 D'.now).sector) : Nat) : Int)), (.int .u64 ((((vtOf g2 D'.now).number) : Nat) : Int)), (.int .u64 ((((vtOf g2 D'.now).size) : Nat) : Int)), (.int .i64 ((((vtOf g2 D'.now).area) : Nat) : Int)), (.slice A131 ((vtOf g2 D'.now).kept.length) c133), (.bool ((vtOf g2 D'.now).over))]], E134, E115, [bl g5 61 #[(.pointer (some ⟨(vtOf g2 D'.now).gd, 0, none⟩)), (.int .i64 ((((vtOf g2 D'.now).half) : Nat) : Int)), (.int .i64 ((((vtOf g2 D'.now).sector) : Nat) : Int)), (.int .u64 ((((vtOf g2 D'.now).number) : Nat) : Int)), (.int .u64 ((((vtOf g2 D'.now).size) : Nat) : Int)), (.int .i64 ((((vtOf g2 D'.now).area) : Nat) : Int)), (.slice A143 ((vtOf g2 D'.now).kept.length) c145), (.bool ((vtOf g2 D'.now).over))]], E146, E122, E137, E149] w := hH.unpad
        refine ⟨(fun _ hs => by cases hs), ?_⟩
        refine rxV 45 rfl (by kernel_rfl) rfl (fun _ _ => rfl) (fun _ _ hF => opPickF rfl (hF.ev 1 rfl) (hF.ev 0 rfl)) (kM [false, false, true, true, true, true, true, true, true, true] rfl rfl) (by decide) (v := (.bool false)) ?_
        refine rxV 46 rfl (by kernel_rfl) rfl (fun _ _ => rfl) (fun _ _ hF => opMove rfl (hF.ev 0 rfl)) (kM [false, true, true, true, true, true, true, true, true] rfl rfl) (by decide) (v := (.bool false)) ?_
        refine rxV 47 rfl (by kernel_rfl) rfl (gOn 0 rfl rfl rfl (by decide)) (fun _ _ hF => opMove rfl (hF.ev 7 rfl)) (kA rfl) (by decide) (v := (.pointer (some ⟨g2, 0, none⟩))) ?_
        refine rx1 48 (by kernel_rfl) ?_
        refine moE 0 rfl hH rfl (fun _ hF => Does.small (unsynced_c g2 D' E127 hD129 ) (fun w => opCall rfl Try.func18 rfl rfl (Evs.cons (v := (.pointer (some ⟨g2, 0, none⟩))) (hF.ev 0 rfl) Evs.nil) w)) trivial rfl (gOn 1 rfl rfl rfl (by decide)) (kM [false, true, true, true, true, true, true, true, true, true] rfl rfl) (by decide) (PendOk.nil _ []) ?_
        clear hH
        rintro _ E155 w ⟨rfl, hD156⟩ hH
        replace hH : HH w0 [] [E155, [bl g126 61 #[(.pointer (some ⟨(vtOf g2 D'.now).gd, 0, none⟩)), (.int .i64 ((((vtOf g2 D'.now).half) : Nat) : Int)), (.int .i64 ((((vtOf g2 D'.now).sector) : Nat) : Int)), (.int .u64 ((((vtOf g2 D'.now).number) : Nat) : Int)), (.int .u64 ((((vtOf g2 D'.now).size) : Nat) : Int)), (.int .i64 ((((vtOf g2 D'.now).area) : Nat) : Int)), (.slice A131 ((vtOf g2 D'.now).kept.length) c133), (.bool ((vtOf g2 D'.now).over))]], E134, E115, [bl g5 61 #[(.pointer (some ⟨(vtOf g2 D'.now).gd, 0, none⟩)), (.int .i64 ((((vtOf g2 D'.now).half) : Nat) : Int)), (.int .i64 ((((vtOf g2 D'.now).sector) : Nat) : Int)), (.int .u64 ((((vtOf g2 D'.now).number) : Nat) : Int)), (.int .u64 ((((vtOf g2 D'.now).size) : Nat) : Int)), (.int .i64 ((((vtOf g2 D'.now).area) : Nat) : Int)), (.slice A143 ((vtOf g2 D'.now).kept.length) c145), (.bool ((vtOf g2 D'.now).over))]], E146, E122, E137, E149] w := hH
        refine ⟨(fun _ hs => by cases hs), ?_⟩
        refine rxV 49 rfl (by kernel_rfl) rfl (gOn 1 rfl rfl rfl (by decide)) (fun _ _ hF => opNeI rfl (hF.ev 0 rfl) rfl (decide_eq_false (by rw [hR'.uns]; simp))) (kM [false, true, true, true, true, true, true, true, true, true] rfl rfl) (by decide) (v := (.bool false)) ?_
        refine rxV 50 rfl (by kernel_rfl) rfl (fun _ _ => rfl) (fun _ _ hF => opPickF rfl (hF.ev 1 rfl) (hF.ev 0 rfl)) (kM [false, false, true, true, true, true, true, true, true, true] rfl rfl) (by decide) (v := (.bool false)) ?_
        refine rxEnd (by kernel_rfl) ?_
        refine qxThen ?_
        refine cxF 0 rfl rfl ?_
        refine cxSkip ?_
        refine qxInN ?_
        refine qxThen ?_
        refine cxReg ?_
        refine pxV (v := (.int .i64 (((i + 1) : Nat) : Int))) (fun _ _ hF => opAdd rfl (hF.ev 3 rfl) rfl (wI (by omega) (by omega) (by omega))) rfl (fun _ _ => rfl) (kM [false, true, true, false, true, true, true, true, true] rfl rfl) (by decide) ?_
        refine pxV (v := (.int .i64 (((i + 1) : Nat) : Int))) (fun _ _ hF => opMove rfl (hF.ev 0 rfl)) rfl (fun _ _ => rfl) (kM [false, true, true, true, true, true, true, true] rfl rfl) (by decide) ?_
        refine pxEnd ?_
        obtain ⟨E157, hE158, hD159⟩ : ∃ E, E = ([[bl g5 61 #[(.pointer (some ⟨(vtOf g2 D'.now).gd, 0, none⟩)), (.int .i64 ((((vtOf g2 D'.now).half) : Nat) : Int)), (.int .i64 ((((vtOf g2 D'.now).sector) : Nat) : Int)), (.int .u64 ((((vtOf g2 D'.now).number) : Nat) : Int)), (.int .u64 ((((vtOf g2 D'.now).size) : Nat) : Int)), (.int .i64 ((((vtOf g2 D'.now).area) : Nat) : Int)), (.slice A143 ((vtOf g2 D'.now).kept.length) c145), (.bool ((vtOf g2 D'.now).over))]], E146] : List Hl).flatten ∧ VtAt g5 (vtOf g2 D'.now) E := ⟨_, rfl, hV103.ok, _, _, _, _, rfl, hO147⟩
        replace hH : HH w0 [] [E155, [bl g126 61 #[(.pointer (some ⟨(vtOf g2 D'.now).gd, 0, none⟩)), (.int .i64 ((((vtOf g2 D'.now).half) : Nat) : Int)), (.int .i64 ((((vtOf g2 D'.now).sector) : Nat) : Int)), (.int .u64 ((((vtOf g2 D'.now).number) : Nat) : Int)), (.int .u64 ((((vtOf g2 D'.now).size) : Nat) : Int)), (.int .i64 ((((vtOf g2 D'.now).area) : Nat) : Int)), (.slice A131 ((vtOf g2 D'.now).kept.length) c133), (.bool ((vtOf g2 D'.now).over))]], E134, E115, E157, E122, E137, E149] w := hH.cast (by rw [hE158]; simp)
        replace hH : HH w0 [] [E155, E157] w := hH.only [true, false, false, false, true, false, false, false]
        exact qxRound (i + 1, D', E155, E157, bytes, A0, c0, n + 1) ⟨hH, (show (i + 1) ≤ raws.length from (by omega)), hD156, hD159, hR', (hl2), hf', hvb, hk1, hn2, (show (n + 1) ≤ (i + 1) from (by omega))⟩ (by omega) (slots_at [0, 3, 1, 2, 4, 5, 6, 7] rfl)
    · refine cxExit ?_
      refine qxThenE ?_
      refine qxThenE ?_
      refine qxInE ?_
      refine qxThen ?_
      refine cxSeq ?_
      refine cxReg ?_
      refine pxV (v := (.bool true)) (fun _ _ hF => opAssign rfl rfl) rfl (fun _ _ => rfl) (kM [false, false, false, false, false, false, false, false, false] rfl rfl) (by decide) ?_
      refine pxEnd ?_
      refine qxThen ?_
      refine cxRet ?_
      refine qxRet1 0 rfl rfl ?_
      exact ⟨rfl, HH.toBelow hH⟩
end Go.Proofs.Ytglplhbhpaegeaa
