/- The program's Decode. -/
import Derived.Test.YtadbpmcmdcnlfaaDoorArY
import Derived.Test.YtadbpmcmdcnlfaaDoorArS
namespace Go.Proofs.YtadbpmcmdcnlfaaDoor
open Go Go.RowKit
set_option maxRecDepth 100000

/-- What Decode answers. -/
def DecPost (r : DcR) (v : Value) (E' : Hl) : Prop := ∃ A c, v = .tuple #[.string (strL (dK r)), .slice A (dB r).length c, .int .i64 ((dE r : Nat) : Int)] ∧ OwnT cByte 5 (.slice A (dB r).length c) (dB r) E'
theorem dec_none {r : DcR} (h : r = none) : DecPost r (.tuple #[.string (strL []), .slice none 0 0, .int .i64 2]) [] := by subst h; exact ⟨none, 0, rfl, OwnT.nil _ _⟩
theorem dec_long {r : DcR} {k b : List UInt8} (h : r = some (k, b)) (hb : b.length > 20000) : DecPost r (.tuple #[.string (strL []), .slice none 0 0, .int .i64 6]) [] := by
  subst h
  have e1 : dK (some (k, b)) = [] := if_pos hb
  have e2 : dB (some (k, b)) = [] := if_pos hb
  have e3 : dE (some (k, b)) = 6 := if_pos hb
  refine ⟨none, 0, ?_, ?_⟩
  · rw [e1, e2, e3]; rfl
  · rw [e2]; exact OwnT.nil _ _
theorem dec_ok {r : DcR} {k b : List UInt8} {A : Option Addr} {c : Nat} {F : Hl} (h : r = some (k, b)) (hb : ¬ b.length > 20000) (hO : OwnT cByte 5 (.slice A b.length c) b F) : DecPost r (.tuple #[.string (strL k), .slice A b.length c, .int .i64 0]) F := by
  subst h
  have e1 : dK (some (k, b)) = k := if_neg hb
  have e2 : dB (some (k, b)) = b := if_neg hb
  have e3 : dE (some (k, b)) = 0 := if_neg hb
  refine ⟨A, c, ?_, ?_⟩
  · rw [e1, e2, e3]; rfl
  · rw [e2]; exact hO
theorem maxl_pos {w : World} (h : MaxL w) : 0 < w.heap.size := by
  obtain ⟨x, hx⟩ := h
  exact Nat.lt_of_le_of_lt (Nat.zero_le _) (block_lt_of_cell hx)
theorem g_pos {w0 w : World} {Hs : List Hl} {g : Nat} {o : Obj} (hH : HH w0 [] Hs w) (hm : MaxL w0) (i : Nat) (hi : Hs[i]? = some [(g, o)]) : 0 < g := by
  have := hH.fresh i hi (maxl_pos hm)
  simp at this
  omega

theorem kindF_len (f : List UInt8) : (kindF f).length ≤ 16 := by
  unfold kindF
  split
  · decide
  · split
    · decide
    · split <;> decide

set_option maxHeartbeats 8000000 in
theorem decode_c (s : List UInt8) (hs : s.length ≤ 4294967280) : Does Tryd.prog 10 #[(.string (strL s))] [] (MaxL) (fun v E' => DecPost (accP (lns s)) v E') := by
  refine does_of (fn := Tryd.f10) Tryd.func10 rfl Tryd.ntmps10 (Nat.le_of_ble_eq_true rfl) rfl ?_
  intro w0 hH hR
  replace hH : HH w0 [] [] w0 := hH.only [false]
  refine cxSeq ?_
  refine cxReg ?_
  refine pxV (v := (.string (strL ([])))) (fun _ _ hF => opAssign rfl rfl) rfl (fun _ _ => rfl) (kA rfl) (by decide) ?_
  refine pxV (v := (.slice none 0 0)) (fun _ _ hF => opAssign rfl rfl) rfl (fun _ _ => rfl) (kM [false, true] rfl rfl) (by decide) ?_
  refine pxV (v := (.int .i64 0)) (fun _ _ hF => opAssign rfl rfl) rfl (fun _ _ => rfl) (kM [false, true] rfl rfl) (by decide) ?_
  refine pxEnd ?_
  refine qxThen ?_
  refine cxSeq ?_
  refine cxReg ?_
  refine pxV (v := (.string (strL s))) (fun _ _ hF => opMove rfl (hF.ev 1 rfl)) rfl (fun _ _ => rfl) (kM [false, false] rfl rfl) (by decide) ?_
  refine pxV (v := (.agg #[(.string (strL s))])) (fun _ _ hF => opBuildP (cells := #[(.string (strL s))]) rfl (EvP.cons (v := (.string (strL s))) (hF.ev 0 rfl) EvP.nil) rfl _) rfl (fun _ _ => rfl) (kM [false] rfl rfl) (by decide) ?_
  refine pxM hH (fun _ hF => smAlloc (z := (.agg #[(.string (strL ([])))])) rfl (by kernel_rfl) rfl) trivial rfl (fun _ _ => rfl) (kA rfl) (by decide) ?_
  clear hH
  rintro _ _ w ⟨g1, rfl, rfl⟩ hH
  replace hH : HH w0 [] [[bl g1 56 #[(.string (strL ([])))]]] w := hH
  refine pxE0 0 hH rfl (fun _ hF => smStoreK (k := 1) rfl (hF.ev 0 rfl) (hF.ev 1 rfl) rfl (by kernel_rfl) (leb rfl) rfl rfl) trivial rfl (fun _ _ => rfl) ?_
  clear hH
  rintro _ _ w rfl hH
  replace hH : HH w0 [] [[bl g1 56 #[(.string (strL s))]]] w := hH
  refine pxEnd ?_
  refine qxThen ?_
  refine cxSeq ?_
  refine cxReg ?_
  refine pxE 0 hH rfl (fun _ hF => Does.small (line_c g1 s (by omega)) (fun w => opCall rfl Tryd.func27 rfl rfl (Evs.cons (v := (.pointer (some ⟨g1, 0, none⟩))) (hF.ev 0 rfl) Evs.nil) w)) trivial rfl (fun _ _ => rfl) (kM [true, false] rfl rfl) (by decide) ?_
  clear hH
  rintro _ _ w ⟨rfl, rfl⟩ hH
  replace hH : HH w0 [] [[bl g1 56 #[(.string (strL (rdR s)))]]] w := hH
  refine pxM hH (fun _ hF => Does.small ((kind_c (rdL s)).does) (fun w => opCall rfl Tryd.func17 rfl rfl (Evs.cons (v := (.string (strL (rdL s)))) (hF.ev 0 rfl) Evs.nil) w)) trivial rfl (fun _ _ => rfl) (kM [false, true] rfl rfl) (by decide) ?_
  clear hH
  rintro _ _ w ⟨rfl, rfl⟩ hH
  replace hH : HH w0 [] [[bl g1 56 #[(.string (strL (rdR s)))]]] w := hH.unpad
  refine pxV (v := (.string (strL (kindF (rdL s))))) (fun _ _ hF => opAssign rfl (hF.ev 0 rfl)) rfl (fun _ _ => rfl) (kM [false, true] rfl rfl) (by decide) ?_
  refine pxEnd ?_
  refine qxThen ?_
  refine cxSeq ?_
  refine cxSeq ?_
  refine cxReg ?_
  refine pxV (v := (.string (strL (kindF (rdL s))))) (fun _ _ hF => opMove rfl (hF.ev 0 rfl)) rfl (fun _ _ => rfl) (kA rfl) (by decide) ?_
  refine pxV (v := (.bool (decide ((kindF (rdL s)) = [])))) (fun _ _ hF => opEqL (l := (kindF (rdL s))) (m := []) rfl (hF.ev 0 rfl) rfl Iff.rfl) rfl (fun _ _ => rfl) (kM [false, true, true] rfl rfl) (by decide) ?_
  refine pxV (v := (.bool (decide ((kindF (rdL s)) = [])))) (fun _ _ hF => opMove rfl (hF.ev 0 rfl)) rfl (fun _ _ => rfl) (kM [false, true, true] rfl rfl) (by decide) ?_
  refine pxSplitP 0 rfl (l1 := [(16, (.bool true)), (6, (.string (strL (kindF (rdL s))))), (5, (.pointer (some ⟨g1, 0, none⟩)))]) (l2 := [(16, (.bool false)), (6, (.string (strL (kindF (rdL s))))), (5, (.pointer (some ⟨g1, 0, none⟩)))]) rfl rfl (fun hg2 => ?_) (fun hg2 => ?_)
  · refine pxU rfl (gOff 0 rfl rfl rfl (by decide)) (kA rfl) (by decide) ?_
    refine pxU rfl (gOff 0 rfl rfl rfl (by decide)) (kA rfl) (by decide) ?_
    refine pxV (v := (.bool true)) (fun _ _ hF => opPickT rfl (hF.ev 0 rfl) rfl) rfl (fun _ _ => rfl) (kM [false, true, true] rfl rfl) (by decide) ?_
    refine pxEnd ?_
    refine qxThen ?_
    refine cxT 0 rfl rfl ?_
    refine cxSeq ?_
    refine cxReg ?_
    refine pxV (v := (.string (strL ([])))) (fun _ _ hF => opAssign rfl rfl) rfl (fun _ _ => rfl) (kM [false, false, false] rfl rfl) (by decide) ?_
    refine pxV (v := (.slice none 0 0)) (fun _ _ hF => opAssign rfl rfl) rfl (fun _ _ => rfl) (kA rfl) (by decide) ?_
    refine pxV (v := (.int .i64 2)) (fun _ _ hF => opAssign rfl rfl) rfl (fun _ _ => rfl) (kA rfl) (by decide) ?_
    refine pxEnd ?_
    refine qxThen ?_
    refine cxRet ?_
    refine qxThenR ?_
    refine qxRet3 2 1 0 rfl rfl rfl rfl ?_
    exact ⟨_, _, rfl, dec_none (acc_1 hg2), hH.out [false]⟩
  · have hg0 := g_pos hH hR 0 rfl
    have hrl := rdR_le s
    refine pxE 0 hH rfl (fun _ hF => Does.small (toempty_c g1 hg0 (rdR s) (by omega)) (fun w => opCall rfl Tryd.func28 rfl rfl (Evs.cons (v := (.pointer (some ⟨g1, 0, none⟩))) (hF.ev 2 rfl) Evs.nil) w)) (hmaxl hH hR) rfl (gOn 0 rfl rfl rfl (by decide)) (kA rfl) (by decide) ?_
    clear hH
    rintro _ _ w ⟨ok, s2, rfl, rfl, hl2, hte0, hte1⟩ hH
    replace hH : HH w0 [] [[bl g1 56 #[(.string (strL s2))]]] w := hH
    refine pxV (v := (.bool (!(ok)))) (fun _ _ hF => opNot rfl (hF.ev 0 rfl) rfl) rfl (gOn 1 rfl rfl rfl (by decide)) (kM [false, true, true, true] rfl rfl) (by decide) ?_
    refine pxV (v := (.bool (!(ok)))) (fun _ _ hF => opPickF rfl (hF.ev 1 rfl) (hF.ev 0 rfl)) rfl (fun _ _ => rfl) (kM [false, false, true, true] rfl rfl) (by decide) ?_
    refine pxEnd ?_
    refine qxThen ?_
    refine cxB 0 rfl rfl (fun hc3 => ?_) (fun hc3 => ?_)
    · replace hc3 : ok = false := by simpa using hc3
      refine cxSeq ?_
      refine cxReg ?_
      refine pxV (v := (.string (strL ([])))) (fun _ _ hF => opAssign rfl rfl) rfl (fun _ _ => rfl) (kM [false, false, false] rfl rfl) (by decide) ?_
      refine pxV (v := (.slice none 0 0)) (fun _ _ hF => opAssign rfl rfl) rfl (fun _ _ => rfl) (kA rfl) (by decide) ?_
      refine pxV (v := (.int .i64 2)) (fun _ _ hF => opAssign rfl rfl) rfl (fun _ _ => rfl) (kA rfl) (by decide) ?_
      refine pxEnd ?_
      refine qxThen ?_
      refine cxRet ?_
      refine qxThenR ?_
      refine qxRet3 2 1 0 rfl rfl rfl rfl ?_
      exact ⟨_, _, rfl, dec_none (acc_2 hg2 (hte0 (by have := hc3; simpa using this))), hH.out [false]⟩
    · replace hc3 : ok = true := by simpa using hc3
      refine cxSkip ?_
      refine qxThen ?_
      refine cxSeq ?_
      refine cxReg ?_
      obtain ⟨r, hr⟩ : ∃ r, bdL [] (lns s2) = r := ⟨_, rfl⟩
      refine pxE 0 hH rfl (fun _ hF => Does.small (body_c g1 s2 (by omega)) (fun w => opCall rfl Tryd.func29 rfl rfl (Evs.cons (v := (.pointer (some ⟨g1, 0, none⟩))) (hF.ev 2 rfl) Evs.nil) w)) trivial rfl (fun _ _ => rfl) (kM [false, true, true] rfl rfl) (by decide) ?_
      clear hH
      rintro _ Eb w hbd hH
      replace hH : HH w0 [] [Eb] w := hH
      rw [hr] at hbd
      obtain ⟨s3, Ab, cb, Fb, rfl, hEb, hOb, hl3, hl4, hl5, hL⟩ := hbd
      replace hH : HH w0 [] [[bl g1 56 #[(.string (strL s3))]], Fb] w := hH.cast (by rw [hEb]; simp)
      refine pxV (v := (.tuple #[(.slice Ab ((bA r).length) cb), (.string (strL (bl' r))), (.bool ((bok r)))])) (fun _ _ hF => opMove rfl (hF.ev 0 rfl)) rfl (fun _ _ => rfl) (kM [false, true, true] rfl rfl) (by decide) ?_
      refine pxV (v := (.slice Ab ((bA r).length) cb)) (fun _ _ hF => opExtract rfl (hF.ev 0 rfl) rfl) rfl (fun _ _ => rfl) (kA rfl) (by decide) ?_
      refine pxV (v := (.string (strL (bl' r)))) (fun _ _ hF => opExtract rfl (hF.ev 1 rfl) rfl) rfl (fun _ _ => rfl) (kA rfl) (by decide) ?_
      refine pxV (v := (.bool ((bok r)))) (fun _ _ hF => opExtract rfl (hF.ev 2 rfl) rfl) rfl (fun _ _ => rfl) (kM [true, true, false, true, true] rfl rfl) (by decide) ?_
      refine pxV (v := (.slice Ab ((bA r).length) cb)) (fun _ _ hF => opAssign rfl (hF.ev 2 rfl)) rfl (fun _ _ => rfl) (kM [true, true, false, true, true] rfl rfl) (by decide) ?_
      refine pxV (v := (.string (strL (bl' r)))) (fun _ _ hF => opAssign rfl (hF.ev 2 rfl)) rfl (fun _ _ => rfl) (kM [true, true, false, true, true] rfl rfl) (by decide) ?_
      refine pxV (v := (.bool ((bok r)))) (fun _ _ hF => opAssign rfl (hF.ev 2 rfl)) rfl (fun _ _ => rfl) (kM [true, true, false, true, true] rfl rfl) (by decide) ?_
      refine pxEnd ?_
      refine qxThen ?_
      refine cxSeq ?_
      refine cxSeq ?_
      skip
      rcases hb : bok r with _ | _
      · refine cxReg ?_
        refine pxV (v := (.bool false)) (fun _ _ hF => opMove rfl (hF.ev 0 rfl)) rfl (fun _ _ => rfl) (kA rfl) (by decide) ?_
        refine pxV (v := (.bool false)) (fun _ _ hF => opMove rfl (hF.ev 0 rfl)) rfl (fun _ _ => rfl) (kM [false, true, true, true, true, true] rfl rfl) (by decide) ?_
        refine pxU rfl (gOff 0 rfl rfl rfl (by decide)) (kA rfl) (by decide) ?_
        refine pxU rfl (gOff 0 rfl rfl rfl (by decide)) (kA rfl) (by decide) ?_
        refine pxV (v := (.bool false)) (fun _ _ hF => opPickF rfl (hF.ev 0 rfl) rfl) rfl (fun _ _ => rfl) (kM [false, true, true, true, true, true] rfl rfl) (by decide) ?_
        refine pxEnd ?_
        refine qxThen ?_
        refine cxF 0 rfl rfl ?_
        refine cxSkip ?_
        refine qxThen ?_
        refine cxSeq ?_
        refine cxSeq ?_
        refine cxReg ?_
        refine pxV (v := (.bool false)) (fun _ _ hF => opMove rfl (hF.ev 1 rfl)) rfl (fun _ _ => rfl) (kM [false, false, true, true, true, true] rfl rfl) (by decide) ?_
        refine pxV (v := (.bool true)) (fun _ _ hF => opNot rfl (hF.ev 0 rfl) rfl) rfl (fun _ _ => rfl) (kM [false, true, true, true, true] rfl rfl) (by decide) ?_
        refine pxV (v := (.bool true)) (fun _ _ hF => opMove rfl (hF.ev 0 rfl)) rfl (fun _ _ => rfl) (kM [false, true, true, true, true] rfl rfl) (by decide) ?_
        refine pxU rfl (gOff 0 rfl rfl rfl (by decide)) (kM [true, false, true, true, true] rfl rfl) (by decide) ?_
        refine pxU rfl (gOff 0 rfl rfl rfl (by decide)) (kA rfl) (by decide) ?_
        refine pxU rfl (gOff 0 rfl rfl rfl (by decide)) (kA rfl) (by decide) ?_
        refine pxU rfl (gOff 0 rfl rfl rfl (by decide)) (kA rfl) (by decide) ?_
        refine pxU rfl (gOff 0 rfl rfl rfl (by decide)) (kA rfl) (by decide) ?_
        refine pxV (v := (.bool true)) (fun _ _ hF => opPickT rfl (hF.ev 0 rfl) rfl) rfl (fun _ _ => rfl) (kM [false, true, true, true] rfl rfl) (by decide) ?_
        refine pxV (v := (.bool true)) (fun _ _ hF => opMove rfl (hF.ev 0 rfl)) rfl (fun _ _ => rfl) (kM [false, true, true, true] rfl rfl) (by decide) ?_
        refine pxU rfl (gOff 0 rfl rfl rfl (by decide)) (kM [true, true, true, false] rfl rfl) (by decide) ?_
        refine pxU rfl (gOff 0 rfl rfl rfl (by decide)) (kA rfl) (by decide) ?_
        refine pxU rfl (gOff 0 rfl rfl rfl (by decide)) (kA rfl) (by decide) ?_
        refine pxV (v := (.bool true)) (fun _ _ hF => opPickT rfl (hF.ev 0 rfl) rfl) rfl (fun _ _ => rfl) (kM [false, true, true] rfl rfl) (by decide) ?_
        refine pxEnd ?_
        refine qxThen ?_
        refine cxT 0 rfl rfl ?_
        refine cxSeq ?_
        refine cxReg ?_
        refine pxV (v := (.string (strL ([])))) (fun _ _ hF => opAssign rfl rfl) rfl (fun _ _ => rfl) (kM [false, false, false] rfl rfl) (by decide) ?_
        refine pxV (v := (.slice none 0 0)) (fun _ _ hF => opAssign rfl rfl) rfl (fun _ _ => rfl) (kA rfl) (by decide) ?_
        refine pxV (v := (.int .i64 2)) (fun _ _ hF => opAssign rfl rfl) rfl (fun _ _ => rfl) (kA rfl) (by decide) ?_
        refine pxEnd ?_
        refine qxThen ?_
        refine cxRet ?_
        refine qxThenR ?_
        refine qxRet3 2 1 0 rfl rfl rfl rfl ?_
        have hac := acc_3 hg2 (hte1 (by have := hc3; simpa using this))
        rw [hr] at hac
        exact ⟨_, _, rfl, dec_none ((by rw [hac, if_neg (by rw [hb]; simp)])), hH.out [false, false]⟩
      · refine cxReg ?_
        refine pxV (v := (.bool true)) (fun _ _ hF => opMove rfl (hF.ev 0 rfl)) rfl (fun _ _ => rfl) (kA rfl) (by decide) ?_
        refine pxV (v := (.bool true)) (fun _ _ hF => opMove rfl (hF.ev 0 rfl)) rfl (fun _ _ => rfl) (kM [false, true, true, true, true, true] rfl rfl) (by decide) ?_
        refine pxV (v := (.string (strL (bl' r)))) (fun _ _ hF => opMove rfl (hF.ev 2 rfl)) rfl (gOn 0 rfl rfl rfl (by decide)) (kA rfl) (by decide) ?_
        refine pxM hH (fun _ hF => Does.small ((has_prefix_c (bl' r) 61).does) (fun w => opCall rfl Tryd.func30 rfl rfl (Evs.cons (v := (.string (strL (bl' r)))) (hF.ev 0 rfl) (Evs.cons (v := (.string (strL ([61])))) rfl Evs.nil)) w)) trivial rfl (gOn 1 rfl rfl rfl (by decide)) (kM [false, true, true, true, true, true, true] rfl rfl) (by decide) ?_
        clear hH
        rintro _ _ w ⟨rfl, rfl⟩ hH
        replace hH : HH w0 [] [[bl g1 56 #[(.string (strL s3))]], Fb] w := hH.unpad
        refine pxV (v := (.bool (decide ((bl' r).head? = some 61)))) (fun _ _ hF => opPickT rfl (hF.ev 1 rfl) (hF.ev 0 rfl)) rfl (fun _ _ => rfl) (kM [false, false, true, true, true, true, true] rfl rfl) (by decide) ?_
        refine pxEnd ?_
        refine qxThen ?_
        refine cxP 0 rfl rfl (fun hc4 => ?_) (fun hc4 => ?_)
        · have hrl2 := rdR_le s3
          refine cxSeq ?_
          refine cxReg ?_
          refine pxV (v := (.string (strL (bl' r)))) (fun _ _ hF => opMove rfl (hF.ev 2 rfl)) rfl (fun _ _ => rfl) (kM [false, false, false, true, true, true] rfl rfl) (by decide) ?_
          refine pxV (v := (.slice Ab ((bA r).length) cb)) (fun _ _ hF => opMove rfl (hF.ev 1 rfl)) rfl (fun _ _ => rfl) (kA rfl) (by decide) ?_
          refine pxM hH (fun _ hF => Does.small ((sumline_c (bA r) Ab cb (by omega)).does) (fun w => opCall rfl Tryd.func23 rfl rfl (Evs.cons (v := (.slice Ab ((bA r).length) cb)) (hF.ev 0 rfl) Evs.nil) w)) (hOb.vuAt (hH.has 1 rfl)) rfl (fun _ _ => rfl) (kM [false, true, true, true, true] rfl rfl) (by decide) ?_
          clear hH
          rintro _ _ w ⟨rfl, rfl⟩ hH
          replace hH : HH w0 [] [[bl g1 56 #[(.string (strL s3))]], Fb] w := hH.unpad
          refine pxV (v := (.bool (decide ((bl' r) = (sumL (bA r)))))) (fun _ _ hF => opEqL (l := (bl' r)) (m := (sumL (bA r))) rfl (hF.ev 1 rfl) (hF.ev 0 rfl) Iff.rfl) rfl (fun _ _ => rfl) (kM [false, false, true, true, true] rfl rfl) (by decide) ?_
          refine pxV (v := (.bool (decide ((bl' r) = (sumL (bA r)))))) (fun _ _ hF => opAssign rfl (hF.ev 0 rfl)) rfl (fun _ _ => rfl) (kM [false, true, true, true] rfl rfl) (by decide) ?_
          refine pxEnd ?_
          refine qxThen ?_
          refine cxReg ?_
          refine pxE 0 hH rfl (fun _ hF => Does.small (line_c g1 s3 (by omega)) (fun w => opCall rfl Tryd.func27 rfl rfl (Evs.cons (v := (.pointer (some ⟨g1, 0, none⟩))) (hF.ev 3 rfl) Evs.nil) w)) trivial rfl (fun _ _ => rfl) (kA rfl) (by decide) ?_
          clear hH
          rintro _ _ w ⟨rfl, rfl⟩ hH
          replace hH : HH w0 [] [[bl g1 56 #[(.string (strL (rdR s3)))]], Fb] w := hH
          refine pxV (v := (.string (strL (rdL s3)))) (fun _ _ hF => opAssign rfl (hF.ev 0 rfl)) rfl (fun _ _ => rfl) (kM [false, true, true, true, true] rfl rfl) (by decide) ?_
          refine pxEnd ?_
          refine qxThen ?_
          refine cxSeq ?_
          refine cxSeq ?_
          refine cxReg ?_
          refine pxV (v := (.bool (decide ((bl' r) = (sumL (bA r)))))) (fun _ _ hF => opMove rfl (hF.ev 1 rfl)) rfl (fun _ _ => rfl) (kM [true, false, true, true, true] rfl rfl) (by decide) ?_
          refine pxV (v := (.bool (decide (¬ ((bl' r) = (sumL (bA r))))))) (fun _ _ hF => opNot rfl (hF.ev 0 rfl) decide_not.symm) rfl (fun _ _ => rfl) (kM [false, true, true, true, true] rfl rfl) (by decide) ?_
          refine pxV (v := (.bool (decide (¬ ((bl' r) = (sumL (bA r))))))) (fun _ _ hF => opMove rfl (hF.ev 0 rfl)) rfl (fun _ _ => rfl) (kM [false, true, true, true, true] rfl rfl) (by decide) ?_
          refine pxSplitP 0 rfl (l1 := [(37, (.bool true)), (8, (.string (strL (rdL s3)))), (7, (.slice Ab ((bA r).length) cb)), (6, (.string (strL (kindF (rdL s))))), (5, (.pointer (some ⟨g1, 0, none⟩)))]) (l2 := [(37, (.bool false)), (8, (.string (strL (rdL s3)))), (7, (.slice Ab ((bA r).length) cb)), (6, (.string (strL (kindF (rdL s))))), (5, (.pointer (some ⟨g1, 0, none⟩)))]) rfl rfl (fun hg5 => ?_) (fun hg5 => ?_)
          · refine pxU rfl (gOff 0 rfl rfl rfl (by decide)) (kM [true, false, true, true, true] rfl rfl) (by decide) ?_
            refine pxU rfl (gOff 0 rfl rfl rfl (by decide)) (kA rfl) (by decide) ?_
            refine pxU rfl (gOff 0 rfl rfl rfl (by decide)) (kA rfl) (by decide) ?_
            refine pxU rfl (gOff 0 rfl rfl rfl (by decide)) (kA rfl) (by decide) ?_
            refine pxU rfl (gOff 0 rfl rfl rfl (by decide)) (kA rfl) (by decide) ?_
            refine pxV (v := (.bool true)) (fun _ _ hF => opPickT rfl (hF.ev 0 rfl) rfl) rfl (fun _ _ => rfl) (kM [false, true, true, true] rfl rfl) (by decide) ?_
            refine pxV (v := (.bool true)) (fun _ _ hF => opMove rfl (hF.ev 0 rfl)) rfl (fun _ _ => rfl) (kM [false, true, true, true] rfl rfl) (by decide) ?_
            refine pxU rfl (gOff 0 rfl rfl rfl (by decide)) (kM [true, true, true, false] rfl rfl) (by decide) ?_
            refine pxU rfl (gOff 0 rfl rfl rfl (by decide)) (kA rfl) (by decide) ?_
            refine pxU rfl (gOff 0 rfl rfl rfl (by decide)) (kA rfl) (by decide) ?_
            refine pxV (v := (.bool true)) (fun _ _ hF => opPickT rfl (hF.ev 0 rfl) rfl) rfl (fun _ _ => rfl) (kM [false, true, true] rfl rfl) (by decide) ?_
            refine pxEnd ?_
            refine qxThen ?_
            refine cxT 0 rfl rfl ?_
            refine cxSeq ?_
            refine cxReg ?_
            refine pxV (v := (.string (strL ([])))) (fun _ _ hF => opAssign rfl rfl) rfl (fun _ _ => rfl) (kM [false, false, false] rfl rfl) (by decide) ?_
            refine pxV (v := (.slice none 0 0)) (fun _ _ hF => opAssign rfl rfl) rfl (fun _ _ => rfl) (kA rfl) (by decide) ?_
            refine pxV (v := (.int .i64 2)) (fun _ _ hF => opAssign rfl rfl) rfl (fun _ _ => rfl) (kA rfl) (by decide) ?_
            refine pxEnd ?_
            refine qxThen ?_
            refine cxRet ?_
            refine qxThenR ?_
            refine qxRet3 2 1 0 rfl rfl rfl rfl ?_
            have hac := acc_3 hg2 (hte1 (by have := hc3; simpa using this))
            rw [hr] at hac
            rw [if_pos hb] at hac
            rw [endP_sum (hL hb) hc4] at hac
            rw [if_neg fun h => hg5 h.1] at hac
            exact ⟨_, _, rfl, dec_none (hac), hH.out [false, false]⟩
          · refine pxV (v := (.string (strL (rdL s3)))) (fun _ _ hF => opMove rfl (hF.ev 1 rfl)) rfl (gOn 0 rfl rfl rfl (by decide)) (kM [true, false, true, true, true] rfl rfl) (by decide) ?_
            refine pxV (v := (.string (strL (kindF (rdL s))))) (fun _ _ hF => opMove rfl (hF.ev 3 rfl)) rfl (gOn 1 rfl rfl rfl (by decide)) (kA rfl) (by decide) ?_
            refine pxV (v := (.string (strL (endL ++ (kindF (rdL s)))))) (fun _ _ hF => opAddL (l := endL) (m := (kindF (rdL s))) (r := (endL ++ (kindF (rdL s)))) rfl rfl (hF.ev 0 rfl) (by have hk := kindF_len (rdL s); simp only [endL, List.length_cons, List.length_nil]; omega) (rfl)) rfl (gOn 2 rfl rfl rfl (by decide)) (kM [false, true, true, true, true, true] rfl rfl) (by decide) ?_
            refine pxV (v := (.string (strL ((endL ++ (kindF (rdL s))) ++ dasL)))) (fun _ _ hF => opAddL (l := (endL ++ (kindF (rdL s)))) (m := dasL) (r := ((endL ++ (kindF (rdL s))) ++ dasL)) rfl (hF.ev 0 rfl) rfl (by have hk := kindF_len (rdL s); simp only [endL, dasL, List.length_append, List.length_cons, List.length_nil]; omega) (rfl)) rfl (gOn 2 rfl rfl rfl (by decide)) (kM [false, true, true, true, true, true] rfl rfl) (by decide) ?_
            refine pxV (v := (.bool (decide ((rdL s3) ≠ ((endL ++ (kindF (rdL s))) ++ dasL))))) (fun _ _ hF => opNeL (l := (rdL s3)) (m := ((endL ++ (kindF (rdL s))) ++ dasL)) rfl (hF.ev 1 rfl) (hF.ev 0 rfl) Iff.rfl) rfl (gOn 2 rfl rfl rfl (by decide)) (kM [false, false, true, true, true, true] rfl rfl) (by decide) ?_
            refine pxV (v := (.bool (decide ((rdL s3) ≠ ((endL ++ (kindF (rdL s))) ++ dasL))))) (fun _ _ hF => opPickF rfl (hF.ev 1 rfl) (hF.ev 0 rfl)) rfl (fun _ _ => rfl) (kM [false, false, true, true, true] rfl rfl) (by decide) ?_
            refine pxV (v := (.bool (decide ((rdL s3) ≠ ((endL ++ (kindF (rdL s))) ++ dasL))))) (fun _ _ hF => opMove rfl (hF.ev 0 rfl)) rfl (fun _ _ => rfl) (kM [false, true, true, true] rfl rfl) (by decide) ?_
            refine pxSplitP 0 rfl (l1 := [(44, (.bool true)), (7, (.slice Ab ((bA r).length) cb)), (6, (.string (strL (kindF (rdL s))))), (5, (.pointer (some ⟨g1, 0, none⟩)))]) (l2 := [(44, (.bool false)), (7, (.slice Ab ((bA r).length) cb)), (6, (.string (strL (kindF (rdL s))))), (5, (.pointer (some ⟨g1, 0, none⟩)))]) rfl rfl (fun hg6 => ?_) (fun hg6 => ?_)
            · refine pxU rfl (gOff 0 rfl rfl rfl (by decide)) (kM [true, true, true, false] rfl rfl) (by decide) ?_
              refine pxU rfl (gOff 0 rfl rfl rfl (by decide)) (kA rfl) (by decide) ?_
              refine pxU rfl (gOff 0 rfl rfl rfl (by decide)) (kA rfl) (by decide) ?_
              refine pxV (v := (.bool true)) (fun _ _ hF => opPickT rfl (hF.ev 0 rfl) rfl) rfl (fun _ _ => rfl) (kM [false, true, true] rfl rfl) (by decide) ?_
              refine pxEnd ?_
              refine qxThen ?_
              refine cxT 0 rfl rfl ?_
              refine cxSeq ?_
              refine cxReg ?_
              refine pxV (v := (.string (strL ([])))) (fun _ _ hF => opAssign rfl rfl) rfl (fun _ _ => rfl) (kM [false, false, false] rfl rfl) (by decide) ?_
              refine pxV (v := (.slice none 0 0)) (fun _ _ hF => opAssign rfl rfl) rfl (fun _ _ => rfl) (kA rfl) (by decide) ?_
              refine pxV (v := (.int .i64 2)) (fun _ _ hF => opAssign rfl rfl) rfl (fun _ _ => rfl) (kA rfl) (by decide) ?_
              refine pxEnd ?_
              refine qxThen ?_
              refine cxRet ?_
              refine qxThenR ?_
              refine qxRet3 2 1 0 rfl rfl rfl rfl ?_
              have hac := acc_3 hg2 (hte1 (by have := hc3; simpa using this))
              rw [hr] at hac
              rw [if_pos hb] at hac
              rw [endP_sum (hL hb) hc4] at hac
              rw [if_neg fun h => hg6 h.2.1] at hac
              exact ⟨_, _, rfl, dec_none (hac), hH.out [false, false]⟩
            · refine pxV (v := (.pointer (some ⟨g1, 0, none⟩))) (fun _ _ hF => opField (off := 0) rfl (hF.ev 3 rfl) (by kernel_rfl)) rfl (gOn 0 rfl rfl rfl (by decide)) (kM [true, true, true, false] rfl rfl) (by decide) ?_
              refine pxS (v := (.string (strL (rdR s3)))) (fun w => w.heap[g1]? = some (.cells #[(.string (strL (rdR s3)))] 56 (0, 0))) (hH.blk 0 rfl) (fun _ _ hF hS => opLoadK hS rfl (hF.ev 0 rfl) (by kernel_rfl) rfl) rfl (gOn 1 rfl rfl rfl (by decide)) (kM [false, true, true, true] rfl rfl) (by decide) ?_
              refine pxV (v := (.bool (decide ((rdR s3) ≠ [])))) (fun _ _ hF => opNeL (l := (rdR s3)) (m := []) rfl (hF.ev 0 rfl) rfl Iff.rfl) rfl (gOn 1 rfl rfl rfl (by decide)) (kM [false, true, true, true] rfl rfl) (by decide) ?_
              refine pxV (v := (.bool (decide ((rdR s3) ≠ [])))) (fun _ _ hF => opPickF rfl (hF.ev 1 rfl) (hF.ev 0 rfl)) rfl (fun _ _ => rfl) (kM [false, false, true, true] rfl rfl) (by decide) ?_
              refine pxEnd ?_
              refine qxThen ?_
              refine cxP 0 rfl rfl (fun hc7 => ?_) (fun hc7 => ?_)
              · refine cxSeq ?_
                refine cxReg ?_
                refine pxV (v := (.string (strL ([])))) (fun _ _ hF => opAssign rfl rfl) rfl (fun _ _ => rfl) (kM [false, false, false] rfl rfl) (by decide) ?_
                refine pxV (v := (.slice none 0 0)) (fun _ _ hF => opAssign rfl rfl) rfl (fun _ _ => rfl) (kA rfl) (by decide) ?_
                refine pxV (v := (.int .i64 2)) (fun _ _ hF => opAssign rfl rfl) rfl (fun _ _ => rfl) (kA rfl) (by decide) ?_
                refine pxEnd ?_
                refine qxThen ?_
                refine cxRet ?_
                refine qxThenR ?_
                refine qxRet3 2 1 0 rfl rfl rfl rfl ?_
                have hac := acc_3 hg2 (hte1 (by have := hc3; simpa using this))
                rw [hr] at hac
                rw [if_pos hb] at hac
                rw [endP_sum (hL hb) hc4] at hac
                rw [if_neg fun h => hc7 h.2.2] at hac
                exact ⟨_, _, rfl, dec_none (hac), hH.out [false, false]⟩
              · refine cxSkip ?_
                refine qxThen ?_
                refine cxSeq ?_
                refine cxSeq ?_
                refine cxReg ?_
                refine pxV (v := (.slice Ab ((bA r).length) cb)) (fun _ _ hF => opMove rfl (hF.ev 1 rfl)) rfl (fun _ _ => rfl) (kM [false, true, true] rfl rfl) (by decide) ?_
                refine pxV (v := (.int .i64 ((((bA r).length) : Nat) : Int))) (fun _ _ hF => opLen (e := 5) rfl (by kernel_rfl) (hF.ev 0 rfl)) rfl (fun _ _ => rfl) (kM [false, true, true] rfl rfl) (by decide) ?_
                refine pxV (v := (.bool (decide ((bA r).length > 20000)))) (fun _ _ hF => opGtr rfl (hF.ev 0 rfl) rfl (dc (by omega))) rfl (fun _ _ => rfl) (kM [false, true, true] rfl rfl) (by decide) ?_
                refine pxEnd ?_
                refine qxThen ?_
                refine cxP 0 rfl rfl (fun hc8 => ?_) (fun hc8 => ?_)
                · refine cxSeq ?_
                  refine cxReg ?_
                  refine pxV (v := (.string (strL ([])))) (fun _ _ hF => opAssign rfl rfl) rfl (fun _ _ => rfl) (kM [false, false, false] rfl rfl) (by decide) ?_
                  refine pxV (v := (.slice none 0 0)) (fun _ _ hF => opAssign rfl rfl) rfl (fun _ _ => rfl) (kA rfl) (by decide) ?_
                  refine pxV (v := (.int .i64 6)) (fun _ _ hF => opAssign rfl rfl) rfl (fun _ _ => rfl) (kA rfl) (by decide) ?_
                  refine pxEnd ?_
                  refine qxThen ?_
                  refine cxRet ?_
                  refine qxThenR ?_
                  refine qxRet3 2 1 0 rfl rfl rfl rfl ?_
                  have hac := acc_3 hg2 (hte1 (by have := hc3; simpa using this))
                  rw [hr, if_pos hb] at hac
                  rw [endP_sum (hL hb) hc4, if_pos ⟨(Decidable.not_not.1 hg5), (Decidable.not_not.1 hg6), (Decidable.not_not.1 hc7)⟩] at hac
                  exact ⟨_, _, rfl, dec_long hac hc8, hH.out [false, false]⟩
                · refine cxSkip ?_
                  refine qxThen ?_
                  refine cxSeq ?_
                  refine cxReg ?_
                  refine pxV (v := (.string (strL (kindF (rdL s))))) (fun _ _ hF => opMove rfl (hF.ev 2 rfl)) rfl (fun _ _ => rfl) (kM [false, true, false] rfl rfl) (by decide) ?_
                  refine pxV (v := (.slice Ab ((bA r).length) cb)) (fun _ _ hF => opMove rfl (hF.ev 1 rfl)) rfl (fun _ _ => rfl) (kM [true, false] rfl rfl) (by decide) ?_
                  refine pxV (v := (.string (strL (kindF (rdL s))))) (fun _ _ hF => opAssign rfl (hF.ev 1 rfl)) rfl (fun _ _ => rfl) (kM [true, false] rfl rfl) (by decide) ?_
                  refine pxV (v := (.slice Ab ((bA r).length) cb)) (fun _ _ hF => opAssign rfl (hF.ev 1 rfl)) rfl (fun _ _ => rfl) (kM [true, false] rfl rfl) (by decide) ?_
                  refine pxV (v := (.int .i64 0)) (fun _ _ hF => opAssign rfl rfl) rfl (fun _ _ => rfl) (kA rfl) (by decide) ?_
                  refine pxEnd ?_
                  refine qxThen ?_
                  refine cxRet ?_
                  refine qxRet3 2 1 0 rfl rfl rfl rfl ?_
                  have hac := acc_3 hg2 (hte1 (by have := hc3; simpa using this))
                  rw [hr, if_pos hb] at hac
                  rw [endP_sum (hL hb) hc4, if_pos ⟨(Decidable.not_not.1 hg5), (Decidable.not_not.1 hg6), (Decidable.not_not.1 hc7)⟩] at hac
                  exact ⟨_, _, rfl, dec_ok hac hc8 hOb, hH.out1 [false, true] rfl⟩
        · have hrl2 := rdR_le s3
          refine cxSkip ?_
          refine qxThen ?_
          refine cxSeq ?_
          refine cxSeq ?_
          refine cxReg ?_
          refine pxV (v := (.bool true)) (fun _ _ hF => opMove rfl (hF.ev 1 rfl)) rfl (fun _ _ => rfl) (kM [false, false, true, true, true, true] rfl rfl) (by decide) ?_
          refine pxV (v := (.bool false)) (fun _ _ hF => opNot rfl (hF.ev 0 rfl) rfl) rfl (fun _ _ => rfl) (kM [false, true, true, true, true] rfl rfl) (by decide) ?_
          refine pxV (v := (.bool false)) (fun _ _ hF => opMove rfl (hF.ev 0 rfl)) rfl (fun _ _ => rfl) (kM [false, true, true, true, true] rfl rfl) (by decide) ?_
          refine pxV (v := (.string (strL (bl' r)))) (fun _ _ hF => opMove rfl (hF.ev 1 rfl)) rfl (gOn 0 rfl rfl rfl (by decide)) (kM [true, false, true, true, true] rfl rfl) (by decide) ?_
          refine pxV (v := (.string (strL (kindF (rdL s))))) (fun _ _ hF => opMove rfl (hF.ev 3 rfl)) rfl (gOn 1 rfl rfl rfl (by decide)) (kA rfl) (by decide) ?_
          refine pxV (v := (.string (strL (endL ++ (kindF (rdL s)))))) (fun _ _ hF => opAddL (l := endL) (m := (kindF (rdL s))) (r := (endL ++ (kindF (rdL s)))) rfl rfl (hF.ev 0 rfl) (by have hk := kindF_len (rdL s); simp only [endL, List.length_cons, List.length_nil]; omega) (rfl)) rfl (gOn 2 rfl rfl rfl (by decide)) (kM [false, true, true, true, true, true] rfl rfl) (by decide) ?_
          refine pxV (v := (.string (strL ((endL ++ (kindF (rdL s))) ++ dasL)))) (fun _ _ hF => opAddL (l := (endL ++ (kindF (rdL s)))) (m := dasL) (r := ((endL ++ (kindF (rdL s))) ++ dasL)) rfl (hF.ev 0 rfl) rfl (by have hk := kindF_len (rdL s); simp only [endL, dasL, List.length_append, List.length_cons, List.length_nil]; omega) (rfl)) rfl (gOn 2 rfl rfl rfl (by decide)) (kM [false, true, true, true, true, true] rfl rfl) (by decide) ?_
          refine pxV (v := (.bool (decide ((bl' r) ≠ ((endL ++ (kindF (rdL s))) ++ dasL))))) (fun _ _ hF => opNeL (l := (bl' r)) (m := ((endL ++ (kindF (rdL s))) ++ dasL)) rfl (hF.ev 1 rfl) (hF.ev 0 rfl) Iff.rfl) rfl (gOn 2 rfl rfl rfl (by decide)) (kM [false, false, true, true, true, true] rfl rfl) (by decide) ?_
          refine pxV (v := (.bool (decide ((bl' r) ≠ ((endL ++ (kindF (rdL s))) ++ dasL))))) (fun _ _ hF => opPickF rfl (hF.ev 1 rfl) (hF.ev 0 rfl)) rfl (fun _ _ => rfl) (kM [false, false, true, true, true] rfl rfl) (by decide) ?_
          refine pxV (v := (.bool (decide ((bl' r) ≠ ((endL ++ (kindF (rdL s))) ++ dasL))))) (fun _ _ hF => opMove rfl (hF.ev 0 rfl)) rfl (fun _ _ => rfl) (kM [false, true, true, true] rfl rfl) (by decide) ?_
          refine pxSplitP 0 rfl (l1 := [(44, (.bool true)), (7, (.slice Ab ((bA r).length) cb)), (6, (.string (strL (kindF (rdL s))))), (5, (.pointer (some ⟨g1, 0, none⟩)))]) (l2 := [(44, (.bool false)), (7, (.slice Ab ((bA r).length) cb)), (6, (.string (strL (kindF (rdL s))))), (5, (.pointer (some ⟨g1, 0, none⟩)))]) rfl rfl (fun hg9 => ?_) (fun hg9 => ?_)
          · refine pxU rfl (gOff 0 rfl rfl rfl (by decide)) (kM [true, true, true, false] rfl rfl) (by decide) ?_
            refine pxU rfl (gOff 0 rfl rfl rfl (by decide)) (kA rfl) (by decide) ?_
            refine pxU rfl (gOff 0 rfl rfl rfl (by decide)) (kA rfl) (by decide) ?_
            refine pxV (v := (.bool true)) (fun _ _ hF => opPickT rfl (hF.ev 0 rfl) rfl) rfl (fun _ _ => rfl) (kM [false, true, true] rfl rfl) (by decide) ?_
            refine pxEnd ?_
            refine qxThen ?_
            refine cxT 0 rfl rfl ?_
            refine cxSeq ?_
            refine cxReg ?_
            refine pxV (v := (.string (strL ([])))) (fun _ _ hF => opAssign rfl rfl) rfl (fun _ _ => rfl) (kM [false, false, false] rfl rfl) (by decide) ?_
            refine pxV (v := (.slice none 0 0)) (fun _ _ hF => opAssign rfl rfl) rfl (fun _ _ => rfl) (kA rfl) (by decide) ?_
            refine pxV (v := (.int .i64 2)) (fun _ _ hF => opAssign rfl rfl) rfl (fun _ _ => rfl) (kA rfl) (by decide) ?_
            refine pxEnd ?_
            refine qxThen ?_
            refine cxRet ?_
            refine qxThenR ?_
            refine qxRet3 2 1 0 rfl rfl rfl rfl ?_
            have hac := acc_3 hg2 (hte1 (by have := hc3; simpa using this))
            rw [hr] at hac
            rw [if_pos hb] at hac
            rw [endP_no (hL hb) hc4] at hac
            rw [if_neg fun h => hg9 h.1] at hac
            exact ⟨_, _, rfl, dec_none (hac), hH.out [false, false]⟩
          · refine pxV (v := (.pointer (some ⟨g1, 0, none⟩))) (fun _ _ hF => opField (off := 0) rfl (hF.ev 3 rfl) (by kernel_rfl)) rfl (gOn 0 rfl rfl rfl (by decide)) (kM [true, true, true, false] rfl rfl) (by decide) ?_
            refine pxS (v := (.string (strL s3))) (fun w => w.heap[g1]? = some (.cells #[(.string (strL s3))] 56 (0, 0))) (hH.blk 0 rfl) (fun _ _ hF hS => opLoadK hS rfl (hF.ev 0 rfl) (by kernel_rfl) rfl) rfl (gOn 1 rfl rfl rfl (by decide)) (kM [false, true, true, true] rfl rfl) (by decide) ?_
            refine pxV (v := (.bool (decide (s3 ≠ [])))) (fun _ _ hF => opNeL (l := s3) (m := []) rfl (hF.ev 0 rfl) rfl Iff.rfl) rfl (gOn 1 rfl rfl rfl (by decide)) (kM [false, true, true, true] rfl rfl) (by decide) ?_
            refine pxV (v := (.bool (decide (s3 ≠ [])))) (fun _ _ hF => opPickF rfl (hF.ev 1 rfl) (hF.ev 0 rfl)) rfl (fun _ _ => rfl) (kM [false, false, true, true] rfl rfl) (by decide) ?_
            refine pxEnd ?_
            refine qxThen ?_
            refine cxP 0 rfl rfl (fun hc10 => ?_) (fun hc10 => ?_)
            · refine cxSeq ?_
              refine cxReg ?_
              refine pxV (v := (.string (strL ([])))) (fun _ _ hF => opAssign rfl rfl) rfl (fun _ _ => rfl) (kM [false, false, false] rfl rfl) (by decide) ?_
              refine pxV (v := (.slice none 0 0)) (fun _ _ hF => opAssign rfl rfl) rfl (fun _ _ => rfl) (kA rfl) (by decide) ?_
              refine pxV (v := (.int .i64 2)) (fun _ _ hF => opAssign rfl rfl) rfl (fun _ _ => rfl) (kA rfl) (by decide) ?_
              refine pxEnd ?_
              refine qxThen ?_
              refine cxRet ?_
              refine qxThenR ?_
              refine qxRet3 2 1 0 rfl rfl rfl rfl ?_
              have hac := acc_3 hg2 (hte1 (by have := hc3; simpa using this))
              rw [hr] at hac
              rw [if_pos hb] at hac
              rw [endP_no (hL hb) hc4] at hac
              rw [if_neg fun h => hc10 h.2] at hac
              exact ⟨_, _, rfl, dec_none (hac), hH.out [false, false]⟩
            · refine cxSkip ?_
              refine qxThen ?_
              refine cxSeq ?_
              refine cxSeq ?_
              refine cxReg ?_
              refine pxV (v := (.slice Ab ((bA r).length) cb)) (fun _ _ hF => opMove rfl (hF.ev 1 rfl)) rfl (fun _ _ => rfl) (kM [false, true, true] rfl rfl) (by decide) ?_
              refine pxV (v := (.int .i64 ((((bA r).length) : Nat) : Int))) (fun _ _ hF => opLen (e := 5) rfl (by kernel_rfl) (hF.ev 0 rfl)) rfl (fun _ _ => rfl) (kM [false, true, true] rfl rfl) (by decide) ?_
              refine pxV (v := (.bool (decide ((bA r).length > 20000)))) (fun _ _ hF => opGtr rfl (hF.ev 0 rfl) rfl (dc (by omega))) rfl (fun _ _ => rfl) (kM [false, true, true] rfl rfl) (by decide) ?_
              refine pxEnd ?_
              refine qxThen ?_
              refine cxP 0 rfl rfl (fun hc11 => ?_) (fun hc11 => ?_)
              · refine cxSeq ?_
                refine cxReg ?_
                refine pxV (v := (.string (strL ([])))) (fun _ _ hF => opAssign rfl rfl) rfl (fun _ _ => rfl) (kM [false, false, false] rfl rfl) (by decide) ?_
                refine pxV (v := (.slice none 0 0)) (fun _ _ hF => opAssign rfl rfl) rfl (fun _ _ => rfl) (kA rfl) (by decide) ?_
                refine pxV (v := (.int .i64 6)) (fun _ _ hF => opAssign rfl rfl) rfl (fun _ _ => rfl) (kA rfl) (by decide) ?_
                refine pxEnd ?_
                refine qxThen ?_
                refine cxRet ?_
                refine qxThenR ?_
                refine qxRet3 2 1 0 rfl rfl rfl rfl ?_
                have hac := acc_3 hg2 (hte1 (by have := hc3; simpa using this))
                rw [hr, if_pos hb] at hac
                rw [endP_no (hL hb) hc4, if_pos ⟨(Decidable.not_not.1 hg9), (Decidable.not_not.1 hc10)⟩] at hac
                exact ⟨_, _, rfl, dec_long hac hc11, hH.out [false, false]⟩
              · refine cxSkip ?_
                refine qxThen ?_
                refine cxSeq ?_
                refine cxReg ?_
                refine pxV (v := (.string (strL (kindF (rdL s))))) (fun _ _ hF => opMove rfl (hF.ev 2 rfl)) rfl (fun _ _ => rfl) (kM [false, true, false] rfl rfl) (by decide) ?_
                refine pxV (v := (.slice Ab ((bA r).length) cb)) (fun _ _ hF => opMove rfl (hF.ev 1 rfl)) rfl (fun _ _ => rfl) (kM [true, false] rfl rfl) (by decide) ?_
                refine pxV (v := (.string (strL (kindF (rdL s))))) (fun _ _ hF => opAssign rfl (hF.ev 1 rfl)) rfl (fun _ _ => rfl) (kM [true, false] rfl rfl) (by decide) ?_
                refine pxV (v := (.slice Ab ((bA r).length) cb)) (fun _ _ hF => opAssign rfl (hF.ev 1 rfl)) rfl (fun _ _ => rfl) (kM [true, false] rfl rfl) (by decide) ?_
                refine pxV (v := (.int .i64 0)) (fun _ _ hF => opAssign rfl rfl) rfl (fun _ _ => rfl) (kA rfl) (by decide) ?_
                refine pxEnd ?_
                refine qxThen ?_
                refine cxRet ?_
                refine qxRet3 2 1 0 rfl rfl rfl rfl ?_
                have hac := acc_3 hg2 (hte1 (by have := hc3; simpa using this))
                rw [hr, if_pos hb] at hac
                rw [endP_no (hL hb) hc4, if_pos ⟨(Decidable.not_not.1 hg9), (Decidable.not_not.1 hc10)⟩] at hac
                exact ⟨_, _, rfl, dec_ok hac hc11 hOb, hH.out1 [false, true] rfl⟩

end Go.Proofs.YtadbpmcmdcnlfaaDoor
