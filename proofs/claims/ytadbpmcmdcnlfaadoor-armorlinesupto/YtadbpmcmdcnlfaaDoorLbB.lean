/- strings.HasPrefix, Cut, Trim, told over lists. -/
import Derived.Test.YtadbpmcmdcnlfaaDoorShfB
import Derived.Test.YtadbpmcmdcnlfaaDoorBu
import Derived.Test.YtadbpmcmdcnlfaaDoorAc
namespace Go.Proofs.YtadbpmcmdcnlfaaDoor
open Go Go.RowKit
set_option maxRecDepth 100000

theorem prefix_one (l : List UInt8) (c : UInt8) : Lib.hasPrefix l [c] = decide (l.head? = some c) := by
  unfold Lib.hasPrefix
  cases l with
  | nil => rfl
  | cons a r =>
    rw [Bool.eq_iff_iff, List.isPrefixOf_iff_prefix]
    simp [eq_comm]
theorem has_prefix_c (l : List UInt8) (c : UInt8) : Pure Tryd.prog 30 #[.string (strL l), .string (strL [c])] (fun _ => True) (.bool (decide (l.head? = some c))) := fun w _ => by
  have h : Calls Tryd.prog 30 #[.string (strL l), .string (strL [c])] w fun e w' => e = .returned (.bool (Lib.hasPrefix (strL l).data.toList (strL [c]).data.toList)) ∧ w' = w := Any.strings_HasPrefix Tryd.lays99 (strL l) (strL [c]) w
  refine h.mono ?_
  rintro e w' ⟨rfl, rfl⟩
  refine ⟨?_, Below.refl _ _⟩
  rw [← prefix_one]
theorem index1_c (l : List UInt8) (c : UInt8) : Pure Tryd.prog 53 #[.string (strL l), .string (strL [c])] (fun _ => True) (.int .i64 (Lib.indexByte l c)) := fun w _ => by
  have h : Calls Tryd.prog 53 #[.string (strL l), .string ⟨#[c]⟩] w fun e w' => e = .returned (.int .i64 (Lib.indexByte (strL l).data.toList c)) ∧ w' = w := Any.stringslite_Index_one Tryd.lays219 (strL l) c w
  refine h.mono ?_
  rintro e w' ⟨rfl, rfl⟩
  exact ⟨rfl, Below.refl _ _⟩
theorem cutN_index : ∀ l : List UInt8, (Lib.indexByte l 10 = -1 ∧ cutN l = (l, [], false)) ∨ ∃ i : Nat, Lib.indexByte l 10 = (i : Int) ∧ i + 1 ≤ l.length ∧ cutN l = (l.take i, l.drop (i + 1), true)
  | [] => .inl ⟨rfl, rfl⟩
  | b :: r => by
    unfold Lib.indexByte
    by_cases hb : b = 10
    · subst hb
      exact .inr ⟨0, by simp, by simp, by simp [cutN]⟩
    · have hb' : (b == 10) = false := by simpa using hb
      rw [if_neg (by rw [hb']; simp)]
      rcases cutN_index r with ⟨h1, h2⟩ | ⟨i, h1, h2, h3⟩
      · left; rw [h1]; simp [cutN, hb, h2]
      · right
        refine ⟨i + 1, ?_, by simp only [List.length_cons]; omega, by simp [cutN, hb, h3]⟩
        rw [h1, if_neg (by simp)]; rfl

set_option maxHeartbeats 8000000 in
theorem cut_no (l : List UInt8) (hi : Lib.indexByte l 10 = -1) (hcut : cutN l = (l, [], false)) : Pure Tryd.prog 48 #[(.string (strL l)), (.string (strL ([10])))] (fun _ => True) (.tuple #[.string (strL (cutN l).1), .string (strL (cutN l).2.1), .bool (cutN l).2.2]) := by
  refine pure_of (fn := Tryd.f48) Tryd.func48 rfl Tryd.ntmps48 (Nat.le_of_ble_eq_true rfl) rfl ?_
  intro w0 hH hR
  refine cxSeq ?_
  refine cxReg ?_
  refine pxV (v := (.string (strL ([])))) (fun _ _ hF => opAssign rfl rfl) rfl (fun _ _ => rfl) (kA rfl) (by decide) ?_
  refine pxV (v := (.string (strL ([])))) (fun _ _ hF => opAssign rfl rfl) rfl (fun _ _ => rfl) (kM [false, true, true] rfl rfl) (by decide) ?_
  refine pxV (v := (.bool false)) (fun _ _ hF => opAssign rfl rfl) rfl (fun _ _ => rfl) (kM [false, true, true] rfl rfl) (by decide) ?_
  refine pxEnd ?_
  refine qxThen ?_
  refine cxSeq ?_
  refine cxSeq ?_
  refine cxReg ?_
  refine pxV (v := (.string (strL l))) (fun _ _ hF => opMove rfl (hF.ev 1 rfl)) rfl (fun _ _ => rfl) (kM [false, true, true] rfl rfl) (by decide) ?_
  refine pxV (v := (.string (strL ([10])))) (fun _ _ hF => opMove rfl (hF.ev 2 rfl)) rfl (fun _ _ => rfl) (kA rfl) (by decide) ?_
  refine pxM hH (fun _ hF => Does.small ((((index1_c l 10).as (v := .int .i64 (-1)) (by rw [hi])) ).does) (fun w => opCall rfl Tryd.func53 rfl rfl (Evs.cons (v := (.string (strL l))) (hF.ev 1 rfl) (Evs.cons (v := (.string (strL ([10])))) (hF.ev 0 rfl) Evs.nil)) w)) trivial rfl (fun _ _ => rfl) (kM [false, false, true, true] rfl rfl) (by decide) ?_
  clear hH
  rintro _ _ w ⟨rfl, rfl⟩ hH
  replace hH : HH w0 [] [] w := hH.unpad
  refine pxV (v := (.int .i64 (-1))) (fun _ _ hF => opAssign rfl (hF.ev 0 rfl)) rfl (fun _ _ => rfl) (kM [false, true, true] rfl rfl) (by decide) ?_
  refine pxEnd ?_
  refine qxThen ?_
  refine cxSeq ?_
  refine cxReg ?_
  refine pxV (v := (.int .i64 (-1))) (fun _ _ hF => opMove rfl (hF.ev 0 rfl)) rfl (fun _ _ => rfl) (kA rfl) (by decide) ?_
  refine pxV (v := (.bool false)) (fun _ _ hF => opGeq rfl (hF.ev 0 rfl) rfl (decide_eq_false (by decide))) rfl (fun _ _ => rfl) (kM [false, true, true, true] rfl rfl) (by decide) ?_
  refine pxEnd ?_
  refine qxThen ?_
  refine cxF 0 rfl rfl ?_
  refine cxSkip ?_
  refine qxThen ?_
  refine cxSeq ?_
  refine cxReg ?_
  refine pxV (v := (.string (strL l))) (fun _ _ hF => opMove rfl (hF.ev 2 rfl)) rfl (fun _ _ => rfl) (kM [false, false, false, false] rfl rfl) (by decide) ?_
  refine pxV (v := (.string (strL l))) (fun _ _ hF => opAssign rfl (hF.ev 0 rfl)) rfl (fun _ _ => rfl) (kM [false] rfl rfl) (by decide) ?_
  refine pxV (v := (.string (strL ([])))) (fun _ _ hF => opAssign rfl rfl) rfl (fun _ _ => rfl) (kA rfl) (by decide) ?_
  refine pxV (v := (.bool false)) (fun _ _ hF => opAssign rfl rfl) rfl (fun _ _ => rfl) (kA rfl) (by decide) ?_
  refine pxEnd ?_
  refine qxThen ?_
  refine cxRet ?_
  refine qxRet3 2 1 0 rfl rfl rfl rfl ?_
  exact ⟨by rw [hcut], hH.toBelow⟩

set_option maxHeartbeats 8000000 in
theorem cut_at (l : List UInt8) (hl : l.length ≤ 9223372036854775806) (i : Nat) (hi : Lib.indexByte l 10 = (i : Int)) (h1 : i + 1 ≤ l.length) (hcut : cutN l = (l.take i, l.drop (i + 1), true)) : Pure Tryd.prog 48 #[(.string (strL l)), (.string (strL ([10])))] (fun _ => True) (.tuple #[.string (strL (cutN l).1), .string (strL (cutN l).2.1), .bool (cutN l).2.2]) := by
  refine pure_of (fn := Tryd.f48) Tryd.func48 rfl Tryd.ntmps48 (Nat.le_of_ble_eq_true rfl) rfl ?_
  intro w0 hH hR
  refine cxSeq ?_
  refine cxReg ?_
  refine pxV (v := (.string (strL ([])))) (fun _ _ hF => opAssign rfl rfl) rfl (fun _ _ => rfl) (kA rfl) (by decide) ?_
  refine pxV (v := (.string (strL ([])))) (fun _ _ hF => opAssign rfl rfl) rfl (fun _ _ => rfl) (kM [false, true, true] rfl rfl) (by decide) ?_
  refine pxV (v := (.bool false)) (fun _ _ hF => opAssign rfl rfl) rfl (fun _ _ => rfl) (kM [false, true, true] rfl rfl) (by decide) ?_
  refine pxEnd ?_
  refine qxThen ?_
  refine cxSeq ?_
  refine cxSeq ?_
  refine cxReg ?_
  refine pxV (v := (.string (strL l))) (fun _ _ hF => opMove rfl (hF.ev 1 rfl)) rfl (fun _ _ => rfl) (kM [false, true, true] rfl rfl) (by decide) ?_
  refine pxV (v := (.string (strL ([10])))) (fun _ _ hF => opMove rfl (hF.ev 2 rfl)) rfl (fun _ _ => rfl) (kA rfl) (by decide) ?_
  refine pxM hH (fun _ hF => Does.small ((((index1_c l 10).as (v := .int .i64 (i : Int)) (by rw [hi])) ).does) (fun w => opCall rfl Tryd.func53 rfl rfl (Evs.cons (v := (.string (strL l))) (hF.ev 1 rfl) (Evs.cons (v := (.string (strL ([10])))) (hF.ev 0 rfl) Evs.nil)) w)) trivial rfl (fun _ _ => rfl) (kM [false, false, true, true] rfl rfl) (by decide) ?_
  clear hH
  rintro _ _ w ⟨rfl, rfl⟩ hH
  replace hH : HH w0 [] [] w := hH.unpad
  refine pxV (v := (.int .i64 (((i) : Nat) : Int))) (fun _ _ hF => opAssign rfl (hF.ev 0 rfl)) rfl (fun _ _ => rfl) (kM [false, true, true] rfl rfl) (by decide) ?_
  refine pxEnd ?_
  refine qxThen ?_
  refine cxSeq ?_
  refine cxReg ?_
  refine pxV (v := (.int .i64 (((i) : Nat) : Int))) (fun _ _ hF => opMove rfl (hF.ev 0 rfl)) rfl (fun _ _ => rfl) (kA rfl) (by decide) ?_
  refine pxV (v := (.bool true)) (fun _ _ hF => opGeq rfl (hF.ev 0 rfl) rfl (decide_eq_true (by omega))) rfl (fun _ _ => rfl) (kM [false, true, true, true] rfl rfl) (by decide) ?_
  refine pxEnd ?_
  refine qxThen ?_
  refine cxT 0 rfl rfl ?_
  refine cxSeq ?_
  refine cxRegX mixedOrders (by kernel_rfl) ?_
  replace hH := hH.drew
  refine rxV 0 rfl (by kernel_rfl) rfl (fun _ _ => rfl) (fun _ _ hF => opMove rfl (hF.ev 2 rfl)) (kM [false, true, true, true] rfl rfl) (by decide) (v := (.string (strL l))) ?_
  refine rxV 1 rfl (by kernel_rfl) rfl (fun _ _ => rfl) (fun _ _ hF => opMove rfl (hF.ev 1 rfl)) (kA rfl) (by decide) (v := (.int .i64 (((i) : Nat) : Int))) ?_
  refine rxV 2 rfl (by kernel_rfl) rfl (fun _ _ => rfl) (fun _ _ hF => opSlcHL (l := l) (h := i) (r := (l.take i)) rfl (by kernel_rfl) (hF.ev 1 rfl) (hF.ev 0 rfl) rfl (by omega) (rfl)) (kM [false, false, true, true, true] rfl rfl) (by decide) (v := (.string (strL (l.take i)))) ?_
  refine rxV 3 rfl (by kernel_rfl) rfl (fun _ _ => rfl) (fun _ _ hF => opMove rfl (hF.ev 2 rfl)) (kM [true, true, false, true] rfl rfl) (by decide) (v := (.string (strL l))) ?_
  refine rxV 4 rfl (by kernel_rfl) rfl (fun _ _ => rfl) (fun _ _ hF => opMove rfl (hF.ev 2 rfl)) (kM [true, true, false, true] rfl rfl) (by decide) (v := (.int .i64 (((i) : Nat) : Int))) ?_
  refine rxV 5 rfl (by kernel_rfl) rfl (fun _ _ => rfl) (fun _ _ hF => opMove rfl (hF.ev 3 rfl)) (kM [true, true, true, false] rfl rfl) (by decide) (v := (.string (strL ([10])))) ?_
  refine rxV 6 rfl (by kernel_rfl) rfl (fun _ _ => rfl) (fun _ _ hF => opLenL (l := [10]) rfl (by kernel_rfl) (hF.ev 0 rfl)) (kM [false, true, true, true] rfl rfl) (by decide) (v := (.int .i64 1)) ?_
  refine rxV 7 rfl (by kernel_rfl) rfl (fun _ _ => rfl) (fun _ _ hF => opAdd rfl (hF.ev 1 rfl) (hF.ev 0 rfl) (wI (by omega) (by omega) (by omega))) (kM [false, false, true, true] rfl rfl) (by decide) (v := (.int .i64 (((i + 1) : Nat) : Int))) ?_
  refine rxV 8 rfl (by kernel_rfl) rfl (fun _ _ => rfl) (fun _ _ hF => opSlcLL (l := l) (k := i + 1) (r := (l.drop (i + 1))) rfl (by kernel_rfl) (hF.ev 1 rfl) (hF.ev 0 rfl) rfl (by omega) (rfl)) (kM [false, false, true] rfl rfl) (by decide) (v := (.string (strL (l.drop (i + 1))))) ?_
  refine rxV 9 rfl (by kernel_rfl) rfl (fun _ _ => rfl) (fun _ _ hF => opAssign rfl (hF.ev 1 rfl)) (kM [true, false] rfl rfl) (by decide) (v := (.string (strL (l.take i)))) ?_
  refine rxV 10 rfl (by kernel_rfl) rfl (fun _ _ => rfl) (fun _ _ hF => opAssign rfl (hF.ev 1 rfl)) (kM [true, false] rfl rfl) (by decide) (v := (.string (strL (l.drop (i + 1))))) ?_
  refine rxV 11 rfl (by kernel_rfl) rfl (fun _ _ => rfl) (fun _ _ hF => opAssign rfl rfl) (kA rfl) (by decide) (v := (.bool true)) ?_
  refine rxEnd (by kernel_rfl) ?_
  refine qxThen ?_
  refine cxRet ?_
  refine qxThenR ?_
  refine qxRet3 2 1 0 rfl rfl rfl rfl ?_
  exact ⟨by rw [hcut], hH.toBelow⟩

theorem cut_lite (l : List UInt8) (hl : l.length ≤ 9223372036854775806) : Pure Tryd.prog 48 #[.string (strL l), .string (strL [10])] (fun _ => True) (.tuple #[.string (strL (cutN l).1), .string (strL (cutN l).2.1), .bool (cutN l).2.2]) := by
  rcases cutN_index l with ⟨h1, h2⟩ | ⟨i, h1, h2, h3⟩
  · exact cut_no l h1 h2
  · exact cut_at l hl i h1 h2 h3

set_option maxHeartbeats 8000000 in
theorem cut_c (l : List UInt8) (hl : l.length ≤ 9223372036854775806)  : Pure Tryd.prog 40 #[(.string (strL l)), (.string (strL ([10])))] (fun _ => True) (.tuple #[.string (strL (cutN l).1), .string (strL (cutN l).2.1), .bool (cutN l).2.2]) := by
  refine pure_of (fn := Tryd.f40) Tryd.func40 rfl Tryd.ntmps40 (Nat.le_of_ble_eq_true rfl) rfl ?_
  intro w0 hH hR
  refine cxSeq ?_
  refine cxReg ?_
  refine pxV (v := (.string (strL ([])))) (fun _ _ hF => opAssign rfl rfl) rfl (fun _ _ => rfl) (kA rfl) (by decide) ?_
  refine pxV (v := (.string (strL ([])))) (fun _ _ hF => opAssign rfl rfl) rfl (fun _ _ => rfl) (kM [false, true, true] rfl rfl) (by decide) ?_
  refine pxV (v := (.bool false)) (fun _ _ hF => opAssign rfl rfl) rfl (fun _ _ => rfl) (kM [false, true, true] rfl rfl) (by decide) ?_
  refine pxEnd ?_
  refine qxThen ?_
  refine cxSeq ?_
  refine cxReg ?_
  refine pxV (v := (.string (strL l))) (fun _ _ hF => opMove rfl (hF.ev 1 rfl)) rfl (fun _ _ => rfl) (kM [false, false, true] rfl rfl) (by decide) ?_
  refine pxV (v := (.string (strL ([10])))) (fun _ _ hF => opMove rfl (hF.ev 1 rfl)) rfl (fun _ _ => rfl) (kM [true, false] rfl rfl) (by decide) ?_
  refine pxM hH (fun _ hF => Does.small ((cut_lite l hl ).does) (fun w => opCall rfl Tryd.func48 rfl rfl (Evs.cons (v := (.string (strL l))) (hF.ev 1 rfl) (Evs.cons (v := (.string (strL ([10])))) (hF.ev 0 rfl) Evs.nil)) w)) trivial rfl (fun _ _ => rfl) (kM [false, false] rfl rfl) (by decide) ?_
  clear hH
  rintro _ _ w ⟨rfl, rfl⟩ hH
  replace hH : HH w0 [] [] w := hH.unpad
  refine pxV (v := (.string (strL ((cutN l).1)))) (fun _ _ hF => opExtract rfl (hF.ev 0 rfl) rfl) rfl (fun _ _ => rfl) (kA rfl) (by decide) ?_
  refine pxV (v := (.string (strL ((cutN l).2.1)))) (fun _ _ hF => opExtract rfl (hF.ev 1 rfl) rfl) rfl (fun _ _ => rfl) (kA rfl) (by decide) ?_
  refine pxV (v := (.bool ((cutN l).2.2))) (fun _ _ hF => opExtract rfl (hF.ev 2 rfl) rfl) rfl (fun _ _ => rfl) (kM [true, true, false] rfl rfl) (by decide) ?_
  refine pxV (v := (.string (strL ((cutN l).1)))) (fun _ _ hF => opAssign rfl (hF.ev 2 rfl)) rfl (fun _ _ => rfl) (kM [true, true, false] rfl rfl) (by decide) ?_
  refine pxV (v := (.string (strL ((cutN l).2.1)))) (fun _ _ hF => opAssign rfl (hF.ev 2 rfl)) rfl (fun _ _ => rfl) (kM [true, true, false] rfl rfl) (by decide) ?_
  refine pxV (v := (.bool ((cutN l).2.2))) (fun _ _ hF => opAssign rfl (hF.ev 2 rfl)) rfl (fun _ _ => rfl) (kM [true, true, false] rfl rfl) (by decide) ?_
  refine pxEnd ?_
  refine qxThen ?_
  refine cxRet ?_
  refine qxRet3 2 1 0 rfl rfl rfl rfl ?_
  exact ⟨rfl, hH.toBelow⟩

/-- What the length of a needle's longest is: whatever. -/
def MaxL (w : World) : Prop := ∃ m : Int, w.cell? ⟨0, 0, none⟩ = some (.int .i64 m)
theorem cut2_c (l m : List UInt8) (hl : l.length < 4294967281) : Pure Tryd.prog 40 #[.string (strL l), .string (strL m)] MaxL (.tuple #[.string (strL (Lib.cut l m).1), .string (strL (Lib.cut l m).2.1), .bool (Lib.cut l m).2.2]) := fun w hm => by
  obtain ⟨x, hx⟩ := hm
  have h : Calls Tryd.prog 40 #[.string (strL l), .string (strL m)] w fun e w' => e = .returned (.tuple #[.string ⟨(Lib.cut (strL l).data.toList (strL m).data.toList).1.toArray⟩, .string ⟨(Lib.cut (strL l).data.toList (strL m).data.toList).2.1.toArray⟩, .bool (Lib.cut (strL l).data.toList (strL m).data.toList).2.2]) ∧ ∃ n, w' = w.drewN n := Any.strings_Cut Tryd.lays145 (strL l) (strL m) x w (by rw [strL_size]; exact hl) hx
  refine h.mono ?_
  rintro e w' ⟨rfl, n, rfl⟩
  exact ⟨rfl, ⟨rfl, rfl, rfl, Nat.le_refl _, fun _ _ => rfl⟩⟩
theorem trim_c (l cs : List UInt8) (hl : l.length ≤ 9223372036854775807) (hc : cs.length < 4294967281) (ha : cs.all (fun b => decide (b.toNat < 128)) = true) : Pure Tryd.prog 49 #[.string (strL l), .string (strL cs)] (fun _ => True) (.string (strL (Lib.trimS l cs))) := fun w _ => by
  have h := Any.strings_Trim_laid Tryd.lays160 (by kernel_rfl) (strL l) (strL cs) w (by rw [strL_size]; exact hl) (by rw [strL_size]; exact hc) (ascii_of_all ha)
  refine Calls.mono (show Calls Tryd.prog 49 #[.string (strL l), .string (strL cs)] w _ from h) ?_
  rintro e w' ⟨rfl, hb⟩
  exact ⟨rfl, hb⟩

end Go.Proofs.YtadbpmcmdcnlfaaDoor
